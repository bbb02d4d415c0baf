/- Gathered texts. -/
import Derived.Test.YtgakfkjjkobpiaaMB
set_option maxRecDepth 100000
set_option maxHeartbeats 8000000
namespace Go.Proofs.Ytgakfkjjkobpiaa
open Go.RowKit
def evT (es:List Ev)(c k i:Nat):Bool:=((es.getD i zE).1==(c:Int))&&((es.getD i zE).2.1==(k:Int))
theorem evM_hit {es:List Ev}{c k i:Nat}(h3:3≤i)(hi:i<es.length)(hn:∀j,3≤j→j<i→evT es c k j=false)(h:evT es c k i=true):evM es c k=(i:Int):=by
 unfold evM
 have e:(List.range es.length).find? (fun i=>decide (3≤i)&&((es.getD i zE).1==(c:Int))&&((es.getD i zE).2.1==(k:Int)))=some i:=by
  rw[List.find?_eq_some_iff_getElem];refine⟨?_,i,by simpa using hi,by simp,fun j hj=>?_⟩
  ·
   unfold evT at h;rw[Bool.and_assoc,h];simp[h3]
  ·
   simp only[List.getElem_range];by_cases h3:3≤j
   ·
    have:=hn j h3 hj;unfold evT at this;rw[Bool.and_assoc,this];simp
   · simp[h3]
 rw[e]
theorem evM_none {es:List Ev}{c k:Nat}(hn:∀j,3≤j→j<es.length→evT es c k j=false):evM es c k=-1:=by
 unfold evM
 have e:(List.range es.length).find? (fun i=>decide (3≤i)&&((es.getD i zE).1==(c:Int))&&((es.getD i zE).2.1==(k:Int)))=none:=by
  rw[List.find?_eq_none];intro j hj;by_cases h3:3≤j
  ·
   have:=hn j h3 (List.mem_range.1 hj);unfold evT at this;rw[Bool.and_assoc,this];simp
  · simp[h3]
 rw[e]
theorem evM_in (es:List Ev)(c k:Nat)(h:es.length≤12):-1≤evM es c k∧evM es c k≤12:=by
 unfold evM;split
 ·
  rename_i i e;have:=List.mem_range.1 (List.mem_of_find?_eq_some e);omega
 · omega
def setK (rs:List Int)(ev v:Int)(l:List Int):Nat→List Int
 | 0=>l
 |k+1=>if decide (rs.getD k 0=ev)=true then (setK rs ev v l k).set k v else setK rs ev v l k
theorem setK_len (rs:List Int)(ev v:Int)(l:List Int):∀k:Nat,(setK rs ev v l k).length=l.length
 | 0=>rfl
 |k+1=>by rw[setK];split<;>simp[setK_len rs ev v l k]
theorem setK_get {rs:List Int}{ev v:Int}{l:List Int}:∀(k j:Nat),j<l.length→(setK rs ev v l k)[j]? = if j<k∧rs.getD j 0=ev then some v else l[j]?
 | 0,j,h=>by simp[setK]
 |k+1,j,h=>by
  have ih:=setK_get (rs:=rs) (ev:=ev) (v:=v) k j h;rw[setK];by_cases e:rs.getD k 0=ev
  ·
   rw[if_pos (decide_eq_true e),List.getElem?_set,setK_len];by_cases ej:k=j
   ·
    subst ej;rw[if_pos rfl,if_pos h,if_pos ⟨by omega,e⟩]
   ·
    rw[if_neg ej,ih];by_cases h1:j<k∧rs.getD j 0=ev
    · rw[if_pos h1,if_pos ⟨by omega,h1.2⟩]
    · rw[if_neg h1,if_neg (fun h2=>h1 ⟨by omega,h2.2⟩)]
  ·
   rw[if_neg (by simpa using e),ih];by_cases h1:j<k∧rs.getD j 0=ev
   · rw[if_pos h1,if_pos ⟨by omega,h1.2⟩]
   ·
    rw[if_neg h1,if_neg (fun h2=>?_)];by_cases ej:j=k
    · subst ej;exact e h2.2
    · exact h1 ⟨by omega,h2.2⟩
theorem setK_same {rs:List Int}{ev v:Int}{l:List Int}(h:l.length=rs.length):setK rs ev v l rs.length=setR rs ev v l:=by
 apply List.ext_getElem?;intro j;unfold setR;by_cases hj:j<l.length
 ·
  rw[setK_get _ _ hj,List.getElem?_zipWith];rw[List.getElem?_eq_getElem hj,List.getElem?_eq_getElem (show j<rs.length by omega)];have e:rs.getD j 0=rs[j]'(by omega):=by rw[List.getD_eq_getElem?_getD,List.getElem?_eq_getElem (show j<rs.length by omega)];rfl
  simp only[e];by_cases h1:rs[j]'(by omega)=ev
  · rw[if_pos ⟨by omega,h1⟩];simp[h1]
  · rw[if_neg (fun h2=>h1 h2.2)];simp[h1]
 · rw[List.getElem?_eq_none (by rw[setK_len];omega),List.getElem?_eq_none (by rw[List.length_zipWith];omega)]
def canK (dss:List (List Dd))(b:Bd)(k:Nat):List Int:=((List.range k).filter (canM dss b)).map (fun c:Nat=>(c:Int))
theorem canK_hit {dss:List (List Dd)}{b:Bd}{k:Nat}(h:canM dss b k=true):canK dss b (k+1)=canK dss b k++[(k:Int)]:=by
 unfold canK;rw[List.range_succ,List.filter_append,List.map_append];simp[h]
theorem canK_miss {dss:List (List Dd)}{b:Bd}{k:Nat}(h:canM dss b k=false):canK dss b (k+1)=canK dss b k:=by
 unfold canK;rw[List.range_succ,List.filter_append,List.map_append];simp[h]
def ntK (b:Bd)(k:Nat):List Int:=((List.range k).filter (fun c=>!(b.nts.getD c []).isEmpty)).map (fun c:Nat=>10+(c:Int))
theorem ntK_hit {b:Bd}{k:Nat}(h:0<(b.nts.getD k []).length):ntK b (k+1)=ntK b k++[10+(k:Int)]:=by
 have:(b.nts.getD k []).isEmpty=false:=by
  cases e:b.nts.getD k [] with
  |nil=>rw[e] at h;simp at h
  |cons x l=>rfl
 unfold ntK;rw[List.range_succ,List.filter_append,List.map_append];simp only[List.filter_cons,this,Bool.not_false,if_true,List.filter_nil,List.map_cons,List.map_nil]
theorem ntK_miss {b:Bd}{k:Nat}(h:¬ 0<(b.nts.getD k []).length):ntK b (k+1)=ntK b k:=by
 have:(b.nts.getD k []).isEmpty=true:=by
  cases e:b.nts.getD k [] with
  |nil=>rfl
  |cons x l=>rw[e] at h;simp at h
 unfold ntK;rw[List.range_succ,List.filter_append,List.map_append];simp only[List.filter_cons,this,Bool.not_true,Bool.false_eq_true,if_false,List.filter_nil,List.map_nil,List.append_nil]
theorem poss_same (dss:List (List Dd))(b:Bd):canK dss b dss.length++ntK b dss.length=possM dss b:=rfl
theorem canK_len (dss:List (List Dd))(b:Bd)(k:Nat):(canK dss b k).length≤k:=by
 unfold canK;rw[List.length_map];exact Nat.le_trans (List.length_filter_le _ _) (by simp)
theorem ntK_len (b:Bd)(k:Nat):(ntK b k).length≤k:=by
 unfold ntK;rw[List.length_map];exact Nat.le_trans (List.length_filter_le _ _) (by simp)
structure Shp (dss:List (List Dd))(b:Bd)(n:Nat):Prop where
 work:workB dss=true
 plc:b.plc.length=3
 lst:b.lst.length=3
 rws:b.rws.length=3
 nts:b.nts.length=dss.length
 nxt:b.nxt.length=dss.length
 sn:b.sn.length=(idxB rdE (eventsB dss)).length
 fr:b.fr.length=(idxB rdE (eventsB dss)).length
 rl:∀p,(b.rws.getD p []).length≤n
 nl:∀c,(b.nts.getD c []).length≤n
theorem Shp.mono {dss:List (List Dd)}{b:Bd}{n m:Nat}(h:Shp dss b n)(hm:n≤m):Shp dss b m:=
 ⟨h.work,h.plc,h.lst,h.rws,h.nts,h.nxt,h.sn,h.fr,fun p=>Nat.le_trans (h.rl p) hm,fun c=>Nat.le_trans (h.nl c) hm⟩
theorem set_len_le {α:Type}{l:List (List α)}{n:Nat}(h:∀i,(l.getD i []).length≤n)(k:Nat)(z:List α)(hz:z.length≤n):∀i,((l.set k z).getD i []).length≤n:=fun i=>by
 rw[List.getD_eq_getElem?_getD,List.getElem?_set];by_cases e:k=i
 ·
  rw[if_pos e];by_cases hk:k<l.length
  · rw[if_pos hk];exact hz
  · rw[if_neg hk];simp
 · rw[if_neg e,←List.getD_eq_getElem?_getD];exact h i
theorem setR_len {rs:List Int}{ev v:Int}{l:List Int}(h:l.length=rs.length):(setR rs ev v l).length=rs.length:=by unfold setR;rw[List.length_zipWith];omega
theorem Shp.see {dss:List (List Dd)}{b:Bd}{n:Nat}(h:Shp dss b n)(ev v f:Int):Shp dss (seeM (idxB rdE (eventsB dss)) b ev v f) n:=
 ⟨h.work,h.plc,h.lst,h.rws,h.nts,h.nxt,setR_len h.sn,setR_len h.fr,h.rl,h.nl⟩
theorem Shp.ink {dss:List (List Dd)}{b:Bd}{n:Nat}(h:Shp dss b n)(p:Nat)(v ev:Int):Shp dss (inkM b p v ev) (n+1):=
 ⟨h.work,by simp[inkM,h.plc],by simp[inkM,h.lst],by simp[inkM,h.rws],h.nts,h.nxt,h.sn,h.fr,
  set_len_le (fun i=>Nat.le_succ_of_le (h.rl i)) p _ (by have:=h.rl p;rw[List.length_append,List.length_singleton];omega),fun c=>Nat.le_succ_of_le (h.nl c)⟩
theorem Shp.note {dss:List (List Dd)}{b:Bd}{n:Nat}(h:Shp dss b n)(c:Nat)(x:Nt):Shp dss { b with nts:=b.nts.set c (b.nts.getD c []++[x]) } (n+1):=
 ⟨h.work,h.plc,h.lst,h.rws,by simp[h.nts],h.nxt,h.sn,h.fr,fun p=>Nat.le_succ_of_le (h.rl p),
  set_len_le (fun i=>Nat.le_succ_of_le (h.nl i)) c _ (by have:=h.nl c;rw[List.length_append,List.length_singleton];omega)⟩
theorem Shp.less {dss:List (List Dd)}{b:Bd}{n:Nat}(h:Shp dss b n)(c:Nat)(l:List Nt)(hl:l.length≤n):Shp dss { b with nts:=b.nts.set c l } n:=
 ⟨h.work,h.plc,h.lst,h.rws,by simp[h.nts],h.nxt,h.sn,h.fr,h.rl,set_len_le h.nl c _ hl⟩
theorem Shp.deed {dss:List (List Dd)}{b:Bd}{n:Nat}(h:Shp dss b n)(c k:Nat):Shp dss (deedM dss (eventsB dss) b c k) (n+1):=by
 unfold deedM;split
 · exact (h.see _ _ _).mono (Nat.le_succ n)
 ·
  split
  · exact (h.see _ _ _).ink _ _ _
  ·
   split
   · exact h.ink _ _ _
   ·
    split
    · exact h.note c _
    · exact h.mono (Nat.le_succ n)
theorem Shp.next {dss:List (List Dd)}{b:Bd}{n:Nat}(h:Shp dss b n)(c:Nat)(x:Int):Shp dss { b with nxt:=b.nxt.set c x } n:=
 ⟨h.work,h.plc,h.lst,h.rws,h.nts,by simp[h.nxt],h.sn,h.fr,h.rl,h.nl⟩
theorem deed_nxt (dss:List (List Dd))(es:List Ev)(b:Bd)(c k:Nat):(deedM dss es b c k).nxt=b.nxt:=by
 unfold deedM;split
 · rfl
 ·
  split
  · rfl
  ·
   split
   · rfl
   · split<;>rfl
theorem Shp.one {dss:List (List Dd)}{b:Bd}{n:Nat}(h:Shp dss b n)(c:Nat):Shp dss (oneM dss (eventsB dss) b c) (n+1):=by
 have:=(h.deed c (nxN b c)).next c (b.nxt.getD c 0+1);rw[deed_nxt] at this;exact this
theorem Shp.flush {dss:List (List Dd)}{b:Bd}{n:Nat}(h:Shp dss b n)(c:Nat):Shp dss (flushM b c) (n+1):=by
 unfold flushM;split
 · exact h.mono (Nat.le_succ n)
 ·
  rename_i x r e;exact (h.less c r (by have:=h.nl c;rw[e] at this;simp at this;omega)).ink _ _ _
theorem Shp.of {dss:List (List Dd)}{b:Bd}(h:boardB dss b=true):Shp dss b 20:=by
 simp only[boardB,shapeB,fillB,rowsBd,Bool.and_eq_true,decide_eq_true_eq] at h;obtain⟨⟨hw,h1,h2,h3,h4,h5⟩,⟨h6,h7,-⟩,h8,h9⟩:=h;refine⟨hw,h1,h2,h3,h4,h5,h6,h7,fun p=>?_,fun c=>?_⟩
 ·
  by_cases hp:p<3
  ·
   have:=List.all_eq_true.1 h8 p (List.mem_range.2 hp);simp only[allB,Bool.and_eq_true,decide_eq_true_eq] at this;exact this.2
  · rw[List.getD_eq_getElem?_getD,List.getElem?_eq_none (by omega)];simp
 ·
  by_cases hc:c<dss.length
  ·
   have:=List.all_eq_true.1 h9 c (List.mem_range.2 hc);simp only[ckB,Bool.and_eq_true,decide_eq_true_eq] at this;omega
  · rw[List.getD_eq_getElem?_getD,List.getElem?_eq_none (by omega)];simp
theorem board_clerk {dss:List (List Dd)}{b:Bd}(h:boardB dss b=true){c:Nat}(hc:c<dss.length):0≤b.nxt.getD c 0∧b.nxt.getD c 0≤((dss.getD c []).length:Int):=by
 simp only[boardB,Bool.and_eq_true] at h;have:=List.all_eq_true.1 h.2.2.2 c (List.mem_range.2 hc);simp only[ckB,Bool.and_eq_true,decide_eq_true_eq] at this;exact this.1
theorem place_in {dss:List (List Dd)}(h:workB dss=true)(j:Nat)(hj:j<(evsW dss dss.length).length):0≤((evsW dss dss.length).getD j zE).2.2.2.1∧((evsW dss dss.length).getD j zE).2.2.2.1≤2:=by
 simp only[workB,Bool.and_eq_true,decide_eq_true_eq] at h;obtain⟨⟨⟨⟨_,h2⟩,_⟩,_⟩,_⟩:=h;have hok:∀i,i<dss.length→okL (dss.getD i [])=true:=fun i hi=>all_get [] h2 i hi
 obtain⟨⟨t,ht⟩,hg⟩:=evs_good hok dss.length (Nat.le_refl _);by_cases hj3:3≤j
 · exact good_place hok (hg j hj3 hj)
 ·
  obtain⟨b0,b1,b2⟩:=beg_get ht;have:j=0∨j=1∨j=2:=by omega
  rcases this with rfl|rfl|rfl
  · rw[b0];decide
  · rw[b1];decide
  · rw[b2];decide
def fwK (n:Nat)(rs f:List Int):Nat→List Int
 | 0=>List.replicate n 0
 |k+1=>(fwK n rs f k).set (f.getD k 0).toNat (gAdd ((fwK n rs f k).getD (f.getD k 0).toNat 0) (rs.getD k 0))
def fwL (es:List Ev)(f:List Int):List Int:=fwK es.length (idxB rdE es) f (idxB rdE es).length
theorem fw_line {n:Nat}{rs f:List Int}(hn:n≤12):∀k:Nat,(∀i,i<k→0≤rs.getD i 0∧rs.getD i 0<(n:Int))→(∀i,i<k→0≤f.getD i 0∧f.getD i 0<(n:Int)) →
  Web n (fwK n rs f k)∧∀a j:Nat,a<n→(line (fwK n rs f k) a j=true↔∃i,i<k∧f.getD i 0=(a:Int)∧rs.getD i 0=(j:Int))
 | 0,_,_=>⟨Web.zero hn,fun a j _=>by rw[fwK,line_zero];simp⟩
 |k+1,hr,hf=>by
  obtain⟨h1,h2⟩:=fw_line hn k (fun i hi=>hr i (by omega)) (fun i hi=>hf i (by omega));obtain⟨a0,ha0⟩:=Int.eq_ofNat_of_zero_le (hf k (by omega)).1;obtain⟨j0,hj0⟩:=Int.eq_ofNat_of_zero_le (hr k (by omega)).1;have ha:a0<n:=by have:=(hf k (by omega)).2;omega
  have hj:j0<n:=by have:=(hr k (by omega)).2;omega
  rw[fwK,ha0,hj0,Int.toNat_natCast];have hg:=ok_add (h1.2.2 a0 ha) hj;refine⟨h1.set hg.1,fun a j haa=>?_⟩;unfold line;rw[getD_set _ _ _ _ (by rw[h1.2.1];exact ha)];by_cases e:a0=a
  ·
   subst e;rw[if_pos rfl,hg.2 j,Bool.or_eq_true,decide_eq_true_eq];have:=h2 a0 j haa;unfold line at this;rw[this];constructor
   ·
    rintro (⟨i,hi,h⟩|rfl)
    · exact⟨i,by omega,h⟩
    · exact⟨k,by omega,ha0,hj0⟩
   ·
    rintro⟨i,hi,h3,h4⟩;by_cases e2:i=k
    · subst e2;right;rw[hj0] at h4;omega
    · exact .inl ⟨i,by omega,h3,h4⟩
  ·
   rw[if_neg e];have:=h2 a j haa;unfold line at this;rw[this];constructor
   ·
    rintro⟨i,hi,h⟩;exact⟨i,by omega,h⟩
   ·
    rintro⟨i,hi,h3,h4⟩;by_cases e2:i=k
    · subst e2;rw[ha0] at h3;omega
    · exact⟨i,by omega,h3,h4⟩
theorem isB_mem {l:List Int}{n:Int}(h:isB l n=true):n∈l:=by
 unfold isB at h;rw[List.any_eq_true] at h;obtain⟨x,hx,e⟩:=h;rw[beq_iff_eq] at e;rw[←e];exact hx
theorem idxK_mem (f:Ev→Bool)(l:List Ev):∀(k:Nat) (x:Int),x∈idxK f l k→f (l.getD x.toNat zE)=true
 | 0,x,h=>by simp[idxK] at h
 |k+1,x,h=>by
  rw[idxK] at h;split at h
  ·
   rename_i hf;rcases List.mem_append.1 h with h|h
   · exact idxK_mem f l k x h
   ·
    simp only[List.mem_cons,List.not_mem_nil,or_false] at h;rw[h,Int.toNat_natCast];exact hf
  · exact idxK_mem f l k x h
theorem src_use {es:List Ev}{f:List Int}(hx:es.length≤12)(h:srcB (chcL es) f=true):(idxB rdE es).length=f.length ∧
  ∀i,i<(idxB rdE es).length→(0≤f.getD i 0∧f.getD i 0<(es.length:Int))∧(es.getD (f.getD i 0).toNat zE).2.2.2.1=plE es ((idxB rdE es).getD i 0):=by
 unfold srcB at h;rw[Bool.and_eq_true,decide_eq_true_eq] at h;obtain⟨h1,h2⟩:=h;have hc:(chcL es).length=(idxB rdE es).length:=chcK_len _ _ _;refine⟨by omega,fun i hi=>?_⟩;have h3:=(srcK_iff (chcL es).length).1 h2 i (by omega);unfold chcL at h3;rw[chcK_get _ _ _ _ hi] at h3;have h4:=isB_mem h3;unfold idxB at h4;rw[if_pos hx] at h4;have h5:=idxK_lt _ _ _ _ h4;have h6:=idxK_mem _ _ _ _ h4;refine⟨h5,?_⟩;unfold toE at h6;simp only[Bool.and_eq_true,beq_iff_eq] at h6;rw[h6.2];unfold idxB;rw[if_pos hx]
structure MI (dss:List (List Dd))(b:Bd)(a:Ab)(τ:Nat→Nat)(T:Nat)(z:Int):Prop where
 rep:Rep dss b a
 inv:AInv (sysW dss) (stA dss a τ) T z
 nxl:∀c,c<dss.length→a.nx c≤(dss.getD c []).length
 nt:∀c x,x∈a.N c→c<dss.length∧∃k,EvIs dss x c k 0∧k<a.nx c∧(dAt dss c k).1=2∧gAt dss c k=0∧∀k',k<k'→k'<a.nx c→(dAt dss c k').1≠4∧wholeD (dAt dss c k')=false
theorem st_N (dss:List (List Dd))(a:Ab)(τ:Nat→Nat)(c:Nat):(stA dss a τ).N (c:Int)=a.N c:=by
 show (if 0≤(c:Int) then a.N (c:Int).toNat else [])=_;rw[if_pos (by omega),Int.toNat_natCast]
theorem nx_at {dss:List (List Dd)}{b:Bd}{a:Ab}(h:Rep dss b a){c:Nat}(hc:c<dss.length):b.nxt.getD c 0=(a.nx c:Int)∧nxN b c=a.nx c:=by
 have e:b.nxt.getD c 0=(a.nx c:Int):=by rw[h.nxt,map_at _ _ hc]
 exact⟨e,by unfold nxN;rw[e,Int.toNat_natCast]⟩
theorem nts_at {dss:List (List Dd)}{b:Bd}{a:Ab}(h:Rep dss b a){c:Nat}(hc:c<dss.length):b.nts.getD c []=(a.N c).map (ntE dss):=by rw[h.nts,map_at _ _ hc]
theorem lst_at {dss:List (List Dd)}{b:Bd}{a:Ab}(h:Rep dss b a){p:Nat}(hp:p<3):b.lst.getD p 0=(lastA a p:Int)∧b.plc.getD p 0=vlN dss (lastA a p)∧b.rws.getD p []=(a.R p).map Int.ofNat:=by
 refine⟨by rw[h.lst,map_at _ _ hp],by rw[h.plc,map_at _ _ hp],by rw[h.rws,map_at _ _ hp]⟩
theorem last_some {dss:List (List Dd)}{a:Ab}{τ:Nat→Nat}{T:Nat}{z:Int}(h:AInv (sysW dss) (stA dss a τ) T z){p:Nat}(hp:p<3):(a.R p).getLast? = some (lastA a p):=by
 obtain⟨h1,h2,h3,h4,_⟩:=h.beg p hp;have hm:p∈a.R p:=(h.rows p p).2 ⟨⟨h1,fun hn=>by have:=(h.note _ _ hn).2.1;omega⟩,h2,h3⟩;unfold lastA
 cases hl:(a.R p).getLast? with
 |none=>rw[List.getLast?_eq_none_iff.1 hl] at hm;cases hm
 |some y=>rfl
theorem place_d {dss:List (List Dd)}(hb:workB dss=true){c k:Nat}(hc:c<dss.length)(hk:k<(dss.getD c []).length):∃p:Nat,p<3∧(dAt dss c k).2.1=(p:Int):=by
 have hd:=okD_restE (okC_of hb hc k hk);obtain⟨p,hp⟩:=Int.eq_ofNat_of_zero_le hd.1;exact⟨p,by have:=hd.2.1;omega,hp⟩
theorem rdg_at {dss:List (List Dd)}(hb:workB dss=true){b:Bd}{a:Ab}{τ:Nat→Nat}{T:Nat}{z:Int}(M:MI dss b a τ T z){c p:Nat}(hc:c<dss.length)(hp:p<3):
  ∃f:Nat,((stA dss a τ).L (sysW dss) (c:Int) p).getLast? = some f∧rdgM b c p=(vlN dss f,(f:Int)):=by
 have hl:=last_some M.inv hp;obtain⟨e1,e2,_⟩:=lst_at M.rep hp
 have hfil:((a.N c).map (ntE dss)).reverse.find? (fun x=>x.1==(p:Int))=(((a.N c).filter (fun x=>(sysW dss).pl x==p)).getLast?).map (ntE dss):=by
  rw[←List.head?_filter,List.filter_reverse,List.head?_reverse,List.filter_map,List.getLast?_map]
  have:(a.N c).filter ((fun x:Nt=>x.1==(p:Int)) ∘ ntE dss)=(a.N c).filter (fun x=>(sysW dss).pl x==p):=by
   refine List.filter_congr (fun x hx=>?_);obtain⟨_,k,E,_⟩:=M.nt c x hx;obtain⟨q,_,hq⟩:=place_d hb E.hc E.hk;show (plN dss x==(p:Int))=((sysW dss).pl x==p);rw[(sys_at hb E).2.1];unfold plN;rw[E.at hb];show ((dAt dss c k).2.1==(p:Int))=_;rw[hq,Int.toNat_natCast];by_cases e:q=p
   · subst e;simp
   ·
    have:¬((q:Int)=(p:Int)):=by omega
    rw[beq_eq_false_iff_ne.2 this,beq_eq_false_iff_ne.2 e]
  rw[this]
 unfold rdgM;rw[nts_at M.rep hc,hfil];unfold AbsSt.L;rw[st_N];show ∃f,(a.R p++(a.N c).filter (fun x=>(sysW dss).pl x==p)).getLast? = some f∧_;rw[List.getLast?_append]
 cases hq:((a.N c).filter (fun x=>(sysW dss).pl x==p)).getLast? with
 |none=>
  refine⟨lastA a p,by rw[hl];rfl,?_⟩;simp only[Option.map_none];rw[e1,e2]
 |some y=>
  exact⟨y,rfl,rfl⟩
theorem st_bump {dss:List (List Dd)}(hb:workB dss=true)(a:Ab)(τ:Nat→Nat){c:Nat}(hc:c<dss.length)(hk:a.nx c<(dss.getD c []).length)(h4:(dAt dss c (a.nx c)).1=4):stA dss (bumpA a c) τ=stA dss a τ:=by
 unfold stA
 congr 1
 funext j;apply propext;constructor
 ·
  rintro⟨h1,h2⟩;refine⟨h1,?_⟩;rcases (ex_bump hb a hc hk h1).1 h2 with h|⟨i,E⟩
  · exact h
  · exact absurd h4 E.kind
 ·
  rintro⟨h1,h2⟩;exact⟨h1,(ex_bump hb a hc hk h1).2 (.inl h2)⟩
theorem X_one {dss:List (List Dd)}(hb:workB dss=true)(a:Ab){c:Nat}(hc:c<dss.length)(hk:a.nx c<(dss.getD c []).length)(h4:(dAt dss c (a.nx c)).1≠4)(h3:(dAt dss c (a.nx c)).1≠3)(j:Nat):
  (j<(eventsB dss).length∧exA dss (bumpA a c) j=true)↔(j<(eventsB dss).length∧exA dss a j=true)∨j=offN dss c (a.nx c):=by
 constructor
 ·
  rintro⟨h1,h2⟩;rcases (ex_bump hb a hc hk h1).1 h2 with h|⟨i,E⟩
  · exact .inl ⟨h1,h⟩
  · exact .inr (ev_only E h3).1
 ·
  rintro (⟨h1,h2⟩|rfl)
  · exact⟨h1,(ex_bump hb a hc hk h1).2 (.inl h2)⟩
  ·
   have E:=ev_first hc hk h4;exact⟨(E.lt hb).2,(ex_bump hb a hc hk (E.lt hb).2).2 (.inr ⟨0,E⟩)⟩
theorem X_two {dss:List (List Dd)}(hb:workB dss=true)(a:Ab){c:Nat}(hc:c<dss.length)(hk:a.nx c<(dss.getD c []).length)(h3:(dAt dss c (a.nx c)).1=3)(j:Nat):
  (j<(eventsB dss).length∧exA dss (bumpA a c) j=true)↔((j<(eventsB dss).length∧exA dss a j=true)∨j=offN dss c (a.nx c))∨j=offN dss c (a.nx c)+1:=by
 have E1:=ev_first hc hk (by omega:(dAt dss c (a.nx c)).1≠4);have E2:=ev_second hc hk h3;constructor
 ·
  rintro⟨h1,h2⟩;rcases (ex_bump hb a hc hk h1).1 h2 with h|⟨i,E⟩
  · exact .inl (.inl ⟨h1,h⟩)
  ·
   have hi:=E.hi;have hj:=E.hj;unfold numD at hi;rw[if_neg (by omega),if_pos h3] at hi;rcases (by omega:i=0∨i=1) with rfl|rfl
   · exact .inl (.inr hj)
   · exact .inr hj
 ·
  rintro ((⟨h1,h2⟩|rfl)|rfl)
  · exact⟨h1,(ex_bump hb a hc hk h1).2 (.inl h2)⟩
  · exact⟨(E1.lt hb).2,(ex_bump hb a hc hk (E1.lt hb).2).2 (.inr ⟨0,E1⟩)⟩
  · exact⟨(E2.lt hb).2,(ex_bump hb a hc hk (E2.lt hb).2).2 (.inr ⟨1,E2⟩)⟩
theorem rs_in {es:List Ev}(hx:es.length≤12){r:Int}(h:r∈idxB rdE es):∃j:Nat,r=(j:Int)∧j<es.length∧(es.getD j zE).2.2.1=true:=by
 unfold idxB at h;rw[if_pos hx] at h;have h1:=idxK_lt _ _ _ _ h;have h2:=idxK_mem _ _ _ _ h;obtain⟨j,hj⟩:=Int.eq_ofNat_of_zero_le h1.1;rw[hj,Int.toNat_natCast] at h2;exact⟨j,hj,by omega,h2⟩
theorem nodup_get {l:List Int}(hn:l.Nodup){p q:Nat}(hp:p<l.length)(hq:q<l.length)(e:l.getD p 0=l.getD q 0):p=q:=by
 rw[List.getD_eq_getElem?_getD,List.getElem?_eq_getElem hp,List.getD_eq_getElem?_getD,List.getElem?_eq_getElem hq] at e;exact (List.getElem_inj hn).1 e
def plcW (es:List Ev)(p:Nat):List Int:=idxB (toE (p:Int)) es
def okP (rows:List Int)(at0:Nat)(p:List Int)(i:Nat):Bool:=decide (at0+p.length≤rows.length)&&(rows.getD at0 0==(i:Int))&&p.all (fun x=>isB ((rows.drop at0).take p.length) x)
def rowsL (es:List Ev)(rows:List Int):Bool:=
 okP rows 0 (plcW es 0) 0&&okP rows (plcW es 0).length (plcW es 1) 1&&okP rows ((plcW es 0).length+(plcW es 1).length) (plcW es 2) 2&&decide ((plcW es 0).length+(plcW es 1).length+(plcW es 2).length=rows.length)
def rowsB (dss:List (List Dd))(rows:List Int):Bool:=workB dss&&rowsL (eventsB dss) rows
theorem perm_of:∀ {p b:List Int},p.Nodup→(∀x∈p,x∈b)→b.length≤p.length→p.Perm b
 | [],b,_,_,hl=>by
  have:b=[]:=List.eq_nil_of_length_eq_zero (by simpa using hl);subst this;exact List.Perm.refl _
 |x::t,b,hn,hs,hl=>by
  have hx:=hs x (by simp);rw[List.nodup_cons] at hn;have hb:(b.erase x).length=b.length-1:=List.length_erase_of_mem hx
  have ih:=perm_of (p:=t) (b:=b.erase x) hn.2 (fun y hy=>by
   have h1:=hs y (by simp[hy])
   exact (List.mem_erase_of_ne (fun e=>hn.1 (by rw[←e];exact hy))).2 h1) (by rw[hb];simp only[List.length_cons] at hl;omega)
  exact (List.Perm.cons x ih).trans (List.perm_cons_erase hx).symm
theorem mem_isB {l:List Int}{n:Int}(h:n∈l):isB l n=true:=by
 unfold isB;rw[List.any_eq_true];exact⟨n,h,by simp⟩
theorem okP_perm {rows p:List Int}{at0 i:Nat}(hn:p.Nodup)(h:okP rows at0 p i=true):at0+p.length≤rows.length∧p.Perm ((rows.drop at0).take p.length):=by
 unfold okP at h;simp only[Bool.and_eq_true,decide_eq_true_eq,List.all_eq_true] at h;refine⟨h.1.1,perm_of hn (fun x hx=>isB_mem (h.2 x hx)) ?_⟩;rw[List.length_take];omega
theorem plcW_nodup {es:List Ev}(hx:es.length≤12)(p:Nat):(plcW es p).Nodup:=by
 unfold plcW idxB;rw[if_pos hx];exact (idxK_rises _ _ _).imp (fun h e=>by omega)
theorem plcW_mem {es:List Ev}(hx:es.length≤12){p:Nat}{x:Int}(h:x∈plcW es p):(0≤x∧x<(es.length:Int))∧(es.getD x.toNat zE).2.2.2.1=(p:Int):=by
 unfold plcW idxB at h;rw[if_pos hx] at h;have h1:=idxK_lt _ _ _ _ h;have h2:=idxK_mem _ _ _ _ h;unfold toE at h2;simp only[Bool.and_eq_true,beq_iff_eq] at h2;exact⟨h1,h2.2⟩
theorem plcW_len {es:List Ev}(hx:es.length≤12)(p:Nat):(plcW es p).length≤12:=by
 unfold plcW idxB;rw[if_pos hx];have:=idxK_len (toE (p:Int)) es es.length;omega
def allW (es:List Ev):List Int:=plcW es 0++plcW es 1++plcW es 2
theorem allW_nodup {es:List Ev}(hx:es.length≤12):(allW es).Nodup:=by
 have dis:∀ {p q:Nat},p≠q→∀a∈plcW es p,∀b∈plcW es q,a≠b:=fun {p q} hpq a ha b hb e=>by
  have h1:=(plcW_mem hx ha).2;have h2:=(plcW_mem hx hb).2;rw[e,h2] at h1;omega
 unfold allW;rw[List.nodup_append,List.nodup_append];refine⟨⟨plcW_nodup hx 0,plcW_nodup hx 1,dis (by decide)⟩,plcW_nodup hx 2,fun a ha b hb=>?_⟩;rcases List.mem_append.1 ha with h|h
 · exact dis (p:=0) (q:=2) (by decide) a h b hb
 · exact dis (p:=1) (q:=2) (by decide) a h b hb
theorem rows_perm {es:List Ev}{rows:List Int}(hx:es.length≤12)(h:rowsL es rows=true):(allW es).Perm rows:=by
 unfold rowsL at h;simp only[Bool.and_eq_true,decide_eq_true_eq] at h;obtain⟨⟨⟨h0,h1⟩,h2⟩,hl⟩:=h;obtain⟨l0,p0⟩:=okP_perm (plcW_nodup hx 0) h0;obtain⟨l1,p1⟩:=okP_perm (plcW_nodup hx 1) h1;obtain⟨l2,p2⟩:=okP_perm (plcW_nodup hx 2) h2
 have e:rows=rows.take (plcW es 0).length++(rows.drop (plcW es 0).length).take (plcW es 1).length++(rows.drop ((plcW es 0).length+(plcW es 1).length)).take (plcW es 2).length:=by
  have t2:(rows.drop ((plcW es 0).length+(plcW es 1).length)).take (plcW es 2).length=rows.drop ((plcW es 0).length+(plcW es 1).length):=List.take_of_length_le (by rw[List.length_drop];omega);rw[t2,List.append_assoc,←List.drop_drop,List.take_append_drop,List.take_append_drop]
 rw[List.drop_zero] at p0;unfold allW;rw[e];exact (p0.append p1).append p2
theorem rows_use {es:List Ev}{rows:List Int}(hx:es.length≤12)(h:rowsL es rows=true):rows.Nodup∧rows.length≤36∧∀i,i<rows.length→0≤rows.getD i 0∧rows.getD i 0<(es.length:Int):=by
 have hp:=rows_perm hx h;refine⟨hp.nodup_iff.1 (allW_nodup hx),?_,fun i hi=>?_⟩
 ·
  rw[←hp.length_eq];unfold allW;rw[List.length_append,List.length_append];have:=plcW_len hx 0;have:=plcW_len hx 1;have:=plcW_len hx 2;omega
 ·
  have hm:rows.getD i 0∈rows:=by
   rw[List.getD_eq_getElem?_getD,List.getElem?_eq_getElem hi];exact List.getElem_mem hi
  have hm:=hp.mem_iff.2 hm;unfold allW at hm;rcases List.mem_append.1 hm with hm|hm
  ·
   rcases List.mem_append.1 hm with hm|hm
   · exact (plcW_mem hx hm).1
   · exact (plcW_mem hx hm).1
  · exact (plcW_mem hx hm).1
theorem okP_mk {A P C p:List Int}{i:Nat}(hl:P.length=p.length)(hp:P.Perm p)(h0:0<p.length)(hi:P.getD 0 0=(i:Int)):okP (A++P++C) A.length p i=true:=by
 unfold okP;simp only[Bool.and_eq_true,decide_eq_true_eq,beq_iff_eq,List.all_eq_true];refine⟨⟨by rw[List.length_append,List.length_append];omega,?_⟩,fun x hx=>?_⟩
 ·
  rw[List.append_assoc,List.getD_eq_getElem?_getD,List.getElem?_append_right (Nat.le_refl _),Nat.sub_self,List.getElem?_append_left (by omega),←List.getD_eq_getElem?_getD];exact hi
 ·
  refine mem_isB ?_;rw[List.append_assoc,List.drop_left,←hl,List.take_left];exact hp.mem_iff.2 hx
theorem plcW_first {dss:List (List Dd)}(hb:workB dss=true)(p:Nat)(hp:p<3):0<(plcW (eventsB dss) p).length∧(plcW (eventsB dss) p).getD 0 0=(p:Int):=by
 obtain⟨h12,_,_,hf,_⟩:=events_law hb;obtain⟨r,hr⟩:=hf p hp;unfold plcW idxB;rw[eventsB,if_pos hb,if_pos h12,hr];exact⟨by simp,rfl⟩
theorem eventsB_12 (dss:List (List Dd)):(eventsB dss).length≤12:=by
 unfold eventsB;split
 ·
  rename_i hb;exact (events_law hb).1
 · simp
theorem rdI_two {d:Dd}(h:d.1=2)(i:Nat):rdI d i=false:=by unfold rdI;simp[h]
theorem rdI_first {d:Dd}(h:d.1≠2):rdI d 0=true:=by unfold rdI;simp[h]
theorem rdI_second (d:Dd):rdI d 1=false:=by unfold rdI;simp
theorem rep_nxt {dss:List (List Dd)}{b:Bd}{a:Ab}(h:Rep dss b a){c:Nat}(hc:c<dss.length):b.nxt.set c (b.nxt.getD c 0+1)=(List.range dss.length).map (fun c'=>((bumpA a c).nx c':Int)):=by
 rw[(nx_at h hc).1,h.nxt,map_set];refine List.map_congr_left (fun i _=>?_);show _=((if i=c then a.nx c+1 else a.nx i:Nat):Int);split
 · rename_i e;subst e;omega
 · rfl
theorem nx_bump (a:Ab)(c c':Nat):(bumpA a c).nx c'=if c'=c then a.nx c+1 else a.nx c':=rfl
theorem nxl_bump {dss:List (List Dd)}{a:Ab}(h:∀c,c<dss.length→a.nx c≤(dss.getD c []).length){c:Nat}(hk:a.nx c<(dss.getD c []).length):∀c',c'<dss.length→(bumpA a c).nx c'≤(dss.getD c' []).length:=by
 intro c' hc';rw[nx_bump];split
 · rename_i e;subst e;omega
 · exact h c' hc'
theorem nt_bump {dss:List (List Dd)}{b:Bd}{a:Ab}{τ:Nat→Nat}{T:Nat}{z:Int}(M:MI dss b a τ T z){c:Nat}(hp:a.N c≠[]→(dAt dss c (a.nx c)).1≠4∧wholeD (dAt dss c (a.nx c))=false):
  ∀c' x,x∈a.N c'→c'<dss.length∧∃k,EvIs dss x c' k 0∧k<(bumpA a c).nx c'∧(dAt dss c' k).1=2∧gAt dss c' k=0∧∀k',k<k'→k'<(bumpA a c).nx c'→(dAt dss c' k').1≠4∧wholeD (dAt dss c' k')=false:=by
 intro c' x hx;obtain⟨h1,k,E,h2,h3,h4,h5⟩:=M.nt c' x hx;refine⟨h1,k,E,?_,h3,h4,fun k' hk hk'=>?_⟩
 ·
  rw[nx_bump];split
  · rename_i e;subst e;omega
  · exact h2
 ·
  rw[nx_bump] at hk';split at hk'
  ·
   rename_i e;subst e;by_cases e2:k'=a.nx c'
   ·
    subst e2;exact hp (fun e=>by rw[e] at hx;cases hx)
   · exact h5 k' hk (by omega)
  · exact h5 k' hk hk'
theorem oneM_wait {dss:List (List Dd)}(hb:workB dss=true){b:Bd}{a:Ab}{τ:Nat→Nat}{T:Nat}{z:Int}(M:MI dss b a τ T z){c:Nat}(hc:c<dss.length)(hk:a.nx c<(dss.getD c []).length)(h4:(dAt dss c (a.nx c)).1=4)(hN:a.N c=[]):
  MI dss (oneM dss (eventsB dss) b c) (bumpA a c) τ T z:=by
 have hd:deedM dss (eventsB dss) b c (nxN b c)=b:=by
  rw[(nx_at M.rep hc).2];unfold deedM;rw[if_neg (by omega),if_neg (by omega),if_neg (by omega),if_neg (by omega)]
 have hex:∀j,j<(eventsB dss).length→exA dss (bumpA a c) j=exA dss a j:=by
  intro j hj;have:=ex_bump hb a hc hk hj
  cases h1:exA dss a j with
  |true=>exact this.2 (.inl h1)
  |false=>
   cases h2:exA dss (bumpA a c) j with
   |false=>rfl
   |true=>
    rcases this.1 h2 with h|⟨i,E⟩
    · rw[h1] at h;cases h
    · exact absurd h4 E.kind
 have hx:=eventsB_12 dss;unfold oneM;rw[hd];refine⟨⟨rep_nxt M.rep hc,M.rep.nts,M.rep.rws,M.rep.lst,M.rep.plc,?_,?_⟩,by rw[st_bump hb a τ hc hk h4];exact M.inv,nxl_bump M.nxl hk,nt_bump M (fun h=>absurd hN h)⟩
 ·
  show b.fr=_;rw[M.rep.fr];refine List.map_congr_left (fun r hr=>?_);obtain⟨j,rfl,hj,_⟩:=rs_in hx hr;rw[Int.toNat_natCast,hex j hj];rfl
 ·
  show b.sn=_;rw[M.rep.sn];refine List.map_congr_left (fun r hr=>?_);obtain⟨j,rfl,hj,_⟩:=rs_in hx hr;rw[Int.toNat_natCast,hex j hj];rfl
theorem note_ex {dss:List (List Dd)}(hb:workB dss=true){b:Bd}{a:Ab}{τ:Nat→Nat}{T:Nat}{z:Int}(M:MI dss b a τ T z){c x:Nat}(hc:c<dss.length)(hk:a.nx c<(dss.getD c []).length)(h1:(dAt dss c (a.nx c)).1=1)(hg:gAt dss c (a.nx c)=0)(hx:x∈a.N c):
  kepP dss (eventsB dss) x (offN dss c (a.nx c))=true:=by
 obtain⟨_,k,E,h2,h3,h4,h5⟩:=M.nt c x hx;have Ej:=ev_first hc hk (by omega:(dAt dss c (a.nx c)).1≠4);have hlt:x<offN dss c (a.nx c):=(E.ord Ej).2 (.inr ⟨rfl,.inl h2⟩);have hx3:=(E.lt hb).1
 have hcls:clsD dss c k≠clsD dss c (a.nx c):=by
  intro e;rcases ((cls_iff (okC_of hb hc) (okC_of hb hc) E.hk hk E.kind Ej.kind).1 e).2 with h|h
  · omega
  · exact h.1 h4
 have hb1:behP (eventsB dss) x (offN dss c (a.nx c))=true:=by
  unfold behP;rw[E.at hb,Ej.at hb];simp[hlt,hx3]
 have hw1:wholeD (dAt dss c k)=false:=by
  unfold wholeD;rw[h3,show (dAt dss c k).2.2.2=0 from h4];rfl
 have hw2:wholeD (dAt dss c (a.nx c))=false:=by
  unfold wholeD;rw[h1,show (dAt dss c (a.nx c)).2.2.2=0 from hg];rfl
 have hwt:waitsD (dss.getD c []) k (a.nx c)=false:=waitsD_no (fun j hj1 hj2=>(h5 j hj1 hj2).1);unfold kepP;rw[hb1];unfold kepQ;have e1:dOf dss ((eventsB dss).getD x zE)=dAt dss c k:=by unfold dOf;rw[E.at hb];simp only[Int.toNat_natCast]
 have e2:dOf dss ((eventsB dss).getD (offN dss c (a.nx c)) zE)=dAt dss c (a.nx c):=by unfold dOf;rw[Ej.at hb];simp only[Int.toNat_natCast]
 rw[e1,e2,hw1,hw2];unfold rdE csE;rw[E.at hb,Ej.at hb];simp only[Int.toNat_natCast];rw[hwt];have r1:rdI (dAt dss c k) 0=false:=rdI_two h3 0;have r2:rdI (dAt dss c (a.nx c)) 0=true:=rdI_first (by omega);rw[r1,r2];simp[hx3,hcls]
abbrev readA (dss:List (List Dd))(a:Ab)(c f:Nat):Ab:={ bumpA a c with F:=fun i=>if i=offN dss c (a.nx c) then f else a.F i }
theorem oneM_read_t {dss:List (List Dd)}(hb:workB dss=true){b:Bd}{a:Ab}{τ:Nat→Nat}{T:Nat}{z:Int}(M:MI dss b a τ T z)(hT:1≤T){c:Nat}(hc:c<dss.length)(hk:a.nx c<(dss.getD c []).length)(h1:(dAt dss c (a.nx c)).1=1)
  (hz:clsD dss c (a.nx c)=z) (hcan:gAt dss c (a.nx c)=0∨a.N c=[]):
  ∃f,((stA dss a τ).L (sysW dss) (c:Int) (dAt dss c (a.nx c)).2.1.toNat).getLast? = some f∧MI dss (oneM dss (eventsB dss) b c) (readA dss a c f) (fun i=>if i=offN dss c (a.nx c) then T else τ i) T z:=by
 have h4:(dAt dss c (a.nx c)).1≠4:=by omega
 have h3:(dAt dss c (a.nx c)).1≠3:=by omega
 have E:=ev_first hc hk h4;obtain⟨s1,s2,s3,s4⟩:=sys_at hb E;obtain⟨p,hp,ep⟩:=place_d hb hc hk;obtain⟨f,hf,er⟩:=rdg_at hb M hc hp;have hN:=nxt_first hb a τ hc hk h4;have hrd:(sysW dss).rd (offN dss c (a.nx c))=true:=by rw[s3];exact rdI_first (by omega)
 have hpl:(sysW dss).pl (offN dss c (a.nx c))=p:=by rw[s2,ep,Int.toNat_natCast]
 have I:=M.inv.doRead hT hN hrd (by rw[s4];exact hz) (fun x hx=>by
  rw[s1,st_N] at hx;rcases hcan with hg|hg
  · exact note_ex hb M hc hk h1 hg hx
  · rw[hg] at hx;cases hx) (f:=f) (by rw[s1,hpl];exact hf)
 have hx:=eventsB_12 dss
 have hd:deedM dss (eventsB dss) b c (nxN b c)=seeM (idxB rdE (eventsB dss)) b (offN dss c (a.nx c):Int) (vlN dss f) (f:Int):=by
  rw[(nx_at M.rep hc).2];unfold deedM;rw[if_pos h1,evM_at hb hc hk h4,ep,Int.toNat_natCast,er]
 refine⟨f,by rw[ep,Int.toNat_natCast];exact hf,?_⟩
 have hst:stA dss { bumpA a c with F:=fun i=>if i=offN dss c (a.nx c) then f else a.F i } (fun i=>if i=offN dss c (a.nx c) then T else τ i)=(stA dss a τ).doRead T (offN dss c (a.nx c)) f:=by
  unfold stA AbsSt.doRead
  congr 1
  funext j;apply propext;exact X_one hb a hc hk h4 h3 j
 have hexr:∀j,j<(eventsB dss).length→exA dss { bumpA a c with F:=fun i=>if i=offN dss c (a.nx c) then f else a.F i } j=(decide (j=offN dss c (a.nx c))||exA dss a j):=by
  intro j hj;show exA dss (bumpA a c) j=_;have:=X_one hb a hc hk h4 h3 j
  cases q:exA dss (bumpA a c) j with
  |true=>
   rcases this.1 ⟨hj,q⟩ with h|h
   · rw[h.2];simp
   · simp[h]
  |false=>
   have n1:¬j=offN dss c (a.nx c):=fun e=>by have:=(this.2 (.inr e)).2;rw[q] at this;cases this
   have n2:exA dss a j=false:=by
    cases q2:exA dss a j with
    |false=>rfl
    |true=>have:=(this.2 (.inl ⟨hj,q2⟩)).2;rw[q] at this;cases this
   simp[n1,n2]
 unfold oneM;rw[hd];refine⟨⟨rep_nxt M.rep hc,M.rep.nts,M.rep.rws,M.rep.lst,M.rep.plc,?_,?_⟩,by rw[hst];exact I,nxl_bump M.nxl hk,nt_bump M (fun h=>⟨h4,?_⟩)⟩
 ·
  show setR (idxB rdE (eventsB dss)) _ _ b.fr=_;rw[M.rep.fr,set_self];refine List.map_congr_left (fun r hr=>?_);obtain⟨j,rfl,hj,_⟩:=rs_in hx hr;rw[Int.toNat_natCast,hexr j hj];show _=if _ then ((if j=offN dss c (a.nx c) then f else a.F j:Nat):Int) else -1
  by_cases e:j=offN dss c (a.nx c)
  · simp[e]
  · simp[e,show ¬((j:Int)=(offN dss c (a.nx c):Int)) by omega]
 ·
  show setR (idxB rdE (eventsB dss)) _ _ b.sn=_;rw[M.rep.sn,set_self];refine List.map_congr_left (fun r hr=>?_);obtain⟨j,rfl,hj,_⟩:=rs_in hx hr;rw[Int.toNat_natCast,hexr j hj];show _=if _ then vlN dss (if j=offN dss c (a.nx c) then f else a.F j) else -1
  by_cases e:j=offN dss c (a.nx c)
  · simp[e]
  · simp[e,show ¬((j:Int)=(offN dss c (a.nx c):Int)) by omega]
 ·
  rcases hcan with hg|hg
  ·
   unfold wholeD;rw[h1,show (dAt dss c (a.nx c)).2.2.2=0 from hg];rfl
  · exact absurd hg h
theorem oneM_read {dss:List (List Dd)}(hb:workB dss=true){b:Bd}{a:Ab}{τ:Nat→Nat}{T:Nat}{z:Int}(M:MI dss b a τ T z)(hT:1≤T){c:Nat}(hc:c<dss.length)(hk:a.nx c<(dss.getD c []).length)(h1:(dAt dss c (a.nx c)).1=1)
  (hz:clsD dss c (a.nx c)=z) (hcan:gAt dss c (a.nx c)=0∨a.N c=[]):
  ∃f τ',((stA dss a τ).L (sysW dss) (c:Int) (dAt dss c (a.nx c)).2.1.toNat).getLast? = some f∧MI dss (oneM dss (eventsB dss) b c) (readA dss a c f) τ' T z:=by
 obtain⟨f,h,M'⟩:=oneM_read_t hb M hT hc hk h1 hz hcan;exact⟨f,_,h,M'⟩
theorem vl_at {dss:List (List Dd)}(hb:workB dss=true){j c k i:Nat}(E:EvIs dss j c k i):plN dss j=(dAt dss c k).2.1∧vlN dss j=vlI (dAt dss c k) i:=by
 unfold plN vlN;rw[E.at hb];exact⟨rfl,rfl⟩
theorem vlI_w {d:Dd}{i:Nat}(h:rdI d i=false):vlI d i=d.2.2.1:=by unfold vlI;rw[h];rfl
theorem ex_w {dss:List (List Dd)}(hb:workB dss=true)(a:Ab){c:Nat}(hc:c<dss.length)(hk:a.nx c<(dss.getD c []).length)(h2:(dAt dss c (a.nx c)).1=2){j:Nat}(hj:j<(eventsB dss).length)(hr:((eventsB dss).getD j zE).2.2.1=true):
  exA dss (bumpA a c) j=exA dss a j:=by
 have this:=X_one hb a hc hk (by omega) (by omega) j
 have hne:j≠offN dss c (a.nx c):=by
  intro e;have E:=ev_first hc hk (by omega:(dAt dss c (a.nx c)).1≠4);rw[e,E.at hb] at hr;rw[show rdI (dAt dss c (a.nx c)) 0=false from rdI_two h2 0] at hr;cases hr
 cases q2:exA dss a j with
 |true=>exact (this.2 (.inl ⟨hj,q2⟩)).2
 |false=>
  cases q:exA dss (bumpA a c) j with
  |false=>rfl
  |true=>
   rcases this.1 ⟨hj,q⟩ with h|h
   · rw[q2] at h;cases h.2
   · exact absurd h hne
theorem whole_no {d:Dd}(h:d.1≠3)(hg:d.2.2.2=0):wholeD d=false:=by
 unfold wholeD;rw[beq_eq_false_iff_ne.2 h,hg];rfl
abbrev noteA (dss:List (List Dd))(a:Ab)(c:Nat):Ab:={ bumpA a c with N:=fun c'=>if c'=c then a.N c'++[offN dss c (a.nx c)] else a.N c' }
abbrev inkA (dss:List (List Dd))(a:Ab)(c p:Nat):Ab:={ bumpA a c with R:=fun q=>if q=p then a.R q++[offN dss c (a.nx c)] else a.R q }
theorem oneM_note {dss:List (List Dd)}(hb:workB dss=true){b:Bd}{a:Ab}{τ:Nat→Nat}{T:Nat}{z:Int}(M:MI dss b a τ T z){c:Nat}(hc:c<dss.length)(hk:a.nx c<(dss.getD c []).length)(h2:(dAt dss c (a.nx c)).1=2)(hg:gAt dss c (a.nx c)=0):
  MI dss (oneM dss (eventsB dss) b c) (noteA dss a c) τ T z:=by
 have h4:(dAt dss c (a.nx c)).1≠4:=by omega
 have h3:(dAt dss c (a.nx c)).1≠3:=by omega
 have E:=ev_first hc hk h4;obtain⟨s1,s2,s3,s4⟩:=sys_at hb E;have hN:=nxt_first hb a τ hc hk h4;have hrd:(sysW dss).rd (offN dss c (a.nx c))=false:=by rw[s3];exact rdI_two h2 0
 have I:=M.inv.doNote hN hrd;have hx:=eventsB_12 dss
 have hd:deedM dss (eventsB dss) b c (nxN b c)={ b with nts:=b.nts.set c (b.nts.getD c []++[((dAt dss c (a.nx c)).2.1,(dAt dss c (a.nx c)).2.2.1,(offN dss c (a.nx c):Int))]) }:=by
  rw[(nx_at M.rep hc).2];unfold deedM;rw[if_neg (by omega),if_neg (by omega),if_neg (by omega),if_pos h2,evM_at hb hc hk h4]
 have hst:stA dss { bumpA a c with N:=fun c'=>if c'=c then a.N c'++[offN dss c (a.nx c)] else a.N c' } τ=(stA dss a τ).doNote (sysW dss) (offN dss c (a.nx c)):=by
  unfold stA AbsSt.doNote
  congr 1
  ·
   funext j;apply propext;exact X_one hb a hc hk h4 h3 j
  ·
   funext c';rw[s1];show (if 0≤c' then (if c'.toNat=c then a.N c'.toNat++[offN dss c (a.nx c)] else a.N c'.toNat) else [])=if c'=(c:Int) then (if 0≤c' then a.N c'.toNat else [])++[offN dss c (a.nx c)] else (if 0≤c' then a.N c'.toNat else [])
   by_cases h0:0≤c'
   ·
    rw[if_pos h0];by_cases e:c'=(c:Int)
    · subst e;simp
    · rw[if_neg (by omega),if_neg e,if_pos h0]
   · rw[if_neg h0,if_neg (by omega),if_neg h0]
 unfold oneM;rw[hd];refine⟨⟨rep_nxt M.rep hc,?_,M.rep.rws,M.rep.lst,M.rep.plc,?_,?_⟩,by rw[hst];exact I,nxl_bump M.nxl hk,?_⟩
 ·
  show b.nts.set c _=_;rw[nts_at M.rep hc,M.rep.nts,map_set];refine List.map_congr_left (fun i _=>?_);show _=(if i=c then a.N i++[offN dss c (a.nx c)] else a.N i).map (ntE dss);split
  ·
   rename_i e;subst e;rw[List.map_append]
   congr 1
   show _=[ntE dss _];unfold ntE;rw[(vl_at hb E).1,(vl_at hb E).2,vlI_w (rdI_two h2 0)]
  · rfl
 ·
  show b.fr=_;rw[M.rep.fr];refine List.map_congr_left (fun r hr=>?_);obtain⟨j,rfl,hj,hjr⟩:=rs_in hx hr;rw[Int.toNat_natCast];show _=if exA dss (bumpA a c) j=true then _ else _
  rw[ex_w hb a hc hk h2 hj hjr];rfl
 ·
  show b.sn=_;rw[M.rep.sn];refine List.map_congr_left (fun r hr=>?_);obtain⟨j,rfl,hj,hjr⟩:=rs_in hx hr;rw[Int.toNat_natCast];show _=if exA dss (bumpA a c) j=true then _ else _
  rw[ex_w hb a hc hk h2 hj hjr];rfl
 ·
  intro c' x hxm;have old:=nt_bump M (c:=c) (fun _=>⟨h4,whole_no h3 hg⟩);change x∈(if c'=c then a.N c'++[offN dss c (a.nx c)] else a.N c') at hxm;by_cases e:c'=c
  ·
   rw[if_pos e,List.mem_append] at hxm;rcases hxm with hxm|hxm
   · exact old c' x hxm
   ·
    have ex:x=offN dss c (a.nx c):=by simpa using hxm
    subst e;refine⟨hc,a.nx c',by rw[ex];exact E,?_,h2,hg,fun k' h1 h2'=>?_⟩
    ·
     show a.nx c'<(bumpA a c').nx c';rw[nx_bump,if_pos rfl];omega
    ·
     change k'<(bumpA a c').nx c' at h2';rw[nx_bump,if_pos rfl] at h2';omega
  ·
   rw[if_neg e] at hxm;exact old c' x hxm
theorem oneM_ink_t {dss:List (List Dd)}(hb:workB dss=true){b:Bd}{a:Ab}{τ:Nat→Nat}{T:Nat}{z:Int}(M:MI dss b a τ T z)(hT:1≤T){c:Nat}(hc:c<dss.length)(hk:a.nx c<(dss.getD c []).length)(h2:(dAt dss c (a.nx c)).1=2)(hg:gAt dss c (a.nx c)≠0)
  (hz:clsD dss c (a.nx c)=z) (hN0:a.N c=[]):
  MI dss (oneM dss (eventsB dss) b c) (inkA dss a c (dAt dss c (a.nx c)).2.1.toNat) (fun i=>if i=offN dss c (a.nx c) then T else τ i) T z:=by
 have h4:(dAt dss c (a.nx c)).1≠4:=by omega
 have h3:(dAt dss c (a.nx c)).1≠3:=by omega
 have E:=ev_first hc hk h4;obtain⟨s1,s2,s3,s4⟩:=sys_at hb E;obtain⟨p,hp,ep⟩:=place_d hb hc hk;have hN:=nxt_first hb a τ hc hk h4;have hrd:(sysW dss).rd (offN dss c (a.nx c))=false:=by rw[s3];exact rdI_two h2 0
 have hpl:(sysW dss).pl (offN dss c (a.nx c))=p:=by rw[s2,ep,Int.toNat_natCast]
 have I:=M.inv.doInk hT hN hrd (by rw[s4];exact hz) (by rw[s1,st_N];exact hN0);have hx:=eventsB_12 dss;have hg0:0<gAt dss c (a.nx c):=by have:=(g_in (okC_of hb hc) hk).1;omega
 have hd:deedM dss (eventsB dss) b c (nxN b c)=inkM b p (dAt dss c (a.nx c)).2.2.1 (offN dss c (a.nx c):Int):=by
  rw[(nx_at M.rep hc).2];unfold deedM;rw[if_neg (by omega),if_neg (by omega),if_pos ⟨h2,hg0⟩,evM_at hb hc hk h4,ep,Int.toNat_natCast]
 rw[ep,Int.toNat_natCast]
 have hst:stA dss { bumpA a c with R:=fun q=>if q=p then a.R q++[offN dss c (a.nx c)] else a.R q } (fun i=>if i=offN dss c (a.nx c) then T else τ i)=(stA dss a τ).doInk (sysW dss) T (offN dss c (a.nx c)):=by
  unfold stA AbsSt.doInk;rw[hpl]
  congr 1
  funext j;apply propext;exact X_one hb a hc hk h4 h3 j
 have hla:∀q,lastA { bumpA a c with R:=fun q=>if q=p then a.R q++[offN dss c (a.nx c)] else a.R q } q=if q=p then offN dss c (a.nx c) else lastA a q:=by
  intro q;unfold lastA;show ((if q=p then a.R q++[offN dss c (a.nx c)] else a.R q).getLast?).getD q=_;split
  · simp
  · rfl
 unfold oneM;rw[hd];refine⟨⟨rep_nxt M.rep hc,M.rep.nts,?_,?_,?_,?_,?_⟩,by rw[hst];exact I,nxl_bump M.nxl hk,nt_bump M (fun h=>absurd hN0 h)⟩
 ·
  show b.rws.set p (b.rws.getD p []++[(offN dss c (a.nx c):Int)])=_;rw[(lst_at M.rep hp).2.2,M.rep.rws,map_set];refine List.map_congr_left (fun q _=>?_);show _=(if q=p then a.R q++[offN dss c (a.nx c)] else a.R q).map Int.ofNat;split
  · rename_i e;subst e;rw[List.map_append];rfl
  · rfl
 ·
  show b.lst.set p (offN dss c (a.nx c):Int)=_;rw[M.rep.lst,map_set];refine List.map_congr_left (fun q _=>?_);rw[hla];split<;>rfl
 ·
  show b.plc.set p (dAt dss c (a.nx c)).2.2.1=_;rw[M.rep.plc,map_set];refine List.map_congr_left (fun q _=>?_);rw[hla];split
  · rw[(vl_at hb E).2,vlI_w (rdI_two h2 0)]
  · rfl
 ·
  show b.fr=_;rw[M.rep.fr];refine List.map_congr_left (fun r hr=>?_);obtain⟨j,rfl,hj,hjr⟩:=rs_in hx hr;rw[Int.toNat_natCast];show _=if exA dss (bumpA a c) j=true then _ else _
  rw[ex_w hb a hc hk h2 hj hjr];rfl
 ·
  show b.sn=_;rw[M.rep.sn];refine List.map_congr_left (fun r hr=>?_);obtain⟨j,rfl,hj,hjr⟩:=rs_in hx hr;rw[Int.toNat_natCast];show _=if exA dss (bumpA a c) j=true then _ else _
  rw[ex_w hb a hc hk h2 hj hjr];rfl
theorem oneM_ink {dss:List (List Dd)}(hb:workB dss=true){b:Bd}{a:Ab}{τ:Nat→Nat}{T:Nat}{z:Int}(M:MI dss b a τ T z)(hT:1≤T){c:Nat}(hc:c<dss.length)(hk:a.nx c<(dss.getD c []).length)(h2:(dAt dss c (a.nx c)).1=2)(hg:gAt dss c (a.nx c)≠0)
  (hz:clsD dss c (a.nx c)=z) (hN0:a.N c=[]):
  ∃ τ',MI dss (oneM dss (eventsB dss) b c) (inkA dss a c (dAt dss c (a.nx c)).2.1.toNat) τ' T z:=⟨_,oneM_ink_t hb M hT hc hk h2 hg hz hN0⟩
abbrev swapA (dss:List (List Dd))(a:Ab)(c p:Nat):Ab:={ bumpA a c with F:=fun i=>if i=offN dss c (a.nx c) then lastA a p else a.F i,R:=fun q=>if q=p then a.R q++[offN dss c (a.nx c)+1] else a.R q }
abbrev flushA (a:Ab)(c p x:Nat)(rest:List Nat):Ab:={ a with N:=fun c'=>if c'=c then rest else a.N c',R:=fun q=>if q=p then a.R q++[x] else a.R q }
theorem oneM_swap_t {dss:List (List Dd)}(hb:workB dss=true){b:Bd}{a:Ab}{τ:Nat→Nat}{T:Nat}{z:Int}(M:MI dss b a τ T z)(hT:1≤T){c:Nat}(hc:c<dss.length)(hk:a.nx c<(dss.getD c []).length)(h3:(dAt dss c (a.nx c)).1=3)
  (hz:clsD dss c (a.nx c)=z) (hN0:a.N c=[]):
  MI dss (oneM dss (eventsB dss) b c) (swapA dss a c (dAt dss c (a.nx c)).2.1.toNat) (fun i=>if i=offN dss c (a.nx c)+1 then T else if i=offN dss c (a.nx c) then T else τ i) T z:=by
 have h4:(dAt dss c (a.nx c)).1≠4:=by omega
 have E:=ev_first hc hk h4;have E2:=ev_second hc hk h3;obtain⟨s1,s2,s3,s4⟩:=sys_at hb E;obtain⟨r1,r2,r3,r4⟩:=sys_at hb E2;obtain⟨p,hp,ep⟩:=place_d hb hc hk;have hN:=nxt_first hb a τ hc hk h4;have hrd:(sysW dss).rd (offN dss c (a.nx c))=true:=by rw[s3];exact rdI_first (by omega)
 have hrd2:(sysW dss).rd (offN dss c (a.nx c)+1)=false:=by rw[r3];exact rdI_second _
 have hpl:(sysW dss).pl (offN dss c (a.nx c))=p:=by rw[s2,ep,Int.toNat_natCast]
 have hpl2:(sysW dss).pl (offN dss c (a.nx c)+1)=p:=by rw[r2,ep,Int.toNat_natCast]
 have hlast:=last_some M.inv hp
 have I1:=M.inv.doRead hT hN hrd (by rw[s4];exact hz) (fun x hx=>by rw[s1,st_N,hN0] at hx;cases hx) (f:=lastA a p) (by
  rw[s1,hpl];unfold AbsSt.L;rw[st_N,hN0];show (a.R p++[].filter _).getLast? = _;rw[List.filter_nil,List.append_nil]
  exact hlast)
 have hN2:Nxt (sysW dss) ((stA dss a τ).doRead T (offN dss c (a.nx c)) (lastA a p)) (offN dss c (a.nx c)+1):=by
  have hl:=E2.lt hb;refine⟨hl.1,hl.2,?_,?_,?_⟩
  ·
   rintro (⟨_,h⟩|h)
   · rw[ex_at hb E2,decide_eq_true_eq] at h;omega
   · omega
  ·
   intro i h3' hi hck;by_cases e:i=offN dss c (a.nx c)
   · exact .inr e
   · exact .inl (hN.all i h3' (by omega) (by rw[hck,r1,s1]))
  ·
   rintro i (h|h) h3' hck
   · have:=hN.last i h h3' (by rw[hck,r1,s1]);omega
   · omega
 have I:=I1.doInk hT hN2 hrd2 (by rw[r4];exact hz) (by rw[r1];show (stA dss a τ).N (c:Int)=[];rw[st_N];exact hN0);have hx:=eventsB_12 dss;obtain⟨l1,l2,l3⟩:=lst_at M.rep hp
 have hd:deedM dss (eventsB dss) b c (nxN b c)=inkM (seeM (idxB rdE (eventsB dss)) b (offN dss c (a.nx c):Int) (vlN dss (lastA a p)) (lastA a p:Int)) p (dAt dss c (a.nx c)).2.2.1 ((offN dss c (a.nx c):Int)+1):=by
  rw[(nx_at M.rep hc).2];unfold deedM;rw[if_neg (by omega),if_pos h3,evM_at hb hc hk h4,ep,Int.toNat_natCast,l1,l2]
 rw[ep,Int.toNat_natCast]
 have hst:stA dss { bumpA a c with F:=fun i=>if i=offN dss c (a.nx c) then lastA a p else a.F i,R:=fun q=>if q=p then a.R q++[offN dss c (a.nx c)+1] else a.R q } (fun i=>if i=offN dss c (a.nx c)+1 then T else if i=offN dss c (a.nx c) then T else τ i) =
   ((stA dss a τ).doRead T (offN dss c (a.nx c)) (lastA a p)).doInk (sysW dss) T (offN dss c (a.nx c)+1):=by
  unfold stA AbsSt.doInk AbsSt.doRead;rw[hpl2]
  congr 1
  funext j;apply propext;exact X_two hb a hc hk h3 j
 have hexr:∀j,j<(eventsB dss).length→((eventsB dss).getD j zE).2.2.1=true→exA dss (bumpA a c) j=(decide (j=offN dss c (a.nx c))||exA dss a j):=by
  intro j hj hjr;have this:=X_two hb a hc hk h3 j
  have hne:j≠offN dss c (a.nx c)+1:=by
   intro e;rw[e,E2.at hb,show rdI (dAt dss c (a.nx c)) 1=false from rdI_second _] at hjr;cases hjr
  cases q:exA dss (bumpA a c) j with
  |true=>
   rcases this.1 ⟨hj,q⟩ with (h|h)|h
   · rw[h.2];simp
   · simp[h]
   · exact absurd h hne
  |false=>
   have n1:¬j=offN dss c (a.nx c):=fun e=>by have:=(this.2 (.inl (.inr e))).2;rw[q] at this;cases this
   have n2:exA dss a j=false:=by
    cases q2:exA dss a j with
    |false=>rfl
    |true=>have:=(this.2 (.inl (.inl ⟨hj,q2⟩))).2;rw[q] at this;cases this
   simp[n1,n2]
 have hla:∀q,lastA { bumpA a c with F:=fun i=>if i=offN dss c (a.nx c) then lastA a p else a.F i,R:=fun q=>if q=p then a.R q++[offN dss c (a.nx c)+1] else a.R q } q=if q=p then offN dss c (a.nx c)+1 else lastA a q:=by
  intro q;unfold lastA;show ((if q=p then a.R q++[offN dss c (a.nx c)+1] else a.R q).getLast?).getD q=_;split
  · simp
  · rfl
 unfold oneM;rw[hd];refine⟨⟨rep_nxt M.rep hc,M.rep.nts,?_,?_,?_,?_,?_⟩,by rw[hst];exact I,nxl_bump M.nxl hk,nt_bump M (fun h=>absurd hN0 h)⟩
 ·
  show b.rws.set p (b.rws.getD p []++[(offN dss c (a.nx c):Int)+1])=_;rw[l3,M.rep.rws,map_set];refine List.map_congr_left (fun q _=>?_);show _=(if q=p then a.R q++[offN dss c (a.nx c)+1] else a.R q).map Int.ofNat;split
  · rename_i e;subst e;rw[List.map_append];rfl
  · rfl
 ·
  show b.lst.set p ((offN dss c (a.nx c):Int)+1)=_;rw[M.rep.lst,map_set];refine List.map_congr_left (fun q _=>?_);rw[hla];split<;>rfl
 ·
  show b.plc.set p (dAt dss c (a.nx c)).2.2.1=_;rw[M.rep.plc,map_set];refine List.map_congr_left (fun q _=>?_);rw[hla];split
  · rw[(vl_at hb E2).2,vlI_w (rdI_second _)]
  · rfl
 ·
  show setR (idxB rdE (eventsB dss)) _ _ b.fr=_;rw[M.rep.fr,set_self];refine List.map_congr_left (fun r hr=>?_);obtain⟨j,rfl,hj,hjr⟩:=rs_in hx hr;rw[Int.toNat_natCast];show _=if exA dss (bumpA a c) j=true then ((if j=offN dss c (a.nx c) then lastA a p else a.F j:Nat):Int) else -1
  rw[hexr j hj hjr];by_cases e:j=offN dss c (a.nx c)
  · simp[e]
  · simp[e,show ¬((j:Int)=(offN dss c (a.nx c):Int)) by omega]
 ·
  show setR (idxB rdE (eventsB dss)) _ _ b.sn=_;rw[M.rep.sn,set_self];refine List.map_congr_left (fun r hr=>?_);obtain⟨j,rfl,hj,hjr⟩:=rs_in hx hr;rw[Int.toNat_natCast];show _=if exA dss (bumpA a c) j=true then vlN dss (if j=offN dss c (a.nx c) then lastA a p else a.F j) else -1
  rw[hexr j hj hjr];by_cases e:j=offN dss c (a.nx c)
  · simp[e]
  · simp[e,show ¬((j:Int)=(offN dss c (a.nx c):Int)) by omega]
theorem oneM_swap {dss:List (List Dd)}(hb:workB dss=true){b:Bd}{a:Ab}{τ:Nat→Nat}{T:Nat}{z:Int}(M:MI dss b a τ T z)(hT:1≤T){c:Nat}(hc:c<dss.length)(hk:a.nx c<(dss.getD c []).length)(h3:(dAt dss c (a.nx c)).1=3)
  (hz:clsD dss c (a.nx c)=z) (hN0:a.N c=[]):
  ∃ τ',MI dss (oneM dss (eventsB dss) b c) (swapA dss a c (dAt dss c (a.nx c)).2.1.toNat) τ' T z:=⟨_,oneM_swap_t hb M hT hc hk h3 hz hN0⟩
theorem flush_sim_t {dss:List (List Dd)}(hb:workB dss=true){b:Bd}{a:Ab}{τ:Nat→Nat}{T:Nat}{z:Int}(M:MI dss b a τ T z){c:Nat}(hc:c<dss.length){x:Nat}{rest:List Nat}(hN:a.N c=x::rest):
  MI dss (flushM b c) (flushA a c ((sysW dss).pl x) x rest) (fun i=>if i=x then T+1 else τ i) (T+1) ((sysW dss).cs x):=by
 obtain⟨_,k,E,h1,h2,h3,h5⟩:=M.nt c x (by rw[hN];simp);obtain⟨s1,s2,s3,s4⟩:=sys_at hb E;obtain⟨p,hp,ep⟩:=place_d hb E.hc E.hk;have hpl:(sysW dss).pl x=p:=by rw[s2,ep,Int.toNat_natCast]
 have hst0:(stA dss a τ).N (c:Int)=x::rest:=by rw[st_N];exact hN
 have I0:=M.inv.tick ((sysW dss).cs x) (fun i hi h3' e=>by
  obtain⟨c',k',i',E'⟩:=ev_dec hb h3' hi.1.1;rw[(sys_at hb E').2.2.2,s4] at e;have hc':=(cls_iff (okC_of hb E'.hc) (okC_of hb E.hc) E'.hk E.hk E'.kind E.kind).1 e;obtain⟨rfl,hq⟩:=hc'
  have hkk:k'=k:=by
   rcases hq with hq|hq
   · exact hq
   · exact absurd (hq.2.trans h3) hq.1
  subst hkk;have e1:=(ev_only E' (by omega)).1;have e2:=(ev_only E (by omega)).1;have exx:i=x:=by omega
  subst exx
  exact hi.2 (by rw[s1,hst0];simp))
 have I:=I0.doFlush (by omega) hst0 rfl;have hx:=eventsB_12 dss
 have hfl:flushM b c=inkM { b with nts:=b.nts.set c (rest.map (ntE dss)) } p (vlN dss x) (x:Int):=by
  unfold flushM;rw[nts_at M.rep hc,hN,List.map_cons];show inkM _ (plN dss x).toNat (vlN dss x) (x:Int)=_;rw[(vl_at hb E).1,ep,Int.toNat_natCast]
 rw[hpl]
 have hst:stA dss { a with N:=fun c'=>if c'=c then rest else a.N c',R:=fun q=>if q=p then a.R q++[x] else a.R q } (fun i=>if i=x then T+1 else τ i)=(stA dss a τ).doFlush (sysW dss) (T+1) (c:Int) x rest:=by
  unfold stA AbsSt.doFlush;rw[hpl]
  congr 1
  funext c';show (if 0≤c' then (if c'.toNat=c then rest else a.N c'.toNat) else [])=if c'=(c:Int) then rest else (if 0≤c' then a.N c'.toNat else [])
  by_cases h0:0≤c'
  ·
   rw[if_pos h0];by_cases e:c'=(c:Int)
   · subst e;simp
   · rw[if_neg (by omega),if_neg e,if_pos h0]
  · rw[if_neg h0,if_neg (by omega),if_neg h0]
 have hla:∀q,lastA { a with N:=fun c'=>if c'=c then rest else a.N c',R:=fun q=>if q=p then a.R q++[x] else a.R q } q=if q=p then x else lastA a q:=by
  intro q;unfold lastA;show ((if q=p then a.R q++[x] else a.R q).getLast?).getD q=_;split
  · simp
  · rfl
 rw[hfl];refine⟨⟨M.rep.nxt,?_,?_,?_,?_,M.rep.fr,M.rep.sn⟩,by rw[hst];exact I,M.nxl,?_⟩
 ·
  show b.nts.set c _=_;rw[M.rep.nts,map_set];refine List.map_congr_left (fun i _=>?_);show _=(if i=c then rest else a.N i).map (ntE dss);split<;>rfl
 ·
  show b.rws.set p (b.rws.getD p []++[(x:Int)])=_;rw[(lst_at M.rep hp).2.2,M.rep.rws,map_set];refine List.map_congr_left (fun q _=>?_);show _=(if q=p then a.R q++[x] else a.R q).map Int.ofNat;split
  · rename_i e;subst e;rw[List.map_append];rfl
  · rfl
 ·
  show b.lst.set p (x:Int)=_;rw[M.rep.lst,map_set];refine List.map_congr_left (fun q _=>?_);rw[hla];split<;>rfl
 ·
  show b.plc.set p (vlN dss x)=_;rw[M.rep.plc,map_set];refine List.map_congr_left (fun q _=>?_);rw[hla];split<;>rfl
 ·
  intro c' y hy;refine M.nt c' y ?_;change y∈(if c'=c then rest else a.N c') at hy;split at hy
  · rename_i e;subst e;rw[hN];exact List.mem_cons_of_mem _ hy
  · exact hy
theorem flush_sim {dss:List (List Dd)}(hb:workB dss=true){b:Bd}{a:Ab}{τ:Nat→Nat}{T:Nat}{z:Int}(M:MI dss b a τ T z){c:Nat}(hc:c<dss.length){x:Nat}{rest:List Nat}(hN:a.N c=x::rest):
  ∃ τ',MI dss (flushM b c) (flushA a c ((sysW dss).pl x) x rest) τ' (T+1) ((sysW dss).cs x):=⟨_,flush_sim_t hb M hc hN⟩
def rwP (es:List Ev)(rows:List Int)(i k:Nat):Bool:=decide (i<k)&&(plE es (rows.getD i 0)==plE es (rows.getD k 0))
def rwIn (es:List Ev)(rows:List Int)(i:Nat)(st:List Int):Nat→List Int
 | 0=>st
 |k+1=>if rwP es rows i k=true then (rwIn es rows i st k).set (rows.getD i 0).toNat (gAdd ((rwIn es rows i st k).getD (rows.getD i 0).toNat 0) (rows.getD k 0)) else rwIn es rows i st k
def rwAll (es:List Ev)(rows:List Int):Nat→List Int
 | 0=>List.replicate es.length 0
 |i+1=>rwIn es rows i (rwAll es rows i) rows.length
def rwL (es:List Ev)(rows:List Int):List Int:=rwAll es rows rows.length
theorem rwIn_hit {es:List Ev}{rows:List Int}{i k:Nat}(st:List Int)(h:rwP es rows i k=true):rwIn es rows i st (k+1)=(rwIn es rows i st k).set (rows.getD i 0).toNat (gAdd ((rwIn es rows i st k).getD (rows.getD i 0).toNat 0) (rows.getD k 0)):=if_pos h
theorem rwIn_miss {es:List Ev}{rows:List Int}{i k:Nat}(st:List Int)(h:rwP es rows i k=false):rwIn es rows i st (k+1)=rwIn es rows i st k:=if_neg (by simp[h])
theorem web_rwIn {es:List Ev}{rows:List Int}{n i:Nat}{st:List Int}(hr:∀j,j<rows.length→0≤rows.getD j 0∧rows.getD j 0<(n:Int))(hi:i<rows.length)(hst:Web n st):∀m:Nat,m≤rows.length →
  Web n (rwIn es rows i st m)∧∀a b:Nat,a<n→(line (rwIn es rows i st m) a b=true↔line st a b=true∨∃q,q<m∧rwP es rows i q=true∧rows.getD i 0=(a:Int)∧rows.getD q 0=(b:Int))
 | 0,_=>⟨hst,fun a b _=>by simp[rwIn]⟩
 |m+1,hm=>by
  obtain⟨h1,h2⟩:=web_rwIn (es:=es) hr hi hst m (by omega)
  cases hp:rwP es rows i m with
  |false=>
   rw[rwIn_miss st hp];refine⟨h1,fun a b ha=>?_⟩;rw[h2 a b ha];constructor
   ·
    rintro (h|⟨q,hq,r⟩)
    · exact .inl h
    · exact .inr ⟨q,by omega,r⟩
   ·
    rintro (h|⟨q,hq,r⟩)
    · exact .inl h
    ·
     by_cases e:q=m
     · subst e;rw[hp] at r;cases r.1
     · exact .inr ⟨q,by omega,r⟩
  |true=>
   obtain⟨a0,ha0⟩:=Int.eq_ofNat_of_zero_le (hr i hi).1;obtain⟨b0,hb0⟩:=Int.eq_ofNat_of_zero_le (hr m (by omega)).1;have ha:a0<n:=by have:=(hr i hi).2;omega
   have hb:b0<n:=by have:=(hr m (by omega)).2;omega
   have e0:rwIn es rows i st (m+1)=(rwIn es rows i st m).set a0 (gAdd ((rwIn es rows i st m).getD a0 0) (b0:Int)):=by rw[rwIn_hit st hp,ha0,hb0,Int.toNat_natCast]
   rw[e0];have hadd:=ok_add (h1.2.2 a0 ha) hb;refine⟨h1.set hadd.1,fun a b haa=>?_⟩;have e1:=h2 a b haa;unfold line at e1 ⊢;rw[getD_set _ _ _ _ (by rw[h1.2.1];exact ha)];by_cases e:a0=a
   ·
    subst e;simp only[if_true];rw[hadd.2 b,Bool.or_eq_true,e1,decide_eq_true_eq];constructor
    ·
     rintro ((h|⟨q,hq,r1,r2,r3⟩)|h)
     · exact .inl h
     · exact .inr ⟨q,by omega,r1,r2,r3⟩
     · exact .inr ⟨m,by omega,hp,ha0,by rw[hb0,h]⟩
    ·
     rintro (h|⟨q,hq,r1,r2,r3⟩)
     · exact .inl (.inl h)
     ·
      by_cases eq:q=m
      ·
       subst eq;right;rw[hb0] at r3;omega
      · exact .inl (.inr ⟨q,by omega,r1,r2,r3⟩)
   ·
    simp only[e,if_false];rw[e1];constructor
    ·
     rintro (h|⟨q,hq,r1,r2,r3⟩)
     · exact .inl h
     · exact .inr ⟨q,by omega,r1,r2,r3⟩
    ·
     rintro (h|⟨q,hq,r1,r2,r3⟩)
     · exact .inl h
     · exfalso;rw[ha0] at r2;omega
theorem web_rwAll {es:List Ev}{rows:List Int}(hx:es.length≤12)(hr:∀j,j<rows.length→0≤rows.getD j 0∧rows.getD j 0<(es.length:Int)):∀m:Nat,m≤rows.length →
  Web es.length (rwAll es rows m)∧∀a b:Nat,a<es.length→(line (rwAll es rows m) a b=true↔∃i q,i<m∧q<rows.length∧rwP es rows i q=true∧rows.getD i 0=(a:Int)∧rows.getD q 0=(b:Int))
 | 0,_=>⟨Web.zero hx,fun a b _=>by unfold rwAll;rw[line_zero];simp⟩
 |m+1,hm=>by
  obtain⟨h1,h2⟩:=web_rwAll hx hr m (by omega);obtain⟨g1,g2⟩:=web_rwIn (es:=es) hr (show m<rows.length by omega) h1 rows.length (Nat.le_refl _);refine⟨g1,fun a b ha=>?_⟩;show line (rwIn es rows m (rwAll es rows m) rows.length) a b=true↔_;rw[g2 a b ha,h2 a b ha];constructor
  ·
   rintro (⟨i,q,hi,r⟩|⟨q,hq,r⟩)
   · exact⟨i,q,by omega,r⟩
   · exact⟨m,q,by omega,hq,r⟩
  ·
   rintro⟨i,q,hi,hq,r⟩;by_cases e:i=m
   · subst e;exact .inr ⟨q,hq,r⟩
   · exact .inl ⟨i,q,by omega,hq,r⟩
theorem getD_zip (f:Int→Int→Int){n:Nat}{a b:List Int}(ha:a.length=n)(hb:b.length=n){i:Nat}(hi:i<n):(List.zipWith f a b).getD i 0=f (a.getD i 0) (b.getD i 0):=by
 rw[List.getD_eq_getElem?_getD,List.getElem?_zipWith,List.getD_eq_getElem?_getD,List.getD_eq_getElem?_getD,List.getElem?_eq_getElem (show i<a.length by omega),List.getElem?_eq_getElem (show i<b.length by omega)];rfl
theorem web_mix (f:Int→Int→Int)(hf:∀ {n:Nat} {s t:Int},okB n s=true→okB n t=true→okB n (f s t)=true){n:Nat}{a b:List Int}(ha:Web n a)(hb:Web n b):Web n (List.zipWith f a b):=by
 refine⟨ha.1,by rw[List.length_zipWith,ha.2.1,hb.2.1];omega,fun i hi=>?_⟩;rw[getD_zip f ha.2.1 hb.2.1 hi];exact hf (ha.2.2 i hi) (hb.2.2 i hi)
theorem mixL_web (f:Int→Int→Int){n:Nat}{a b:List Int}(ha:Web n a)(hb:Web n b):mixL f a b=List.zipWith f a b:=by
 unfold mixL;rw[if_pos (twoB_iff.2 ⟨by rw[ha.2.1,hb.2.1],ha.b,hb.b⟩)]
theorem web_join {n:Nat}{a b:List Int}(ha:Web n a)(hb:Web n b):Web n (mixL orI a b)∧∀i j,i<n→line (mixL orI a b) i j=(line a i j||line b i j):=by
 rw[mixL_web _ ha hb];refine⟨web_mix orI (fun h k=>(ok_or h k).1) ha hb,fun i j hi=>?_⟩;unfold line;rw[getD_zip orI ha.2.1 hb.2.1 hi];exact (ok_or (ha.2.2 i hi) (hb.2.2 i hi)).2 j
def inL (a b:List Int):Bool:=decide (a.length=b.length)&&(List.range a.length).all fun i=>notI (a.getD i 0) (b.getD i 0)==0
inductive Way (zs:List Int):Nat→Nat→Prop
 |one {i j:Nat} (h:line zs i j=true):Way zs i j
 |more {i k j:Nat} (h:Way zs i k) (g:line zs k j=true):Way zs i j
theorem Way.trans {zs:List Int}{i k j:Nat}(h:Way zs i k)(g:Way zs k j):Way zs i j:=by
 induction g with
 |one g=>exact .more h g
 |more _ g ih=>exact .more ih g
theorem Way.lt {n:Nat}{zs:List Int}(hz:Web n zs){i j:Nat}(hi:i<n)(h:Way zs i j):j<n:=by
 induction h with
 |one g=>exact hz.lt hi g
 |more _ g ih=>exact hz.lt ih g
theorem wayAll_sound {n:Nat}{zs:List Int}(hz:Web n zs)(m:Nat)(hm:m≤n){i:Nat}(hi:i<n){j:Nat}(h:line (wayAll zs m) i j=true):Way zs i j:=by
 induction m generalizing i j with
 |zero=>exact .one h
 |succ m ih=>
  rw[line_wayAll hz m (by omega) hi,Bool.or_eq_true,Bool.and_eq_true] at h;rcases h with h|⟨h1,h2⟩
  · exact ih (by omega) hi h
  · exact (ih (by omega) hi h1).trans (ih (by omega) (by omega) h2)
theorem wayAll_mono {n:Nat}{zs:List Int}(hz:Web n zs)(m:Nat)(hm:m<n){i:Nat}(hi:i<n){j:Nat}(h:line (wayAll zs m) i j=true):line (wayAll zs (m+1)) i j=true:=by
 rw[line_wayAll hz m hm hi,h];rfl
theorem wayAll_meet {n:Nat}{zs:List Int}(hz:Web n zs)(m:Nat)(hm:m≤n){i k j:Nat}(hi:i<n)(hk:k<m)(h1:line (wayAll zs m) i k=true)(h2:line (wayAll zs m) k j=true):line (wayAll zs m) i j=true:=by
 induction m generalizing i k j with
 |zero=>omega
 |succ m ih=>
  have hmn:m<n:=by omega
  have ihm:=@ih (by omega);rw[line_wayAll hz m hmn hi,Bool.or_eq_true,Bool.and_eq_true] at h1;rw[line_wayAll hz m hmn (show k<n by omega),Bool.or_eq_true,Bool.and_eq_true] at h2;rw[line_wayAll hz m hmn hi,Bool.or_eq_true,Bool.and_eq_true];by_cases e:k=m
  ·
   subst e
   have h1':line (wayAll zs k) i k=true:=by
    rcases h1 with h|h
    · exact h
    · exact h.1
   have h2':line (wayAll zs k) k j=true:=by
    rcases h2 with h|h
    · exact h
    · exact h.2
   exact .inr ⟨h1',h2'⟩
  ·
   have hkm:k<m:=by omega
   rcases h1 with h1|⟨h1,h1'⟩<;>rcases h2 with h2|⟨h2,h2'⟩
   · exact .inl (ihm hi hkm h1 h2)
   · exact .inr ⟨ihm hi hkm h1 h2,h2'⟩
   · exact .inr ⟨h1,ihm hmn hkm h1' h2⟩
   · exact .inr ⟨h1,h2'⟩
theorem ways_eq {n:Nat}{zs:List Int}(hz:Web n zs):waysL zs=wayAll zs n:=by
 unfold waysL;rw[if_pos hz.b,hz.2.1]
theorem wayAll_old {n:Nat}{zs:List Int}(hz:Web n zs)(m:Nat)(hm:m≤n){i:Nat}(hi:i<n){j:Nat}(h:line zs i j=true):line (wayAll zs m) i j=true:=by
 induction m with
 |zero=>exact h
 |succ m ih=>exact wayAll_mono hz m (by omega) hi (ih (by omega))
theorem ways_line {n:Nat}{zs:List Int}(hz:Web n zs){i:Nat}(hi:i<n){j:Nat}:line (waysL zs) i j=true↔Way zs i j:=by
 rw[ways_eq hz];constructor
 · exact wayAll_sound hz n (Nat.le_refl _) hi
 ·
  intro h
  induction h with
  |one g=>exact wayAll_old hz n (Nat.le_refl _) hi g
  |more h g ih=>
   have hk:=h.lt hz hi;exact wayAll_meet hz n (Nat.le_refl _) hi hk ih (wayAll_old hz n (Nat.le_refl _) hk g)
def roundB (zs:List Int):Bool:=webB zs&&(List.range zs.length).any fun i=>line (waysL zs) i i
theorem round_iff {n:Nat}{zs:List Int}(hz:Web n zs):roundB zs=true↔∃i,i<n∧Way zs i i:=by
 unfold roundB;rw[hz.b,Bool.true_and,List.any_eq_true,hz.2.1];constructor
 · rintro⟨i,hi,h⟩;exact⟨i,List.mem_range.1 hi,(ways_line hz (List.mem_range.1 hi)).1 h⟩
 · rintro⟨i,hi,h⟩;exact⟨i,List.mem_range.2 hi,(ways_line hz hi).2 h⟩
theorem nodup_sub_len {a b:List Int}(h:a.Nodup)(hs:∀x∈a,x∈b):a.length≤b.length:=by
 induction a generalizing b with
 |nil=>simp
 |cons x a ih=>
  rw[List.nodup_cons] at h;have hx:=hs x (by simp);have:=ih (b:=b.erase x) h.2 (fun y hy=>(List.mem_erase_of_ne (fun e=>h.1 (by rw[←e];exact hy))).2 (hs y (by simp[hy])));rw[List.length_erase_of_mem hx] at this;have:=List.length_pos_of_mem hx;simp;omega
def leads (zs:List Int)(n i:Nat):Nat:=(List.range n).countP fun j=>line (waysL zs) j i
theorem idxB_range {f:Ev→Bool}{es:List Ev}(hx:es.length≤12){i:Nat}(hi:i<(idxB f es).length):0≤(idxB f es).getD i 0∧(idxB f es).getD i 0<(es.length:Int):=by
 have hm:(idxB f es).getD i 0∈idxB f es:=by
  rw[List.getD_eq_getElem?_getD,List.getElem?_eq_getElem hi];exact List.getElem_mem hi
 unfold idxB at hm ⊢;rw[if_pos hx] at hm ⊢;exact idxK_lt f es _ _ hm
theorem rises_nodup:∀l:List Int,l.Pairwise (·<·)→l.Nodup:=fun l h=>h.imp (fun h e=>by omega)
def taleB (dss:List (List Dd))(f rows:List Int):Bool:=sourceB dss f&&rowsB dss rows
def agK (n:Nat)(rs f row:List Int):Nat→List Int
 | 0=>List.replicate n 0
 |k+1=>(agK n rs f row k).set (rs.getD k 0).toNat (row.getD (f.getD k 0).toNat 0)
def agL (es:List Ev)(f rows:List Int):List Int:=agK es.length (idxB rdE es) f (rwL es rows) (idxB rdE es).length
theorem web_ag {n:Nat}{rs f row:List Int}(hn:n≤12)(hd:rs.Nodup)(hrow:Web n row):∀k:Nat,k≤rs.length→(∀i,i<k→0≤rs.getD i 0∧rs.getD i 0<(n:Int))→(∀i,i<k→0≤f.getD i 0∧f.getD i 0<(n:Int)) →
  Web n (agK n rs f row k)∧∀a j:Nat,a<n→(line (agK n rs f row k) a j=true↔∃i,i<k∧rs.getD i 0=(a:Int)∧line row (f.getD i 0).toNat j=true)
 | 0,_,_,_=>⟨Web.zero hn,fun a j _=>by unfold agK;rw[line_zero];simp⟩
 |k+1,hk,hr,hf=>by
  obtain⟨h1,h2⟩:=web_ag hn hd hrow k (by omega) (fun i hi=>hr i (by omega)) (fun i hi=>hf i (by omega));obtain⟨a0,ha0⟩:=Int.eq_ofNat_of_zero_le (hr k (by omega)).1;obtain⟨b0,hb0⟩:=Int.eq_ofNat_of_zero_le (hf k (by omega)).1;have ha:a0<n:=by have:=(hr k (by omega)).2;omega
  have hb:b0<n:=by have:=(hf k (by omega)).2;omega
  have e0:agK n rs f row (k+1)=(agK n rs f row k).set a0 (row.getD b0 0):=by rw[agK,ha0,hb0,Int.toNat_natCast,Int.toNat_natCast]
  rw[e0];refine⟨h1.set (hrow.2.2 b0 hb),fun a j haa=>?_⟩;have e1:=h2 a j haa;unfold line at e1 ⊢;rw[getD_set _ _ _ _ (by rw[h1.2.1];exact ha)];by_cases e:a0=a
  ·
   subst e;simp only[if_true];constructor
   ·
    intro h;refine⟨k,by omega,ha0,?_⟩;rw[hb0,Int.toNat_natCast];exact h
   ·
    rintro⟨i,hi,r1,r2⟩;have:i=k:=nodup_get hd (by omega) (by omega) (by rw[r1,ha0]);subst this;rw[hb0,Int.toNat_natCast] at r2;exact r2
  ·
   simp only[e,if_false];rw[e1];constructor
   ·
    rintro⟨i,hi,r⟩;exact⟨i,by omega,r⟩
   ·
    rintro⟨i,hi,r1,r2⟩;by_cases ei:i=k
    · subst ei;rw[ha0] at r1;omega
    · exact⟨i,by omega,r1,r2⟩
theorem idxK_has (f:Ev→Bool)(l:List Ev){i:Nat}(hf:f (l.getD i zE)=true):∀k:Nat,i<k→(i:Int)∈idxK f l k
 | 0,h=>by omega
 |k+1,h=>by
  rw[idxK];by_cases e:i=k
  ·
   subst e;rw[if_pos hf];exact List.mem_append.2 (.inr (by simp))
  ·
   have ih:=idxK_has f l hf k (by omega);split
   · exact List.mem_append.2 (.inl ih)
   · exact ih
theorem tale_use {dss:List (List Dd)}{f rows:List Int}(h:taleB dss f rows=true):workB dss=true∧srcB (chcL (eventsB dss)) f=true∧rowsL (eventsB dss) rows=true:=by
 unfold taleB sourceB rowsB at h;simp only[Bool.and_eq_true] at h;exact⟨h.1.1,h.1.2,h.2.2⟩
theorem behP_lt {es:List Ev}{i j:Nat}(h:behP es i j=true):i<j:=by
 apply Classical.byContradiction;intro hn;rw[behP_up (by omega)] at h;cases h
theorem up_way {n:Nat}{zs:List Int}(hz:Web n zs)(μ:Nat→Nat)(h:∀i j,i<n→j<n→line zs i j=true→μ i<μ j){i j:Nat}(hi:i<n)(hw:Way zs i j):μ i<μ j:=by
 induction hw with
 |one g=>exact h _ _ hi (hz.lt hi g) g
 |more g l ih=>exact Nat.lt_trans ih (h _ _ (g.lt hz hi) (hz.lt (g.lt hz hi) l) l)
theorem up_round {n:Nat}{zs:List Int}(hz:Web n zs)(μ:Nat→Nat)(h:∀i j,i<n→j<n→line zs i j=true→μ i<μ j):roundB zs=false:=by
 cases hr:roundB zs with
 |false=>rfl
 |true=>
  obtain⟨i,hi,hw⟩:=(round_iff hz).1 hr;exact absurd (up_way hz μ h hi hw) (Nat.lt_irrefl _)
def pwL (es:List Ev)(f rows:List Int):List Int:=mixL orI (mixL orI (plcL es) (fwL es f)) (mixL orI (rwL es rows) (agL es f rows))
def owP (es:List Ev)(i k:Nat):Bool:=decide (3≤i)&&decide (3≤k)&&((es.getD i zE).1==(es.getD k zE).1)
def owL (es:List Ev)(f:List Int):List Int:=offAll (owP es) es.length (fwL es f) es.length
def swL (dss:List (List Dd))(es:List Ev)(f rows:List Int):List Int:=mixL orI (mixL orI (kepL dss es) (owL es f)) (mixL orI (rwL es rows) (agL es f rows))
def xwL (es:List Ev)(f rows:List Int):List Int:=mixL orI (mixL orI (behL es) (fwL es f)) (mixL orI (rwL es rows) (agL es f rows))
theorem rd_in {es:List Ev}(hx:es.length≤12){i:Nat}(hi:i<(idxB rdE es).length):0≤(idxB rdE es).getD i 0∧(idxB rdE es).getD i 0<(es.length:Int):=idxB_range hx hi
theorem rd_nodup {es:List Ev}(hx:es.length≤12):(idxB rdE es).Nodup:=by
 unfold idxB;rw[if_pos hx];exact rises_nodup _ (idxK_rises rdE es _)
structure Webs (es:List Ev)(f rows:List Int):Prop where
 fw:Web es.length (fwL es f)
 rw':Web es.length (rwL es rows)
 ag:Web es.length (agL es f rows)
 fwl:∀a j:Nat,a<es.length→(line (fwL es f) a j=true↔∃i,i<(idxB rdE es).length∧f.getD i 0=(a:Int)∧(idxB rdE es).getD i 0=(j:Int))
 rwl:∀a b:Nat,a<es.length→(line (rwL es rows) a b=true↔∃i q,i<rows.length∧q<rows.length∧rwP es rows i q=true∧rows.getD i 0=(a:Int)∧rows.getD q 0=(b:Int))
 agl:∀a j:Nat,a<es.length→(line (agL es f rows) a j=true↔∃i,i<(idxB rdE es).length∧(idxB rdE es).getD i 0=(a:Int)∧line (rwL es rows) (f.getD i 0).toNat j=true)
theorem webs_of {es:List Ev}{f rows:List Int}(hx:es.length≤12)(hs:srcB (chcL es) f=true)(hr:rowsL es rows=true):Webs es f rows:=by
 obtain⟨sl,su⟩:=src_use hx hs;obtain⟨rn,_,ru⟩:=rows_use hx hr;have w1:=web_rwAll hx ru rows.length (Nat.le_refl _);have w2:=fw_line (n:=es.length) (rs:=idxB rdE es) (f:=f) hx (idxB rdE es).length (fun i hi=>rd_in hx hi) (fun i hi=>(su i hi).1);have w3:=web_ag (n:=es.length) (rs:=idxB rdE es) (f:=f) (row:=rwL es rows) hx (rd_nodup hx) w1.1 (idxB rdE es).length (Nat.le_refl _) (fun i hi=>rd_in hx hi) (fun i hi=>(su i hi).1);exact⟨w2.1,w1.1,w3.1,w2.2,w1.2,w3.2⟩
theorem web_four {n:Nat}{a b c d:List Int}(ha:Web n a)(hb:Web n b)(hc:Web n c)(hd:Web n d):Web n (mixL orI (mixL orI a b) (mixL orI c d)) ∧
  ∀i j,i<n→line (mixL orI (mixL orI a b) (mixL orI c d)) i j=(line a i j||line b i j||(line c i j||line d i j)):=by
 obtain⟨h1,l1⟩:=web_join ha hb;obtain⟨h2,l2⟩:=web_join hc hd;obtain⟨h3,l3⟩:=web_join h1 h2;exact⟨h3,fun i j hi=>by rw[l3 i j hi,l1 i j hi,l2 i j hi]⟩
theorem ow_line {es:List Ev}{f rows:List Int}(W:Webs es f rows):Web es.length (owL es f)∧∀a j:Nat,a<es.length→line (owL es f) a j=(line (fwL es f) a j&&!owP es a j):=by
 obtain⟨h1,h2⟩:=web_offAll (p:=owP es) W.fw es.length (Nat.le_refl _);refine⟨h1,fun a j ha=>?_⟩;unfold owL;rw[h2 a j ha]
 cases hl:line (fwL es f) a j with
 |false=>rfl
 |true=>
  have hj:=W.fw.lt ha hl;simp[ha,hj]
theorem place_ev {dss:List (List Dd)}(hb:workB dss=true){j:Nat}(hj:j<(eventsB dss).length):0≤((eventsB dss).getD j zE).2.2.2.1∧((eventsB dss).getD j zE).2.2.2.1≤2:=by
 have e1:eventsB dss=evsW dss dss.length:=by rw[eventsB,if_pos hb]
 rw[e1] at hj ⊢;exact place_in hb j hj
theorem beg_ev {dss:List (List Dd)}(hb:workB dss=true):3≤(eventsB dss).length∧(eventsB dss).getD 0 zE=(-1,-1,false,0,0,0)∧(eventsB dss).getD 1 zE=(-1,-1,false,1,0,1)∧(eventsB dss).getD 2 zE=(-1,-1,false,2,0,2):=by
 have e1:eventsB dss=evsW dss dss.length:=by rw[eventsB,if_pos hb]
 obtain⟨t,ht⟩:=evs_pre dss 0 dss.length (Nat.zero_le _);have ht':evsW dss dss.length=evBeg++t:=ht;rw[e1];refine⟨by rw[ht'];simp[evBeg],beg_get ht'⟩
theorem beg_place {dss:List (List Dd)}(hb:workB dss=true){i:Nat}(hi:i<3):((eventsB dss).getD i zE).2.2.2.1=(i:Int)∧((eventsB dss).getD i zE).2.2.1=false∧csE ((eventsB dss).getD i zE)=(i:Int)∧((eventsB dss).getD i zE).1=-1:=by
 obtain⟨_,h0,h1,h2⟩:=beg_ev hb;rcases (by omega:i=0∨i=1∨i=2) with rfl|rfl|rfl
 · rw[h0];exact⟨rfl,rfl,rfl,rfl⟩
 · rw[h1];exact⟨rfl,rfl,rfl,rfl⟩
 · rw[h2];exact⟨rfl,rfl,rfl,rfl⟩
structure Told (dss:List (List Dd))(f rows:List Int):Prop where
 work:workB dss=true
 twelve:(eventsB dss).length≤12
 webs:Webs (eventsB dss) f rows
 src:srcB (chcL (eventsB dss)) f=true
 rws:rowsL (eventsB dss) rows=true
 pw:Web (eventsB dss).length (pwL (eventsB dss) f rows)
 pwl:∀i j,i<(eventsB dss).length→line (pwL (eventsB dss) f rows) i j=(line (plcL (eventsB dss)) i j||line (fwL (eventsB dss) f) i j||(line (rwL (eventsB dss) rows) i j||line (agL (eventsB dss) f rows) i j))
 sw:Web (eventsB dss).length (swL dss (eventsB dss) f rows)
 swl:∀i j,i<(eventsB dss).length→line (swL dss (eventsB dss) f rows) i j=(line (kepL dss (eventsB dss)) i j||line (owL (eventsB dss) f) i j||(line (rwL (eventsB dss) rows) i j||line (agL (eventsB dss) f rows) i j))
 xw:Web (eventsB dss).length (xwL (eventsB dss) f rows)
 xwl:∀i j,i<(eventsB dss).length→line (xwL (eventsB dss) f rows) i j=(line (behL (eventsB dss)) i j||line (fwL (eventsB dss) f) i j||(line (rwL (eventsB dss) rows) i j||line (agL (eventsB dss) f rows) i j))
 cls:(clsB (eventsB dss)).length=(eventsB dss).length
theorem told_of {dss:List (List Dd)}{f rows:List Int}(h:taleB dss f rows=true):Told dss f rows:=by
 obtain⟨hb,hs,hr⟩:=tale_use h;have hx:=eventsB_12 dss;have W:=webs_of hx hs hr;have p:=web_four (plc_line hx).1 W.fw W.rw' W.ag;have s:=web_four (kep_line (dss:=dss) hx).1 (ow_line W).1 W.rw' W.ag;have x:=web_four (beh_line hx).1 W.fw W.rw' W.ag;exact⟨hb,hx,W,hs,hr,p.1,p.2,s.1,s.2,x.1,x.2,by unfold clsB;rw[if_pos hx,List.length_map]⟩
theorem cls_three {dss:List (List Dd)}(hb:workB dss=true){c k:Nat}(hc:c<dss.length)(hk:k<(dss.getD c []).length)(h4:(dAt dss c k).1≠4):3≤clsD dss c k:=by
 rcases cls_at (okC_of hb hc) hk h4 with ⟨_,e⟩|⟨_,j,_,_,_,e⟩
 · have:=off_three dss c k;omega
 · have:=off_three dss c j;omega
end Go.Proofs.Ytgakfkjjkobpiaa
