/- Gathered texts. -/
import Derived.Test.YtgikcfdckddgpaaGreatMA
import Derived.Test.YtgikcfdckddgpaaGreatRows
import Derived.OpenShut
import Derived.Below
import Derived.WalkSmall
import Derived.Laws.Rows
import Derived.Laws.ResultCell
set_option maxRecDepth 100000
set_option maxHeartbeats 8000000
namespace Go.Proofs.YtgikcfdckddgpaaGreat
open Go.ChangeShapes Go.WideShapes Go.ChangeAt Go.RowKit
open Go.RowKit
def roundB (zs:List Int):Bool:=webB zs&&(List.range zs.length).any fun i=>line (waysL zs) i i
theorem round_iff {n:Nat}{zs:List Int}(hz:Web n zs):roundB zs=true↔∃i,i<n∧Way zs i i:=by
 unfold roundB;rw[hz.b,Bool.true_and,List.any_eq_true,hz.2.1];constructor
 · rintro⟨i,hi,h⟩;exact⟨i,List.mem_range.1 hi,(ways_line hz (List.mem_range.1 hi)).1 h⟩
 · rintro⟨i,hi,h⟩;exact⟨i,List.mem_range.2 hi,(ways_line hz hi).2 h⟩
theorem at_of_mem {l:List Int}{x:Int}(h:x∈l):∃p,p<l.length∧l.getD p 0=x:=by
 obtain⟨p,hp,e⟩:=List.getElem_of_mem h;exact⟨p,hp,by rw[List.getD_eq_getElem?_getD,List.getElem?_eq_getElem hp];exact e⟩
theorem nodup_sub_len {a b:List Int}(h:a.Nodup)(hs:∀x∈a,x∈b):a.length≤b.length:=by
 induction a generalizing b with
 |nil=>simp
 |cons x a ih=>
  rw[List.nodup_cons] at h;have hx:=hs x (by simp);have:=ih (b:=b.erase x) h.2 (fun y hy=>(List.mem_erase_of_ne (fun e=>h.1 (by rw[←e];exact hy))).2 (hs y (by simp[hy])));rw[List.length_erase_of_mem hx] at this;have:=List.length_pos_of_mem hx;simp;omega
def leads (zs:List Int)(n i:Nat):Nat:=(List.range n).countP fun j=>line (waysL zs) j i
def liftA (zs cl:List Int)(c:Int):Nat→Int
 | 0=>0
 |m+1=>if cl.getD m 0=c then orI (liftA zs cl c m) (zs.getD m 0) else liftA zs cl c m
def hitB (cl:List Int)(c all:Int):Nat→Bool
 | 0=>false
 |m+1=>hitB cl c all m||(decide (cl.getD m 0=c)&&inSetB all m)
def liftR (zs cl:List Int)(c:Int):Nat→Int
 | 0=>0
 |m+1=>if cl.getD m 0=c then liftR zs cl c m else if hitB cl (cl.getD m 0) (liftA zs cl c zs.length) zs.length=true then gAdd (liftR zs cl c m) m else liftR zs cl c m
def liftL (zs cl:List Int):List Int:=if webB zs=true∧cl.length=zs.length then cl.map (fun c=>liftR zs cl c zs.length) else []
theorem ok_liftA {n:Nat}{zs:List Int}(hz:Web n zs)(cl:List Int)(c:Int)(m:Nat)(hm:m≤n):okB n (liftA zs cl c m)=true∧∀j:Nat,inSetB (liftA zs cl c m) j=true↔∃a,a<m∧cl.getD a 0=c∧line zs a j=true:=by
 induction m with
 |zero=>exact⟨ok_zero hz.1,fun j=>by rw[show liftA zs cl c 0=0 from rfl,zero_bit];simp⟩
 |succ m ih=>
  have ih:=ih (by omega);unfold liftA;by_cases hc:cl.getD m 0=c
  ·
   have ho:=ok_or ih.1 (hz.2.2 m (by omega));rw[if_pos hc];refine⟨ho.1,fun j=>?_⟩;rw[ho.2 j,Bool.or_eq_true,ih.2 j];constructor
   ·
    rintro (⟨a,h1,h2,h3⟩|h)
    · exact⟨a,by omega,h2,h3⟩
    · exact⟨m,by omega,hc,h⟩
   ·
    rintro⟨a,h1,h2,h3⟩;by_cases e:a=m
    · subst e;exact .inr h3
    · exact .inl ⟨a,by omega,h2,h3⟩
  ·
   rw[if_neg hc];refine⟨ih.1,fun j=>?_⟩;rw[ih.2 j];constructor
   · rintro⟨a,h1,h2,h3⟩;exact⟨a,by omega,h2,h3⟩
   ·
    rintro⟨a,h1,h2,h3⟩;have:a≠m:=fun e=>hc (by rw[←e];exact h2)
    exact⟨a,by omega,h2,h3⟩
theorem hit_iff (cl:List Int)(c all:Int)(m:Nat):hitB cl c all m=true↔∃b,b<m∧cl.getD b 0=c∧inSetB all b=true:=by
 induction m with
 |zero=>simp[hitB]
 |succ m ih=>
  unfold hitB;rw[Bool.or_eq_true,Bool.and_eq_true,decide_eq_true_eq,ih];constructor
  ·
   rintro (⟨b,h1,h2,h3⟩|⟨h2,h3⟩)
   · exact⟨b,by omega,h2,h3⟩
   · exact⟨m,by omega,h2,h3⟩
  ·
   rintro⟨b,h1,h2,h3⟩;by_cases e:b=m
   · subst e;exact .inr ⟨h2,h3⟩
   · exact .inl ⟨b,by omega,h2,h3⟩
theorem ok_liftR {n:Nat}{zs:List Int}(hz:Web n zs)(cl:List Int)(c:Int)(m:Nat)(hm:m≤n):
  okB n (liftR zs cl c m)=true∧∀j:Nat,inSetB (liftR zs cl c m) j=true↔j<m∧cl.getD j 0≠c∧∃a b,a<n∧b<n∧cl.getD a 0=c∧cl.getD b 0=cl.getD j 0∧line zs a b=true:=by
 induction m with
 |zero=>exact⟨ok_zero hz.1,fun j=>by rw[show liftR zs cl c 0=0 from rfl,zero_bit];simp⟩
 |succ m ih=>
  have ih:=ih (by omega);have hA:=ok_liftA hz cl c n (Nat.le_refl _)
  have hH:hitB cl (cl.getD m 0) (liftA zs cl c zs.length) zs.length=true↔∃a b,a<n∧b<n∧cl.getD a 0=c∧cl.getD b 0=cl.getD m 0∧line zs a b=true:=by
   rw[hit_iff,hz.2.1];constructor
   ·
    rintro⟨b,h1,h2,h3⟩;obtain⟨a,h4,h5,h6⟩:=(hA.2 b).1 h3;exact⟨a,b,h4,h1,h5,h2,h6⟩
   ·
    rintro⟨a,b,h1,h2,h3,h4,h5⟩;exact⟨b,h2,h4,(hA.2 b).2 ⟨a,h1,h3,h5⟩⟩
  unfold liftR;by_cases hc:cl.getD m 0=c
  ·
   rw[if_pos hc];refine⟨ih.1,fun j=>?_⟩;rw[ih.2 j];constructor
   · rintro⟨h1,h2⟩;exact⟨by omega,h2⟩
   ·
    rintro⟨h1,h2,h3⟩;have:j≠m:=fun e=>h2 (by rw[e];exact hc)
    exact⟨by omega,h2,h3⟩
  ·
   rw[if_neg hc];by_cases hh:hitB cl (cl.getD m 0) (liftA zs cl c zs.length) zs.length=true
   ·
    rw[if_pos hh];have ha:=ok_add ih.1 (show m<n by omega);refine⟨ha.1,fun j=>?_⟩;rw[ha.2 j,Bool.or_eq_true,ih.2 j,decide_eq_true_eq];constructor
    ·
     rintro (⟨h1,h2⟩|h)
     · exact⟨by omega,h2⟩
     · subst h;exact⟨by omega,hc,hH.1 hh⟩
    ·
     rintro⟨h1,h2⟩;by_cases e:m=j
     · exact .inr e
     · exact .inl ⟨by omega,h2⟩
   ·
    rw[if_neg hh];refine⟨ih.1,fun j=>?_⟩;rw[ih.2 j];constructor
    · rintro⟨h1,h2⟩;exact⟨by omega,h2⟩
    ·
     rintro⟨h1,h2,h3⟩;have:j≠m:=fun e=>hh (hH.2 (by rw[←e];exact h3))
     exact⟨by omega,h2,h3⟩
theorem web_lift {n:Nat}{zs cl:List Int}(hz:Web n zs)(hc:cl.length=n):Web n (liftL zs cl) ∧
  (∀i,i<n→(liftL zs cl).getD i 0=liftR zs cl (cl.getD i 0) n) ∧
  ∀i j,i<n→(line (liftL zs cl) i j=true↔j<n∧cl.getD j 0≠cl.getD i 0∧∃a b,a<n∧b<n∧cl.getD a 0=cl.getD i 0∧cl.getD b 0=cl.getD j 0∧line zs a b=true):=by
 have e:liftL zs cl=cl.map (fun c=>liftR zs cl c n):=by unfold liftL;rw[if_pos ⟨hz.b,by rw[hc,hz.2.1]⟩,hz.2.1]
 have hg:∀i,i<n→(cl.map (fun c=>liftR zs cl c n)).getD i 0=liftR zs cl (cl.getD i 0) n:=by
  intro i hi;rw[List.getD_eq_getElem?_getD,List.getElem?_map,List.getD_eq_getElem?_getD,List.getElem?_eq_getElem (show i<cl.length by omega)];rfl
 rw[e];refine⟨⟨hz.1,by simp[hc],fun i hi=>?_⟩,hg,fun i j hi=>?_⟩
 · rw[hg i hi];exact (ok_liftR hz cl _ n (Nat.le_refl _)).1
 ·
  unfold line;rw[hg i hi];exact (ok_liftR hz cl _ n (Nat.le_refl _)).2 j
theorem liftL_len (zs cl:List Int):(liftL zs cl).length≤12:=by
 unfold liftL;split
 · rename_i h;have:=webB_len h.1;simp;omega
 · simp
theorem rw_way {es:List Ev}{rows:List Int}(hx:es.length≤12)(h:rowsL es rows=true){a b:Nat}(ha:a<es.length)(hw:Way (rwL es rows) a b):∃i k,i<k∧k<rows.length∧rows.getD i 0=(a:Int)∧rows.getD k 0=(b:Int):=by
 obtain⟨hn,_,hr⟩:=rows_use hx h;obtain⟨h1,h2⟩:=web_rwAll hx hr rows.length (Nat.le_refl _)
 have step:∀x y,x<es.length→line (rwL es rows) x y=true→∃i k,i<k∧k<rows.length∧rows.getD i 0=(x:Int)∧rows.getD k 0=(y:Int):=fun x y hx' hl=>by
  obtain⟨i,q,hi,hq,hp,e1,e2⟩:=(h2 x y hx').1 hl;unfold rwP at hp;simp only[Bool.and_eq_true,decide_eq_true_eq] at hp;exact⟨i,q,hp.1,hq,e1,e2⟩
 induction hw with
 |one g=>exact step _ _ ha g
 |more g l ih=>
  obtain⟨i,k,hik,hk,e1,e2⟩:=ih;obtain⟨i',k',hik',hk',e1',e2'⟩:=step _ _ (g.lt h1 ha) l;have:=nodup_get hn (p:=k) (q:=i') hk (by omega) (by rw[e2,e1']);subst this;exact⟨i,k',by omega,hk',e1,e2'⟩
theorem rw_round {es:List Ev}{rows:List Int}(hx:es.length≤12)(h:rowsL es rows=true):roundB (rwL es rows)=false:=by
 obtain⟨hn,_,hr⟩:=rows_use hx h;have h1:=(web_rwAll hx hr rows.length (Nat.le_refl _)).1
 cases hq:roundB (rwL es rows) with
 |false=>rfl
 |true=>
  exfalso;obtain⟨a,ha,hw⟩:=(round_iff h1).1 hq;obtain⟨i,k,hik,hk,e1,e2⟩:=rw_way hx h ha hw;have:=nodup_get hn (p:=i) (q:=k) (by omega) hk (by rw[e1,e2]);omega
theorem row_all {dss:List (List Dd)}{n:Int}(h0:0≤n)(h1:n<rcntB dss):
  workB dss=true∧rowsB dss (ratB dss n)=true∧(ratB dss n).length≤36∧(rwB dss (ratB dss n)).length=(eventsB dss).length∧roundB (rwB dss (ratB dss n))=false ∧
  (∀i,i<(ratB dss n).length→∃a:Nat,(ratB dss n).getD i 0=(a:Int)∧a<(eventsB dss).length) ∧
  (∀i k a b:Nat,i<(ratB dss n).length→k<(ratB dss n).length→(ratB dss n).getD i 0=(a:Int)→(ratB dss n).getD k 0=(b:Int)→inSetB ((rwB dss (ratB dss n)).getD a 0) b=(((eventsB dss).getD a zE).2.2.2.1==((eventsB dss).getD b zE).2.2.2.1&&decide (i<k))) ∧
  ∀m,0≤m→m<rcntB dss→decide (ratB dss m=ratB dss n)=decide (m=n):=by
 have hb:workB dss=true:=by
  cases hb:workB dss with
  |true=>rfl
  |false=>rw[rcntB,hb] at h1;simp at h1;omega
 have hx:=eventsB_12 dss;have hc:rcntB dss=rcntL (eventsB dss):=by rw[rcntB,if_pos hb]
 have ha:∀m,0≤m→m<rcntB dss→ratB dss m=ratL (eventsB dss) m:=fun m g0 g1=>by unfold ratB;rw[if_pos ⟨g0,g1⟩]
 have hs:rowsL (eventsB dss) (ratB dss n)=true:=by rw[ha n h0 h1];exact rat_ok hb h0 (by rw[←hc];exact h1)
 have hso:rowsB dss (ratB dss n)=true:=by rw[rowsB,hb,hs];rfl
 have hw:rwB dss (ratB dss n)=rwL (eventsB dss) (ratB dss n):=by rw[rwB,if_pos hso]
 obtain⟨hn,hl,hr⟩:=rows_use hx hs;have h12:=(web_rwAll hx hr (ratB dss n).length (Nat.le_refl _)).1;refine⟨hb,hso,hl,by rw[hw];exact h12.2.1,by rw[hw];exact rw_round hx hs,fun i hi=>?_,fun i k a b hi hk ea eb=>?_,fun m g0 g1=>?_⟩
 ·
  obtain⟨r0,r1⟩:=hr i hi;obtain⟨a,e⟩:=Int.eq_ofNat_of_zero_le r0;exact⟨a,e,by omega⟩
 ·
  have:=row_cell hx hs hi hk;rw[ea,eb,Int.toNat_natCast,Int.toNat_natCast] at this;rw[hw];unfold line at this;rw[this];unfold rwP plE;rw[ea,eb,Int.toNat_natCast,Int.toNat_natCast,Bool.and_comm]
 ·
  rw[ha m g0 g1,ha n h0 h1];rw[hc] at h1 g1;refine decide_eq_decide.2 ⟨fun e=>rat_inj hb h0 h1 g0 g1 e,fun e=>by rw[e]⟩
theorem chc_len {es:List Ev}(hx:es.length≤12):(chcL es).length≤12∧∀i,i<(chcL es).length→((chcL es).getD i []).length≤12:=by
 have key:∀f:Ev→Bool,(idxB f es).length≤12:=fun f=>by
  unfold idxB;rw[if_pos hx];have:=idxK_len f es es.length;omega
 unfold chcL;rw[chcK_len];exact⟨key _,fun i hi=>by rw[chcK_get _ _ _ _ hi];exact key _⟩
theorem eventsB_le (dss:List (List Dd)):(eventsB dss).length≤12:=by
 unfold eventsB;split
 ·
  rename_i hb;exact (events_law hb).1
 · simp
theorem atB_len (dss:List (List Dd))(n:Int):(atB dss n).length≤12:=by
 unfold atB;split
 ·
  rw[atL_len]
  have h9:(eventsB dss).length≤12:=by
   unfold eventsB;split
   ·
    rename_i hb;exact (events_law hb).1
   · simp
  exact (chc_len h9).1
 · simp
theorem fwK_len (n:Nat)(rs f:List Int):∀k:Nat,(fwK n rs f k).length=n
 | 0=>by simp[fwK]
 |k+1=>by rw[fwK,List.length_set,fwK_len n rs f k]
theorem fwB_len (dss:List (List Dd))(f:List Int):(fwB dss f).length≤12:=by
 unfold fwB;split
 ·
  unfold fwL;rw[fwK_len];exact eventsB_le dss
 · simp
theorem idxB_range {f:Ev→Bool}{es:List Ev}(hx:es.length≤12){i:Nat}(hi:i<(idxB f es).length):0≤(idxB f es).getD i 0∧(idxB f es).getD i 0<(es.length:Int):=by
 have hm:(idxB f es).getD i 0∈idxB f es:=by
  rw[List.getD_eq_getElem?_getD,List.getElem?_eq_getElem hi];exact List.getElem_mem hi
 unfold idxB at hm ⊢;rw[if_pos hx] at hm ⊢;exact idxK_lt f es _ _ hm
theorem rises_nodup:∀l:List Int,l.Pairwise (·<·)→l.Nodup:=fun l h=>h.imp (fun h e=>by omega)
theorem src_all {dss:List (List Dd)}{n:Int}(h0:0≤n)(h1:n<cntB dss):
  workB dss=true∧sourceB dss (atB dss n)=true∧(fwB dss (atB dss n)).length=(eventsB dss).length∧(idxB rdE (eventsB dss)).length≤12∧(atB dss n).length=(idxB rdE (eventsB dss)).length ∧
  memN (fwB dss (atB dss n)) (eventsB dss).length=(idxB rdE (eventsB dss)).length ∧
  (∀i,i<(idxB rdE (eventsB dss)).length→∃a j:Nat,(atB dss n).getD i 0=(a:Int)∧(idxB rdE (eventsB dss)).getD i 0=(j:Int)∧a<(eventsB dss).length∧j<(eventsB dss).length∧inSetB ((fwB dss (atB dss n)).getD a 0) j=true∧((eventsB dss).getD a zE).2.2.2.1=((eventsB dss).getD j zE).2.2.2.1) ∧
  ∀m,0≤m→m<cntB dss→decide (atB dss m=atB dss n)=decide (m=n):=by
 have hb:workB dss=true:=by
  cases hb:workB dss with
  |true=>rfl
  |false=>rw[cntB,hb] at h1;simp at h1;omega
 have hx:=eventsB_le dss;obtain⟨hf,hn⟩:=chc_full hb;have hc:cntB dss=cntK (chcL (eventsB dss)) (chcL (eventsB dss)).length:=by rw[cntB,if_pos hb]
 have ha:∀m,0≤m→m<cntB dss→atB dss m=atL (chcL (eventsB dss)) m:=fun m g0 g1=>by unfold atB;rw[if_pos ⟨g0,g1⟩]
 have hs:srcB (chcL (eventsB dss)) (atB dss n)=true:=by rw[ha n h0 h1];exact at_src hf n
 have hso:sourceB dss (atB dss n)=true:=by rw[sourceB,hb,hs];rfl
 obtain⟨sl,su⟩:=src_use hx hs;have hw:fwB dss (atB dss n)=fwK (eventsB dss).length (idxB rdE (eventsB dss)) (atB dss n) (idxB rdE (eventsB dss)).length:=by rw[fwB,if_pos hso];rfl
 have rr:∀i,i<(idxB rdE (eventsB dss)).length→0≤(idxB rdE (eventsB dss)).getD i 0∧(idxB rdE (eventsB dss)).getD i 0<((eventsB dss).length:Int):=fun i hi=>idxB_range hx hi
 have hnd:(idxB rdE (eventsB dss)).Nodup:=by
  unfold idxB;rw[if_pos hx];exact rises_nodup _ (idxK_rises rdE _ _)
 have l12:(idxB rdE (eventsB dss)).length≤12:=by
  unfold idxB;rw[if_pos hx];have:=idxK_len rdE (eventsB dss) (eventsB dss).length;omega
 have fl:=fw_line hx (idxB rdE (eventsB dss)).length rr (fun i hi=>(su i hi).1);refine⟨hb,hso,by rw[hw,fwK_len],l12,sl.symm,?_,fun i hi=>?_,fun m g0 g1=>?_⟩
 ·
  rw[hw];exact fw_count hx hnd _ (Nat.le_refl _) rr (fun i hi=>(su i hi).1)
 ·
  obtain⟨⟨f0,f1⟩,pl⟩:=su i hi;obtain⟨r0,r1⟩:=rr i hi;obtain⟨a,ea⟩:=Int.eq_ofNat_of_zero_le f0;obtain⟨j,ej⟩:=Int.eq_ofNat_of_zero_le r0;refine⟨a,j,ea,ej,by omega,by omega,?_,?_⟩
  ·
   rw[hw];exact (fl.2 a j (by omega)).2 ⟨i,hi,ea,ej⟩
  ·
   unfold plE at pl;rw[ea,ej,Int.toNat_natCast,Int.toNat_natCast] at pl;exact pl
 ·
  rw[ha m g0 g1,ha n h0 h1];rw[hc] at h1 g1;exact decide_eq_decide.2 (at_one' hf hn g0 g1 h0 h1)
def taleB (dss:List (List Dd))(f rows:List Int):Bool:=sourceB dss f&&rowsB dss rows
def agK (n:Nat)(rs f row:List Int):Nat→List Int
 | 0=>List.replicate n 0
 |k+1=>(agK n rs f row k).set (rs.getD k 0).toNat (row.getD (f.getD k 0).toNat 0)
def agL (es:List Ev)(f rows:List Int):List Int:=agK es.length (idxB rdE es) f (rwL es rows) (idxB rdE es).length
def agB (dss:List (List Dd))(f rows:List Int):List Int:=if taleB dss f rows=true then agL (eventsB dss) f rows else []
def tcB (dss:List (List Dd)):Int:=if workB dss=true then cntB dss*rcntB dss else -1
def taB (dss:List (List Dd))(n:Int):Bool:=decide (0≤n∧n<tcB dss)
def tfB (dss:List (List Dd))(n:Int):List Int:=if taB dss n=true then atB dss (n / rcntB dss) else []
def trB (dss:List (List Dd))(n:Int):List Int:=if taB dss n=true then ratB dss (n % rcntB dss) else []
theorem agK_len (n:Nat)(rs f row:List Int):∀k:Nat,(agK n rs f row k).length=n
 | 0=>by simp[agK]
 |k+1=>by rw[agK,List.length_set,agK_len n rs f row k]
theorem web_ag {n:Nat}{rs f row:List Int}(hn:n≤12)(hd:rs.Nodup)(hrow:Web n row):∀k:Nat,k≤rs.length→(∀i,i<k→0≤rs.getD i 0∧rs.getD i 0<(n:Int))→(∀i,i<k→0≤f.getD i 0∧f.getD i 0<(n:Int)) →
  Web n (agK n rs f row k)∧∀a j:Nat,a<n→(line (agK n rs f row k) a j=true↔∃i,i<k∧rs.getD i 0=(a:Int)∧line row (f.getD i 0).toNat j=true)
 | 0,_,_,_=>⟨Web.zero hn,fun a j _=>by unfold agK;rw[line_zero];simp⟩
 |k+1,hk,hr,hf=>by
  obtain⟨h1,h2⟩:=web_ag hn hd hrow k (by omega) (fun i hi=>hr i (by omega)) (fun i hi=>hf i (by omega));obtain⟨a0,ha0⟩:=Int.eq_ofNat_of_zero_le (hr k (by omega)).1;obtain⟨b0,hb0⟩:=Int.eq_ofNat_of_zero_le (hf k (by omega)).1;have ha:a0<n:=by have:=(hr k (by omega)).2;omega
  have hb:b0<n:=by have:=(hf k (by omega)).2;omega
  have e0:agK n rs f row (k+1)=(agK n rs f row k).set a0 (row.getD b0 0):=by rw[agK,ha0,hb0,Int.toNat_natCast,Int.toNat_natCast]
  rw[e0];refine⟨h1.set (hrow.2.2 b0 hb),fun a j haa=>?_⟩;have e1:=h2 a j haa;unfold line at e1 ⊢;rw[getD_set _ _ _ _ (by rw[h1.2.1];exact ha)];by_cases e:a0=a
  ·
   subst e;simp only[if_true];constructor
   ·
    intro h;refine⟨k,by omega,ha0,?_⟩;rw[hb0,Int.toNat_natCast];exact h
   ·
    rintro⟨i,hi,r1,r2⟩;have:i=k:=nodup_get hd (by omega) (by omega) (by rw[r1,ha0]);subst this;rw[hb0,Int.toNat_natCast] at r2;exact r2
  ·
   simp only[e,if_false];rw[e1];constructor
   ·
    rintro⟨i,hi,r⟩;exact⟨i,by omega,r⟩
   ·
    rintro⟨i,hi,r1,r2⟩;by_cases ei:i=k
    · subst ei;rw[ha0] at r1;omega
    · exact⟨i,by omega,r1,r2⟩
theorem plW_in {es:List Ev}{rows:List Int}(hx:es.length≤12)(h:rowsL es rows=true){i:Nat}(hi:i<rows.length):0≤plE es (rows.getD i 0)∧plE es (rows.getD i 0)≤2:=by
 have hp:=rows_perm hx h
 have hm:rows.getD i 0∈rows:=by
  rw[List.getD_eq_getElem?_getD,List.getElem?_eq_getElem hi];exact List.getElem_mem hi
 have hm:=hp.mem_iff.2 hm;unfold allW at hm;unfold plE;rcases List.mem_append.1 hm with hm|hm
 ·
  rcases List.mem_append.1 hm with hm|hm
  · rw[(plcW_mem hx hm).2];decide
  · rw[(plcW_mem hx hm).2];decide
 · rw[(plcW_mem hx hm).2];decide
theorem idxK_has (f:Ev→Bool)(l:List Ev){i:Nat}(hf:f (l.getD i zE)=true):∀k:Nat,i<k→(i:Int)∈idxK f l k
 | 0,h=>by omega
 |k+1,h=>by
  rw[idxK];by_cases e:i=k
  ·
   subst e;rw[if_pos hf];exact List.mem_append.2 (.inr (by simp))
  ·
   have ih:=idxK_has f l hf k (by omega);split
   · exact List.mem_append.2 (.inl ih)
   · exact ih
theorem tale_use {dss:List (List Dd)}{f rows:List Int}(h:taleB dss f rows=true):workB dss=true∧srcB (chcL (eventsB dss)) f=true∧rowsL (eventsB dss) rows=true:=by
 unfold taleB sourceB rowsB at h;simp only[Bool.and_eq_true] at h;exact⟨h.1.1,h.1.2,h.2.2⟩
theorem tale_at {dss:List (List Dd)}{n:Int}(h:taB dss n=true):
  workB dss=true∧0<rcntB dss∧taleB dss (tfB dss n) (trB dss n)=true∧tcB dss=cntB dss*rcntB dss∧∀m,taB dss m=true→(decide (tfB dss m=tfB dss n)&&decide (trB dss m=trB dss n))=decide (m=n):=by
 have hd:=h;unfold taB at hd;rw[decide_eq_true_eq] at hd
 have hb:workB dss=true:=by
  cases hb:workB dss with
  |true=>rfl
  |false=>rw[tcB,hb] at hd;simp at hd;omega
 have hc:tcB dss=cntB dss*rcntB dss:=by rw[tcB,if_pos hb]
 have hrp:0<rcntB dss:=by
  rw[rcntB,if_pos hb];unfold rcntL;exact Int.mul_pos (Int.mul_pos (fac_pos _) (fac_pos _)) (fac_pos _)
 have rng:∀m,taB dss m=true→(0≤m / rcntB dss∧m / rcntB dss<cntB dss)∧(0≤m % rcntB dss∧m % rcntB dss<rcntB dss):=fun m hm=>by
  unfold taB at hm;rw[decide_eq_true_eq,hc] at hm;exact⟨⟨Int.ediv_nonneg hm.1 (by omega),Int.ediv_lt_of_lt_mul hrp hm.2⟩,Int.emod_nonneg _ (by omega),Int.emod_lt_of_pos _ hrp⟩
 obtain⟨⟨a0,a1⟩,b0,b1⟩:=rng n h;have ef:∀m,taB dss m=true→tfB dss m=atB dss (m / rcntB dss):=fun m hm=>by unfold tfB;rw[if_pos hm]
 have er:∀m,taB dss m=true→trB dss m=ratB dss (m % rcntB dss):=fun m hm=>by unfold trB;rw[if_pos hm]
 obtain⟨_,s1,_,_,_,_,_,s2⟩:=src_all a0 a1;obtain⟨_,r1,_,_,_,_,_,r2⟩:=row_all b0 b1;refine⟨hb,hrp,by rw[ef n h,er n h,taleB,s1,r1];rfl,hc,fun m hm=>?_⟩;obtain⟨⟨c0,c1⟩,d0,d1⟩:=rng m hm;rw[ef n h,er n h,ef m hm,er m hm,s2 _ c0 c1,r2 _ d0 d1];by_cases e:m=n
 · subst e;simp
 ·
  have:¬(m / rcntB dss=n / rcntB dss∧m % rcntB dss=n % rcntB dss):=fun q=>by
   have x:=Int.mul_ediv_add_emod m (rcntB dss);have y:=Int.mul_ediv_add_emod n (rcntB dss);rw[q.1,q.2] at x;omega
  rw[decide_eq_false e];rw[Bool.and_eq_false_iff];by_cases e1:m / rcntB dss=n / rcntB dss
  · exact .inr (decide_eq_false (fun e2=>this ⟨e1,e2⟩))
  · exact .inl (decide_eq_false e1)
def addIn (p:Nat→Nat→Bool)(i:Nat)(st:List Int):Nat→List Int
 | 0=>st
 |k+1=>if p i k=true then (addIn p i st k).set i (gAdd ((addIn p i st k).getD i 0) k) else addIn p i st k
def addAll (p:Nat→Nat→Bool)(n:Nat):Nat→List Int
 | 0=>List.replicate n 0
 |i+1=>addIn p i (addAll p n i) n
def bitI (k:Nat):Int:=wrap64 (2 ^ (k:Int).toNat)
def offIn (p:Nat→Nat→Bool)(i:Nat)(st:List Int):Nat→List Int
 | 0=>st
 |k+1=>if p i k=true then (offIn p i st k).set i (notI ((offIn p i st k).getD i 0) (bitI k)) else offIn p i st k
def offAll (p:Nat→Nat→Bool)(n:Nat)(st:List Int):Nat→List Int
 | 0=>st
 |i+1=>offIn p i (offAll p n st i) n
theorem addIn_hit {p:Nat→Nat→Bool}{i k:Nat}(st:List Int)(h:p i k=true):addIn p i st (k+1)=(addIn p i st k).set i (gAdd ((addIn p i st k).getD i 0) k):=if_pos h
theorem addIn_miss {p:Nat→Nat→Bool}{i k:Nat}(st:List Int)(h:p i k=false):addIn p i st (k+1)=addIn p i st k:=if_neg (by simp[h])
theorem offIn_hit {p:Nat→Nat→Bool}{i k:Nat}(st:List Int)(h:p i k=true):offIn p i st (k+1)=(offIn p i st k).set i (notI ((offIn p i st k).getD i 0) (bitI k)):=if_pos h
theorem offIn_miss {p:Nat→Nat→Bool}{i k:Nat}(st:List Int)(h:p i k=false):offIn p i st (k+1)=offIn p i st k:=if_neg (by simp[h])
theorem addIn_none {p:Nat→Nat→Bool}{i:Nat}(st:List Int):∀k:Nat,(∀j,j<k→p i j=false)→addIn p i st k=st
 | 0,_=>rfl
 |k+1,h=>by rw[addIn_miss st (h k (by omega))];exact addIn_none st k (fun j hj=>h j (by omega))
theorem offIn_none {p:Nat→Nat→Bool}{i:Nat}(st:List Int):∀k:Nat,(∀j,j<k→p i j=false)→offIn p i st k=st
 | 0,_=>rfl
 |k+1,h=>by rw[offIn_miss st (h k (by omega))];exact offIn_none st k (fun j hj=>h j (by omega))
theorem bitI_add:∀k:Nat,k<12→bitI k=gAdd 0 k:=by decide +kernel
theorem ok_bit {n k:Nat}(hn:n≤12)(hk:k<n):okB n (bitI k)=true∧∀j:Nat,inSetB (bitI k) j=decide (k=j):=by
 rw[bitI_add k (by omega)];have h:=ok_add (ok_zero hn) hk;exact⟨h.1,fun j=>by rw[h.2 j,zero_bit];simp⟩
theorem web_addIn {p:Nat→Nat→Bool}{n i:Nat}{st:List Int}(hi:i<n)(hst:Web n st):∀m:Nat,m≤n →
  Web n (addIn p i st m)∧∀a j:Nat,a<n→line (addIn p i st m) a j=(line st a j||(decide (i=a)&&decide (j<m)&&p i j))
 | 0,_=>⟨hst,fun a j _=>by simp[addIn]⟩
 |m+1,hm=>by
  have ih:=web_addIn hi hst m (by omega) (p:=p)
  cases hp:p i m with
  |false=>
   rw[addIn_miss st hp];refine⟨ih.1,fun a j ha=>?_⟩;rw[ih.2 a j ha];by_cases e:j=m
   · subst e;simp[hp]
   ·
    have d:decide (j<m+1)=decide (j<m):=decide_eq_decide.2 (by omega);rw[d]
  |true=>
   rw[addIn_hit st hp];have ha:=ok_add (ih.1.2.2 i hi) (show m<n by omega);refine⟨ih.1.set ha.1,fun a j haa=>?_⟩;have e1:=ih.2 a j haa;unfold line at e1 ⊢;rw[getD_set _ _ _ _ (by rw[ih.1.2.1];exact hi)];by_cases e:i=a
   ·
    subst e;simp only[if_true];rw[ha.2 j,e1];by_cases e2:m=j
    · subst e2;simp[hp]
    ·
     have d:decide (j<m+1)=decide (j<m):=decide_eq_decide.2 (by omega);rw[d];simp[e2]
   · simp only[e,if_false];rw[e1];simp[e]
theorem web_addAll {p:Nat→Nat→Bool}{n:Nat}(hn:n≤12):∀m:Nat,m≤n →
  Web n (addAll p n m)∧∀a j:Nat,a<n→line (addAll p n m) a j=(decide (a<m)&&decide (j<n)&&p a j)
 | 0,_=>⟨Web.zero hn,fun a j _=>by unfold addAll;rw[line_zero];simp⟩
 |m+1,hm=>by
  have ih:=web_addAll hn m (by omega) (p:=p);have h1:=web_addIn (p:=p) (show m<n by omega) ih.1 n (Nat.le_refl _);refine⟨h1.1,fun a j ha=>?_⟩;show line (addIn p m (addAll p n m) n) a j=_;rw[h1.2 a j ha,ih.2 a j ha];by_cases e:m=a
  · subst e;simp
  ·
   have d:decide (a<m+1)=decide (a<m):=decide_eq_decide.2 (by omega);rw[d];simp[e]
theorem web_offIn {p:Nat→Nat→Bool}{n i:Nat}{st:List Int}(hi:i<n)(hst:Web n st):∀m:Nat,m≤n →
  Web n (offIn p i st m)∧∀a j:Nat,a<n→line (offIn p i st m) a j=(line st a j&&!(decide (i=a)&&decide (j<m)&&p i j))
 | 0,_=>⟨hst,fun a j _=>by simp[offIn]⟩
 |m+1,hm=>by
  have ih:=web_offIn hi hst m (by omega) (p:=p)
  cases hp:p i m with
  |false=>
   rw[offIn_miss st hp];refine⟨ih.1,fun a j ha=>?_⟩;rw[ih.2 a j ha];by_cases e:j=m
   · subst e;simp[hp]
   ·
    have d:decide (j<m+1)=decide (j<m):=decide_eq_decide.2 (by omega);rw[d]
  |true=>
   rw[offIn_hit st hp];have hb:=ok_bit hst.1 (show m<n by omega);have ha:=ok_not (ih.1.2.2 i hi) hb.1;refine⟨ih.1.set ha.1,fun a j haa=>?_⟩;have e1:=ih.2 a j haa;unfold line at e1 ⊢;rw[getD_set _ _ _ _ (by rw[ih.1.2.1];exact hi)];by_cases e:i=a
   ·
    subst e;simp only[if_true];rw[ha.2 j,e1,hb.2 j];by_cases e2:m=j
    · subst e2;simp[hp]
    ·
     have d:decide (j<m+1)=decide (j<m):=decide_eq_decide.2 (by omega);rw[d];simp[e2]
   · simp only[e,if_false];rw[e1];simp[e]
theorem web_offAll {p:Nat→Nat→Bool}{n:Nat}{st:List Int}(hst:Web n st):∀m:Nat,m≤n →
  Web n (offAll p n st m)∧∀a j:Nat,a<n→line (offAll p n st m) a j=(line st a j&&!(decide (a<m)&&decide (j<n)&&p a j))
 | 0,_=>⟨hst,fun a j _=>by simp[offAll]⟩
 |m+1,hm=>by
  have ih:=web_offAll hst m (by omega) (p:=p);have h1:=web_offIn (p:=p) (show m<n by omega) ih.1 n (Nat.le_refl _);refine⟨h1.1,fun a j ha=>?_⟩;show line (offIn p m (offAll p n st m) n) a j=_;rw[h1.2 a j ha,ih.2 a j ha];by_cases e:m=a
  · subst e;simp
  ·
   have d:decide (a<m+1)=decide (a<m):=decide_eq_decide.2 (by omega);rw[d];simp[e]
def behP (es:List Ev)(i k:Nat):Bool:=decide (i<k)&&((decide (i<3)&&decide (3≤k))||(decide (3≤i)&&((es.getD i zE).1==(es.getD k zE).1)))
def behL (es:List Ev):List Int:=addAll (behP es) es.length es.length
def plcP (es:List Ev)(i k:Nat):Bool:=(es.getD i zE).2.2.2.1 != (es.getD k zE).2.2.2.1
def plcL (es:List Ev):List Int:=offAll (plcP es) es.length (behL es) es.length
theorem behP_up {es:List Ev}{i j:Nat}(h:j≤i):behP es i j=false:=by unfold behP;simp;omega
theorem beh_line {es:List Ev}(h:es.length≤12):Web es.length (behL es)∧∀a j:Nat,a<es.length→line (behL es) a j=(decide (j<es.length)&&behP es a j):=by
 have h1:=web_addAll (p:=behP es) h es.length (Nat.le_refl _);exact⟨h1.1,fun a j ha=>by unfold behL;rw[h1.2 a j ha];simp[ha]⟩
theorem plc_line {es:List Ev}(h:es.length≤12):Web es.length (plcL es)∧∀a j:Nat,a<es.length→line (plcL es) a j=(decide (j<es.length)&&behP es a j&&!plcP es a j):=by
 have h1:=beh_line h;have h2:=web_offAll (p:=plcP es) h1.1 es.length (Nat.le_refl _);refine⟨h2.1,fun a j ha=>?_⟩;unfold plcL;rw[h2.2 a j ha,h1.2 a j ha];by_cases hj:j<es.length
 · simp[ha,hj]
 · simp[hj]
def wholeD (d:Dd):Bool:=(d.1==3)||decide (0<d.2.2.2)
def waitsD (ds:List Dd)(lo hi:Nat):Bool:=(List.range hi).any (fun j=>decide (lo<j)&&((ds.getD j zD).1==4))
theorem waitsD_no {ds:List Dd}{lo hi:Nat}(h:∀j,lo<j→j<hi→(ds.getD j zD).1≠4):waitsD ds lo hi=false:=by
 unfold waitsD;rw[List.any_eq_false];intro j hj;rw[List.mem_range] at hj;by_cases hl:lo<j
 ·
  have:=h j hl hj;simp[hl];simpa using this
 · simp[hl]
theorem waitsD_yes {ds:List Dd}{lo hi j:Nat}(h1:lo<j)(h2:j<hi)(h:(ds.getD j zD).1=4):waitsD ds lo hi=true:=by
 unfold waitsD;rw[List.any_eq_true];exact⟨j,List.mem_range.2 h2,by simp only[h];simp[h1]⟩
def dOf (dss:List (List Dd))(e:Ev):Dd:=(dss.getD e.1.toNat []).getD e.2.1.toNat zD
def kepQ (dss:List (List Dd))(a b:Ev):Bool:=!(rdE a)&&rdE b&&(csE a != csE b)&&(!waitsD (dss.getD a.1.toNat []) a.2.1.toNat b.2.1.toNat&&!wholeD (dOf dss a)&&!wholeD (dOf dss b))
def kepP (dss:List (List Dd))(es:List Ev)(i k:Nat):Bool:=decide (3≤i)&&behP es i k&&kepQ dss (es.getD i zE) (es.getD k zE)
def kepL (dss:List (List Dd))(es:List Ev):List Int:=offAll (kepP dss es) es.length (behL es) es.length
theorem kepP_up {dss:List (List Dd)}{es:List Ev}{i j:Nat}(h:j≤i):kepP dss es i j=false:=by unfold kepP;rw[behP_up h];simp
theorem kep_line {dss:List (List Dd)}{es:List Ev}(h:es.length≤12):Web es.length (kepL dss es)∧∀a j:Nat,a<es.length→line (kepL dss es) a j=(decide (j<es.length)&&behP es a j&&!kepP dss es a j):=by
 have h1:=beh_line h;have h2:=web_offAll (p:=kepP dss es) h1.1 es.length (Nat.le_refl _);refine⟨h2.1,fun a j ha=>?_⟩;unfold kepL;rw[h2.2 a j ha,h1.2 a j ha];by_cases hj:j<es.length
 · simp[ha,hj]
 · simp[hj]
theorem kep_three {dss:List (List Dd)}{es:List Ev}:∀k:Nat,k≤3→offAll (kepP dss es) es.length (behL es) k=behL es
 | 0,_=>rfl
 |k+1,h=>by
  rw[offAll,kep_three k (by omega)];exact offIn_none _ _ (fun j _=>by unfold kepP;simp;omega)
theorem kep_has {dss:List (List Dd)}{es:List Ev}(hn:es.length≤12){k m:Nat}(hk:k<es.length)(hm:m<es.length):
  inSetB ((offIn (kepP dss es) k (offAll (kepP dss es) es.length (behL es) k) m).getD k 0) m=behP es k m:=by
 have h1:=beh_line hn;have h2:=web_offAll (p:=kepP dss es) h1.1 k (by omega);have h3:=web_offIn (p:=kepP dss es) hk h2.1 m (by omega);have e3:=h3.2 k m hk;rw[h2.2 k m hk,h1.2 k m hk] at e3;unfold line at e3;rw[e3];simp[hm]
def OrdE (dss:List (List Dd))(a b:Ev):Prop:=a.1=b.1→0≤a.1→a.2.1<b.2.1∨(a.2.1=b.2.1∧(dOf dss a).1=3)
theorem one_ord {dss:List (List Dd)}{i k:Nat}{c:Int}(d:Dd)(hd:d=(dss.getD i []).getD k zD):(oneE i k d c).Pairwise (OrdE dss)∧∀e∈oneE i k d c,e.1=(i:Int)∧e.2.1=(k:Int)∧(dOf dss e).1≠4:=by
 have key:∀e:Ev,e.1=(i:Int)→e.2.1=(k:Int)→dOf dss e=d:=fun e h1 h2=>by
  unfold dOf;rw[h1,h2,Int.toNat_natCast,Int.toNat_natCast];exact hd.symm
 have h1:∀e∈oneE i k d c,e.1=(i:Int)∧e.2.1=(k:Int):=by
  intro e he;unfold oneE at he;split at he
  · simp at he
  ·
   split at he
   ·
    simp only[List.mem_cons,List.not_mem_nil,or_false] at he;rcases he with rfl|rfl<;>exact⟨rfl,rfl⟩
   ·
    split at he
    ·
     simp only[List.mem_cons,List.not_mem_nil,or_false] at he;subst he;exact⟨rfl,rfl⟩
    ·
     simp only[List.mem_cons,List.not_mem_nil,or_false] at he;subst he;exact⟨rfl,rfl⟩
 refine⟨?_,fun e he=>⟨(h1 e he).1,(h1 e he).2,?_⟩⟩
 ·
  have h1':=h1;unfold oneE at h1' ⊢;split
  · exact List.Pairwise.nil
  ·
   rename_i h4;rw[if_neg h4] at h1';split
   ·
    rename_i h3;rw[if_pos h3] at h1';rw[List.pairwise_cons];refine⟨fun b hb=>?_,by simp⟩;simp only[List.mem_cons,List.not_mem_nil,or_false] at hb;subst hb;intro _ _;refine .inr ⟨rfl,?_⟩;rw[key _ rfl rfl];exact h3
   · split<;>simp
 ·
  rw[key e (h1 e he).1 (h1 e he).2];intro h4;unfold oneE at he;rw[if_pos h4] at he;simp at he
theorem clk_ord {dss:List (List Dd)}{i:Nat}{out:List Ev}(ho:out.Pairwise (OrdE dss))(hl:∀e∈out,e.1<(i:Int))(h4:∀e∈out,0≤e.1→(dOf dss e).1≠4):∀k:Nat,
  (clkE i (dss.getD i []) out k).1.Pairwise (OrdE dss)∧(∀e∈(clkE i (dss.getD i []) out k).1,e.1<(i:Int)∨(e.1=(i:Int)∧e.2.1<(k:Int)))∧∀e∈(clkE i (dss.getD i []) out k).1,0≤e.1→(dOf dss e).1≠4
 | 0=>⟨ho,fun e he => .inl (hl e he),h4⟩
 |k+1=>by
  obtain⟨h1,h2,h3⟩:=clk_ord ho hl h4 k;rw[clkE,stepE];split
  ·
   refine⟨h1,fun e he=>?_,h3⟩;rcases h2 e he with h|⟨h,h'⟩
   · exact .inl h
   · exact .inr ⟨h,by omega⟩
  ·
   obtain⟨g1,g2⟩:=one_ord (dss:=dss) (i:=i) (k:=k) (c:=clsE ((dss.getD i []).getD k zD).2.2.2 (clkE i (dss.getD i []) out k).1.length (clkE i (dss.getD i []) out k).2) _ rfl;refine⟨?_,fun e he=>?_,fun e he=>?_⟩
   ·
    simp only;rw[List.pairwise_append];refine⟨h1,g1,fun a ha b hb=>?_⟩;intro he _;obtain⟨b1,b2,_⟩:=g2 b hb;rcases h2 a ha with h|⟨h,h'⟩
    · omega
    · left;omega
   ·
    rcases List.mem_append.1 he with he|he
    ·
     rcases h2 e he with h|⟨h,h'⟩
     · exact .inl h
     · exact .inr ⟨h,by omega⟩
    ·
     obtain⟨b1,b2,_⟩:=g2 e he;exact .inr ⟨b1,by omega⟩
   ·
    rcases List.mem_append.1 he with he|he
    · exact h3 e he
    · exact fun _=>(g2 e he).2.2
theorem evs_ord (dss:List (List Dd)):∀n:Nat,(evsW dss n).Pairwise (OrdE dss)∧(∀e∈evsW dss n,e.1<(n:Int))∧∀e∈evsW dss n,0≤e.1→(dOf dss e).1≠4
 | 0=>by
  have neg:∀e∈evBeg,e.1=-1:=by
   intro e he;simp only[evBeg,List.mem_cons,List.not_mem_nil,or_false] at he;rcases he with rfl|rfl|rfl<;>rfl
  refine⟨?_,fun e he=>by rw[neg e he];omega,fun e he h0=>by rw[neg e he] at h0;omega⟩;refine List.Pairwise.imp_of_mem (R:=fun _ _=>True) ?_ (List.pairwise_of_forall (fun _ _=>trivial));intro a b ha _ _;intro _ h0;rw[neg a ha] at h0;omega
 |n+1=>by
  obtain⟨h1,h2,h3⟩:=evs_ord dss n;obtain⟨g1,g2,g3⟩:=clk_ord (i:=n) h1 h2 h3 (dss.getD n []).length;rw[evsW];exact⟨g1,fun e he=>by rcases g2 e he with h|⟨h,_⟩<;>omega,g3⟩
def waitD:Dd:=(4,0,0,0)
def bareD (d:Dd):Dd:=(d.1,d.2.1,d.2.2.1,0)
def waitK (ds:List Dd):Nat→List Dd
 | 0=>[]
 |k+1=>if (ds.getD k zD).1=4 then waitK ds k else if waitK ds k=[] then [bareD (ds.getD k zD)] else waitK ds k++[waitD]++[bareD (ds.getD k zD)]
def waitC (ds:List Dd):List Dd:=waitK ds ds.length
def waitW (dss:List (List Dd)):List (List Dd):=dss.map waitC
def waitB (dss:List (List Dd)):List (List Dd):=if workB dss=true then (if workB (waitW dss)=true then waitW dss else []) else []
def btw:List Dd→List Dd
 | []=>[]
 | [d]=>[d]
 |d::e::r=>d::waitD::btw (e::r)
def strip:List Dd→List Dd
 | []=>[]
 |d::r=>if d.1=4 then strip r else bareD d::strip r
theorem btw_cons (d:Dd){r:List Dd}(h:r≠[]):btw (d::r)=d::waitD::btw r:=by
 cases r with
 |nil=>exact absurd rfl h
 |cons e r=>rfl
theorem btw_snoc (d:Dd):∀ {l:List Dd},l≠[]→btw (l++[d])=btw l++[waitD]++[d]
 | [],h=>absurd rfl h
 | [e],_=>rfl
 |e::f::r,_=>by
  rw[List.cons_append,btw_cons e (by simp),btw_snoc d (l:=f::r) (by simp),btw_cons e (by simp)];simp
theorem btw_nil {l:List Dd}:btw l=[]↔l=[]:=by
 cases l with
 |nil=>simp[btw]
 |cons d r=>
  cases r with
  |nil=>simp[btw]
  |cons e r=>simp[btw]
theorem strip_app:∀(l m:List Dd),strip (l++m)=strip l++strip m
 | [],m=>by simp[strip]
 |d::r,m=>by
  rw[List.cons_append,strip,strip,strip_app r m];split
  · rfl
  · rfl
theorem take_moreW {α:Type}(l:List α)(k:Nat)(z:α)(h:k<l.length):l.take (k+1)=l.take k++[l.getD k z]:=by
 rw[List.take_add_one,List.getElem?_eq_getElem h,List.getD_eq_getElem?_getD,List.getElem?_eq_getElem h];rfl
theorem waitK_btw (ds:List Dd):∀k:Nat,k≤ds.length→waitK ds k=btw (strip (ds.take k))
 | 0,_=>by simp[waitK,strip,btw]
 |k+1,h=>by
  rw[waitK,waitK_btw ds k (by omega),take_moreW ds k zD (by omega),strip_app];simp only[strip];split
  · simp
  ·
   split
   ·
    rename_i h0;rw[btw_nil] at h0;rw[h0];rfl
   ·
    rename_i h0;rw[btw_nil] at h0;rw[btw_snoc _ h0]
theorem waitC_btw (ds:List Dd):waitC ds=btw (strip ds):=by
 rw[waitC,waitK_btw ds _ (Nat.le_refl _),List.take_length]
def bareB (l:List Dd):Prop:=∀d,d∈l→d.1≠4∧d.2.2.2=0
theorem strip_bare:∀l:List Dd,bareB (strip l)
 | []=>by simp[bareB,strip]
 |d::r=>by
  have ih:=strip_bare r;rw[strip];split
  · exact ih
  ·
   rename_i h;intro x hx;rcases List.mem_cons.1 hx with rfl|hx
   · exact⟨h,rfl⟩
   · exact ih x hx
theorem bareD_same {d:Dd}(h:d.2.2.2=0):bareD d=d:=by
 obtain⟨a,b,c,e⟩:=d;simp only at h;subst h;rfl
theorem strip_btw:∀ {l:List Dd},bareB l→strip (btw l)=l
 | [],_=>rfl
 | [d],h=>by
  have h1:=h d (by simp);simp only[btw,strip];rw[if_neg h1.1,bareD_same h1.2]
 |d::e::r,h=>by
  have h1:=h d (by simp);have ih:=strip_btw (l:=e::r) (fun x hx=>h x (by simp only[List.mem_cons] at hx ⊢;exact .inr hx));rw[btw_cons d (by simp),strip,if_neg h1.1,bareD_same h1.2,strip,if_pos (show waitD.1=4 from rfl),ih]
theorem waitC_twice (ds:List Dd):waitC (waitC ds)=waitC ds:=by
 rw[waitC_btw,waitC_btw,strip_btw (strip_bare ds)]
theorem waitW_twice (dss:List (List Dd)):waitW (waitW dss)=waitW dss:=by
 simp only[waitW,List.map_map]
 congr 1
 funext ds;exact waitC_twice ds
def evS (ds:List Dd):Int:=(ds.map evD).sum
theorem evK_take (ds:List Dd):∀k:Nat,k≤ds.length→evK ds k=evS (ds.take k)
 | 0,_=>by simp[evK,evS]
 |k+1,h=>by
  rw[evK,evK_take ds k (by omega),take_moreW ds k zD (by omega)];simp[evS]
theorem evK_sum (ds:List Dd):evK ds ds.length=evS ds:=by rw[evK_take ds _ (Nat.le_refl _),List.take_length]
theorem evD_bare (d:Dd):evD (bareD d)=evD d:=rfl
theorem evS_strip:∀l:List Dd,evS (strip l)=evS l
 | []=>rfl
 |d::r=>by
  have ih:=evS_strip r;rw[strip];split
  ·
   rename_i h;rw[ih];simp[evS,evD,h]
  ·
   simp only[evS,List.map_cons,List.sum_cons,evD_bare] at ih ⊢;rw[ih]
theorem evS_btw:∀l:List Dd,evS (btw l)=evS l
 | []=>rfl
 | [d]=>rfl
 |d::e::r=>by
  have ih:=evS_btw (e::r);rw[btw_cons d (by simp)];simp only[evS,List.map_cons,List.sum_cons] at ih ⊢;rw[ih];simp[evD,waitD]
theorem evS_wait (ds:List Dd):evS (waitC ds)=evS ds:=by rw[waitC_btw,evS_btw,evS_strip]
theorem evW_map (dss:List (List Dd))(f:List Dd→List Dd)(hf:∀ds,evS (f ds)=evS ds)(h0:f []=[]):∀i:Nat,evW (dss.map f) i=evW dss i
 | 0=>rfl
 |i+1=>by
  have e1:(dss.map f).getD i []=f (dss.getD i []):=by
   rw[List.getD_eq_getElem?_getD,List.getElem?_map,List.getD_eq_getElem?_getD]
   cases dss[i]? with
   |none=>exact h0.symm
   |some x=>rfl
  rw[evW,evW,evW_map dss f hf h0 i,e1,evK_sum,evK_sum,hf]
theorem evW_wait (dss:List (List Dd)):evW (waitW dss) (waitW dss).length=evW dss dss.length:=by
 rw[waitW,List.length_map,evW_map dss waitC evS_wait rfl]
theorem waitK_len (ds:List Dd):∀k:Nat,(waitK ds k).length≤2*k
 | 0=>by simp[waitK]
 |k+1=>by
  have ih:=waitK_len ds k;rw[waitK];split
  · omega
  ·
   split
   · simp;omega
   · simp;omega
theorem behP_lt {es:List Ev}{i j:Nat}(h:behP es i j=true):i<j:=by
 apply Classical.byContradiction;intro hn;rw[behP_up (by omega)] at h;cases h
theorem btw_odd:∀(l:List Dd) (m:Nat),2*m+1<(btw l).length→(btw l).getD (2*m+1) zD=waitD
 | [],m,h=>by simp[btw] at h
 | [d],m,h=>by simp[btw] at h
 |d::e::r,0,h=>by rw[btw_cons d (by simp)];rfl
 |d::e::r,m+1,h=>by
  rw[btw_cons d (by simp)] at h ⊢;have ih:=btw_odd (e::r) m (by simp at h;omega);rw[show 2*(m+1)+1=(2*m+1)+1+1 by omega,List.getD_cons_succ,List.getD_cons_succ];exact ih
theorem wait_between {ds:List Dd}{lo hi:Nat}(h:lo<hi)(hh:hi<(waitC ds).length)(h1:((waitC ds).getD lo zD).1≠4)(h2:((waitC ds).getD hi zD).1≠4):waitsD (waitC ds) lo hi=true:=by
 rw[waitC_btw] at hh h1 h2 ⊢
 have even:∀q,q<(btw (strip ds)).length→((btw (strip ds)).getD q zD).1≠4→q % 2=0:=by
  intro q hq hn;apply Classical.byContradiction;intro ho;have e:q=2*(q / 2)+1:=by omega
  rw[e] at hq hn;rw[btw_odd _ _ hq] at hn;exact hn rfl
 have a:=even lo (by omega) h1;have b:=even hi hh h2;have e:lo+1=2*(lo / 2)+1:=by omega
 refine waitsD_yes (j:=lo+1) (by omega) (by omega) ?_;rw[e,btw_odd _ _ (by omega)];rfl
theorem kept_waited {dss:List (List Dd)}(hw:workB (waitW dss)=true):kepL (waitW dss) (eventsB (waitW dss))=behL (eventsB (waitW dss)):=by
 obtain⟨h12,_,_,_,hG⟩:=events_law hw;have e1:eventsB (waitW dss)=evsW (waitW dss) (waitW dss).length:=by rw[eventsB,if_pos hw]
 rw[e1];obtain⟨ho,_,hN⟩:=evs_ord (waitW dss) (waitW dss).length;generalize evsW (waitW dss) (waitW dss).length=es at h12 hG ho hN;have b1:=beh_line h12;have k1:=kep_line (dss:=waitW dss) h12;refine Web.ext k1.1 b1.1 (fun i j hi hj=>?_);rw[k1.2 i j hi,b1.2 i j hi]
 suffices hs:behP es i j=true→kepP (waitW dss) es i j=false by
  cases hb:behP es i j with
  |false=>simp
  |true=>rw[hs hb];simp
 intro hb
 cases hk:kepP (waitW dss) es i j with
 |false=>rfl
 |true=>
  exfalso;have hij:=behP_lt hb;unfold kepP kepQ at hk;simp only[Bool.and_eq_true,decide_eq_true_eq,Bool.not_eq_true'] at hk;obtain⟨⟨h3,_⟩,⟨⟨h4,h5⟩,_⟩,⟨h6,h7⟩,h8⟩:=hk
  have hcl:(es.getD i zE).1=(es.getD j zE).1:=by
   unfold behP at hb;simp only[Bool.and_eq_true,Bool.or_eq_true,decide_eq_true_eq,beq_iff_eq] at hb;rcases hb.2 with h|h
   · omega
   · exact h.2
  obtain⟨ci,qi,_,_,_,ei,hci,hqi,_⟩:=hG i h3 hi;obtain⟨cj,qj,_,_,_,ej,hcj,hqj,_⟩:=hG j (by omega) hj;have xi:es[i]? = some (es.getD i zE):=by rw[List.getD_eq_getElem?_getD,List.getElem?_eq_getElem hi];rfl
  have xj:es[j]? = some (es.getD j zE):=by rw[List.getD_eq_getElem?_getD,List.getElem?_eq_getElem hj];rfl
  have mi:es.getD i zE∈es:=List.mem_of_getElem? xi;have mj:es.getD j zE∈es:=List.mem_of_getElem? xj
  have hord:OrdE (waitW dss) (es.getD i zE) (es.getD j zE):=by
   have:=List.pairwise_iff_getElem.1 ho i j hi hj hij;rw[List.getElem?_eq_getElem hi] at xi;rw[List.getElem?_eq_getElem hj] at xj;rw[Option.some.inj xi,Option.some.inj xj] at this;exact this
  have gi:=Option.some.inj (xi.symm.trans ei);have gj:=Option.some.inj (xj.symm.trans ej);have hni:=hN _ mi;have hnj:=hN _ mj;clear hN ho hG xi xj mi mj ei ej;generalize es.getD i zE=a at gi h4 h6 h7 hcl hord hni;generalize es.getD j zE=b at gj h5 h6 h8 hcl hord hnj;subst gi gj;simp only at hcl;have hcc:ci=cj:=by omega
  subst hcc;have hord:=hord rfl (by simp only;omega);unfold dOf at hord h7 h8 hni hnj;simp only[Int.toNat_natCast] at hord h6 h7 h8 hni hnj;have hni:=hni (by omega);have hnj:=hnj (by omega);have hk3:(((waitW dss).getD ci []).getD qi zD).1≠3:=fun e=>by unfold wholeD at h7;rw[e] at h7;simp at h7
  have hq:qi<qj:=by
   rcases hord with h|h
   · omega
   · exact absurd h.2 hk3
  have hg:(waitW dss).getD ci []=waitC (dss.getD ci []):=by
   have hl:ci<dss.length:=by simpa [waitW] using hci
   rw[waitW,List.getD_eq_getElem?_getD,List.getElem?_map,List.getD_eq_getElem?_getD,List.getElem?_eq_getElem hl];rfl
  rw[hg] at h6 hni hnj hqj;rw[wait_between hq hqj hni hnj] at h6;cases h6
theorem kept_waitB (dss:List (List Dd)):kepL (waitB dss) (eventsB (waitB dss))=behL (eventsB (waitB dss)):=by
 have e0:kepL [] (eventsB [])=behL (eventsB []):=by
  have:workB []=false:=by decide
  rw[eventsB,this];rfl
 unfold waitB;split
 ·
  split
  ·
   rename_i h;exact kept_waited h
  · exact e0
 · exact e0
theorem up_way {n:Nat}{zs:List Int}(hz:Web n zs)(μ:Nat→Nat)(h:∀i j,i<n→j<n→line zs i j=true→μ i<μ j){i j:Nat}(hi:i<n)(hw:Way zs i j):μ i<μ j:=by
 induction hw with
 |one g=>exact h _ _ hi (hz.lt hi g) g
 |more g l ih=>exact Nat.lt_trans ih (h _ _ (g.lt hz hi) (hz.lt (g.lt hz hi) l) l)
theorem up_round {n:Nat}{zs:List Int}(hz:Web n zs)(μ:Nat→Nat)(h:∀i j,i<n→j<n→line zs i j=true→μ i<μ j):roundB zs=false:=by
 cases hr:roundB zs with
 |false=>rfl
 |true=>
  obtain⟨i,hi,hw⟩:=(round_iff hz).1 hr;exact absurd (up_way hz μ h hi hw) (Nat.lt_irrefl _)
theorem up_lift {n:Nat}{zs cl:List Int}(hz:Web n zs)(hc:cl.length=n)(τ:Nat→Nat)(h1:∀i j,i<n→j<n→cl.getD i 0=cl.getD j 0→τ i=τ j)
  (h2:∀i j,i<n→j<n→line zs i j=true→cl.getD i 0≠cl.getD j 0→τ i<τ j):roundB (liftL zs cl)=false:=by
 obtain⟨w1,_,w3⟩:=web_lift hz hc;refine up_round w1 τ (fun i j hi hj hl=>?_);obtain⟨_,hne,a,b,ha,hb,ea,eb,hab⟩:=(w3 i j hi).1 hl;have:=h2 a b ha hb hab (by rw[ea,eb];exact fun e=>hne e.symm);rw[h1 a i ha hi ea,h1 b j hb hj eb] at this;exact this
theorem less_way {n:Nat}{a b:List Int}(ha:Web n a)(h:∀i j,i<n→j<n→line a i j=true→line b i j=true){i j:Nat}(hi:i<n)(hw:Way a i j):Way b i j:=by
 induction hw with
 |one g=>exact .one (h _ _ hi (ha.lt hi g) g)
 |more g l ih=>exact .more ih (h _ _ (g.lt ha hi) (ha.lt (g.lt ha hi) l) l)
theorem less_round {n:Nat}{a b:List Int}(ha:Web n a)(hb:Web n b)(h:∀i j,i<n→j<n→line a i j=true→line b i j=true)(hr:roundB b=false):roundB a=false:=by
 cases hq:roundB a with
 |false=>rfl
 |true=>
  obtain⟨i,hi,hw⟩:=(round_iff ha).1 hq;rw[(round_iff hb).2 ⟨i,hi,less_way ha h hi hw⟩] at hr;cases hr
theorem less_lift {n:Nat}{a b cl:List Int}(ha:Web n a)(hb:Web n b)(hc:cl.length=n)(h:∀i j,i<n→j<n→line a i j=true→line b i j=true)(hr:roundB (liftL b cl)=false):roundB (liftL a cl)=false:=by
 obtain⟨wa,_,la⟩:=web_lift ha hc;obtain⟨wb,_,lb⟩:=web_lift hb hc;refine less_round wa wb (fun i j hi hj hl=>?_) hr;obtain⟨h1,h2,x,y,hx,hy,ex,ey,hxy⟩:=(la i j hi).1 hl;exact (lb i j hi).2 ⟨h1,h2,x,y,hx,hy,ex,ey,h x y hx hy hxy⟩
def pwL (es:List Ev)(f rows:List Int):List Int:=mixL orI (mixL orI (plcL es) (fwL es f)) (mixL orI (rwL es rows) (agL es f rows))
def owP (es:List Ev)(i k:Nat):Bool:=decide (3≤i)&&decide (3≤k)&&((es.getD i zE).1==(es.getD k zE).1)
def owL (es:List Ev)(f:List Int):List Int:=offAll (owP es) es.length (fwL es f) es.length
def swL (dss:List (List Dd))(es:List Ev)(f rows:List Int):List Int:=mixL orI (mixL orI (kepL dss es) (owL es f)) (mixL orI (rwL es rows) (agL es f rows))
def xwL (es:List Ev)(f rows:List Int):List Int:=mixL orI (mixL orI (behL es) (fwL es f)) (mixL orI (rwL es rows) (agL es f rows))
def pwB (dss:List (List Dd))(f rows:List Int):List Int:=if taleB dss f rows=true then pwL (eventsB dss) f rows else []
def owB (dss:List (List Dd))(f:List Int):List Int:=if sourceB dss f=true then owL (eventsB dss) f else []
def swB (dss:List (List Dd))(f rows:List Int):List Int:=if taleB dss f rows=true then swL dss (eventsB dss) f rows else []
def xwB (dss:List (List Dd))(f rows:List Int):List Int:=if taleB dss f rows=true then xwL (eventsB dss) f rows else []
def eachB (dss:List (List Dd))(f rows:List Int):Bool:=taleB dss f rows&&!roundB (pwL (eventsB dss) f rows)
def slowB (dss:List (List Dd))(f rows:List Int):Bool:=taleB dss f rows&&(!roundB (pwL (eventsB dss) f rows)&&!roundB (liftL (swL dss (eventsB dss) f rows) (clsB (eventsB dss))))
def strictB (dss:List (List Dd))(f rows:List Int):Bool:=taleB dss f rows&&(!roundB (pwL (eventsB dss) f rows)&&!roundB (liftL (xwL (eventsB dss) f rows) (clsB (eventsB dss))))
theorem rd_in {es:List Ev}(hx:es.length≤12){i:Nat}(hi:i<(idxB rdE es).length):0≤(idxB rdE es).getD i 0∧(idxB rdE es).getD i 0<(es.length:Int):=idxB_range hx hi
theorem rd_is {es:List Ev}(hx:es.length≤12){i:Nat}(hi:i<(idxB rdE es).length):(es.getD ((idxB rdE es).getD i 0).toNat zE).2.2.1=true:=by
 have hm:(idxB rdE es).getD i 0∈idxB rdE es:=getD_mem hi;unfold idxB at hm ⊢;rw[if_pos hx] at hm ⊢;exact idxK_mem rdE es _ _ hm
theorem rd_nodup {es:List Ev}(hx:es.length≤12):(idxB rdE es).Nodup:=by
 unfold idxB;rw[if_pos hx];exact rises_nodup _ (idxK_rises rdE es _)
theorem fr_is {es:List Ev}{f:List Int}(hx:es.length≤12)(h:srcB (chcL es) f=true){i:Nat}(hi:i<(idxB rdE es).length):(es.getD (f.getD i 0).toNat zE).2.2.1=false:=by
 unfold srcB at h;rw[Bool.and_eq_true,decide_eq_true_eq] at h;obtain⟨h1,h2⟩:=h;have hc:(chcL es).length=(idxB rdE es).length:=chcK_len _ _ _;have h3:=(srcK_iff (chcL es).length).1 h2 i (by omega);unfold chcL at h3;rw[chcK_get _ _ _ _ hi] at h3;have h4:=isB_mem h3;unfold idxB at h4;rw[if_pos hx] at h4;have h6:=idxK_mem _ _ _ _ h4;unfold toE at h6;simp only[Bool.and_eq_true,Bool.not_eq_true'] at h6;exact h6.1
structure Webs (es:List Ev)(f rows:List Int):Prop where
 fw:Web es.length (fwL es f)
 rw':Web es.length (rwL es rows)
 ag:Web es.length (agL es f rows)
 fwl:∀a j:Nat,a<es.length→(line (fwL es f) a j=true↔∃i,i<(idxB rdE es).length∧f.getD i 0=(a:Int)∧(idxB rdE es).getD i 0=(j:Int))
 rwl:∀a b:Nat,a<es.length→(line (rwL es rows) a b=true↔∃i q,i<rows.length∧q<rows.length∧rwP es rows i q=true∧rows.getD i 0=(a:Int)∧rows.getD q 0=(b:Int))
 agl:∀a j:Nat,a<es.length→(line (agL es f rows) a j=true↔∃i,i<(idxB rdE es).length∧(idxB rdE es).getD i 0=(a:Int)∧line (rwL es rows) (f.getD i 0).toNat j=true)
theorem webs_of {es:List Ev}{f rows:List Int}(hx:es.length≤12)(hs:srcB (chcL es) f=true)(hr:rowsL es rows=true):Webs es f rows:=by
 obtain⟨sl,su⟩:=src_use hx hs;obtain⟨rn,_,ru⟩:=rows_use hx hr;have w1:=web_rwAll hx ru rows.length (Nat.le_refl _);have w2:=fw_line (n:=es.length) (rs:=idxB rdE es) (f:=f) hx (idxB rdE es).length (fun i hi=>rd_in hx hi) (fun i hi=>(su i hi).1);have w3:=web_ag (n:=es.length) (rs:=idxB rdE es) (f:=f) (row:=rwL es rows) hx (rd_nodup hx) w1.1 (idxB rdE es).length (Nat.le_refl _) (fun i hi=>rd_in hx hi) (fun i hi=>(su i hi).1);exact⟨w2.1,w1.1,w3.1,w2.2,w1.2,w3.2⟩
theorem web_four {n:Nat}{a b c d:List Int}(ha:Web n a)(hb:Web n b)(hc:Web n c)(hd:Web n d):Web n (mixL orI (mixL orI a b) (mixL orI c d)) ∧
  ∀i j,i<n→line (mixL orI (mixL orI a b) (mixL orI c d)) i j=(line a i j||line b i j||(line c i j||line d i j)):=by
 obtain⟨h1,l1⟩:=web_join ha hb;obtain⟨h2,l2⟩:=web_join hc hd;obtain⟨h3,l3⟩:=web_join h1 h2;exact⟨h3,fun i j hi=>by rw[l3 i j hi,l1 i j hi,l2 i j hi]⟩
theorem ow_line {es:List Ev}{f rows:List Int}(W:Webs es f rows):Web es.length (owL es f)∧∀a j:Nat,a<es.length→line (owL es f) a j=(line (fwL es f) a j&&!owP es a j):=by
 obtain⟨h1,h2⟩:=web_offAll (p:=owP es) W.fw es.length (Nat.le_refl _);refine⟨h1,fun a j ha=>?_⟩;unfold owL;rw[h2 a j ha]
 cases hl:line (fwL es f) a j with
 |false=>rfl
 |true=>
  have hj:=W.fw.lt ha hl;simp[ha,hj]
theorem mix_none (f:Int→Int→Int)(a:List Int):mixL f a []=[]:=by
 unfold mixL;split<;>simp
def chnL (a b c d:List Int):List Int:=mixL orI (mixL orI (mixL orI a b) c) d
theorem web_chn {n:Nat}{a b c d:List Int}(ha:Web n a)(hb:Web n b)(hc:Web n c)(hd:Web n d):chnL a b c d=mixL orI (mixL orI a b) (mixL orI c d):=by
 obtain⟨h1,l1⟩:=web_join ha hb;obtain⟨h2,l2⟩:=web_join h1 hc;obtain⟨h3,l3⟩:=web_join h2 hd;obtain⟨h4,l4⟩:=web_four ha hb hc hd;refine Web.ext h3 h4 (fun i j hi _=>?_);unfold chnL;rw[l4 i j hi,l3 i j hi,l2 i j hi,l1 i j hi,Bool.or_assoc]
theorem pw_chain (dss:List (List Dd))(f rows:List Int):chnL (plcL (eventsB dss)) (fwB dss f) (rwB dss rows) (agB dss f rows)=pwB dss f rows:=by
 cases hb:taleB dss f rows with
 |false=>
  rw[pwB,agB,hb];exact mix_none _ _
 |true=>
  obtain⟨hw,hs,hr⟩:=tale_use hb;have h12:=(events_law hw).1;have e1:eventsB dss=evsW dss dss.length:=by rw[eventsB,if_pos hw]
  rw[←e1] at h12;have W:=webs_of h12 hs hr;have hb2:=hb;unfold taleB at hb2;rw[Bool.and_eq_true] at hb2;rw[pwB,agB,if_pos hb,if_pos hb,fwB,if_pos hb2.1,rwB,if_pos hb2.2];exact web_chn (plc_line h12).1 W.fw W.rw' W.ag
def mixK (f:Int→Int→Int)(a b:List Int)(k:Nat):List Int:=(List.zipWith f a b).take k++a.drop k
theorem mixK_len (f:Int→Int→Int){a b:List Int}(h:a.length=b.length)(k:Nat):(mixK f a b k).length=a.length:=by
 unfold mixK;rw[List.length_append,List.length_take,List.length_zipWith,List.length_drop];omega
theorem mixK_get (f:Int→Int→Int){a b:List Int}(h:a.length=b.length){k:Nat}(hk:k<a.length):(mixK f a b k).getD k 0=a.getD k 0:=by
 unfold mixK;have hl:((List.zipWith f a b).take k).length=k:=by rw[List.length_take,List.length_zipWith];omega
 rw[List.getD_eq_getElem?_getD,List.getElem?_append_right (by omega),hl,Nat.sub_self,List.getElem?_drop,Nat.add_zero,List.getD_eq_getElem?_getD]
theorem mixK_set (f:Int→Int→Int){a b:List Int}(h:a.length=b.length){k:Nat}(hk:k<a.length):(mixK f a b k).set k (f (a.getD k 0) (b.getD k 0))=mixK f a b (k+1):=by
 unfold mixK;have hz:k<(List.zipWith f a b).length:=by rw[List.length_zipWith];omega
 have hl:((List.zipWith f a b).take k).length=k:=by rw[List.length_take];omega
 rw[List.set_append_right _ _ (by omega),hl,Nat.sub_self,List.drop_eq_getElem_cons hk,List.set_cons_zero,List.take_succ_eq_append_getElem hz,List.append_assoc]
 congr 1
 rw[List.getElem_zipWith,List.getD_eq_getElem?_getD,List.getD_eq_getElem?_getD,List.getElem?_eq_getElem hk,List.getElem?_eq_getElem (show k<b.length by omega)];rfl
theorem mixK_end (f:Int→Int→Int){a b:List Int}(h:a.length=b.length):mixK f a b a.length=List.zipWith f a b:=by
 unfold mixK;rw[List.drop_length,List.append_nil,List.take_of_length_le (by rw[List.length_zipWith];omega)]
def Keep (w w':World):Prop:=Below w.heap.size w w'
theorem Keep.refl (w:World):Keep w w:=Below.refl _ _
theorem Keep.size {w w':World}(h:Keep w w'):w.heap.size≤w'.heap.size:=Below.size h
theorem Keep.trans {a b c:World}(h:Keep a b)(k:Keep b c):Keep a c:=Below.trans h (Below.mono k h.size)
theorem Keep.drew {a w:World}(h:Keep a w):Keep a w.drew:=Below.drew h
theorem Keep.drewN {a w:World}(h:Keep a w)(n:Nat):Keep a (w.drewN n):=below_drewN h n
theorem Keep.alloc {a w:World}(h:Keep a w)(o:Obj):Keep a (w.alloc o):=Below.alloc h h.size o
theorem Keep.grown {a w w':World}{row:Option Nat}(h:Keep a w)(hg:w.grownBy w' row)(hr:∀k,row=some k→a.heap.size≤k):Keep a w':=Below.grown h hg h.size hr
theorem Keep.grownBy {w w':World}(h:Keep w w'):w.grownBy w' none:=⟨Below.os h,Below.tape h,Below.output h,Below.size h,fun k hk _=>Below.block h k hk⟩
theorem Keep.cell {w w':World}(h:Keep w w'){b o:Nat}(hb:b<w.heap.size):w'.cell? ⟨b,o,none⟩=w.cell? ⟨b,o,none⟩:=Below.cell h hb
theorem grown_trans {a b c:World}{row:Option Nat}(h:a.grownBy b row)(k:b.grownBy c row):a.grownBy c row:=
 ⟨k.os.trans h.os,k.tape.trans h.tape,k.output.trans h.output,Nat.le_trans h.size k.size,fun i hi hne=>(k.block i (Nat.lt_of_lt_of_le hi h.size) hne).trans (h.block i hi hne)⟩
def Rd (w:World)(v:Value)(zs:List Int):Prop:=
 ∃(a:Option Addr) (cap:Nat),v = .slice a zs.length cap ∧
  (zs=[]∨∃b off,a=some ⟨b,off,none⟩∧b<w.heap.size∧∀i,i<zs.length→w.cell? ⟨b,off+i,none⟩=some (.int .i64 (zs.getD i 0)))
theorem Rd.keep {w w':World}{v:Value}{zs:List Int}(h:Rd w v zs)(k:Keep w w'):Rd w' v zs:=by
 obtain⟨a,cap,hv,h⟩:=h;refine⟨a,cap,hv,?_⟩;rcases h with h|⟨b,off,ha,hb,hc⟩
 · exact .inl h
 · exact .inr ⟨b,off,ha,Nat.lt_of_lt_of_le hb k.size,fun i hi=>(k.cell hb).trans (hc i hi)⟩
def Own (w:World)(base:Nat)(v:Value)(zs:List Int):Prop:=w.ownsRow base 2 1 v zs.length (zs.map (Value.int .i64))
theorem Own.kept {w w':World}{base:Nat}{v:Value}{zs:List Int}{row:Option Nat}(h:Own w base v zs)(hg:w.grownBy w' row)(hne:v.ownBlock=none∨v.ownBlock≠row):Own w' base v zs:=
 World.ownsRow.kept h hg hne
theorem Own.keep {w w':World}{base:Nat}{v:Value}{zs:List Int}(h:Own w base v zs)(k:Keep w w'):Own w' base v zs:=
 Own.kept h k.grownBy (by cases v.ownBlock<;>simp)
theorem Own.rd {w:World}{base:Nat}{v:Value}{zs:List Int}(h:Own w base v zs):Rd w v zs:=by
 have hlt:=World.ownsRow.lt h;rcases h.2 with ⟨rfl,hn⟩|⟨g,cap,cur,rfl,hb,hg,rest⟩
 ·
  have:zs=[]:=List.eq_nil_of_length_eq_zero hn;subst this;exact⟨none,0,rfl,.inl rfl⟩
 ·
  refine⟨some ⟨g,0,none⟩,cap,rfl,.inr ⟨g,0,rfl,(hlt g rfl).2,fun i hi=>?_⟩⟩;have hc:=World.ownsRow.cellAt h i (by simpa using hi);rw[Nat.zero_add,hc,List.getElem?_map,List.getElem?_eq_getElem hi,List.getD_eq_getElem?_getD,List.getElem?_eq_getElem hi];rfl
theorem Own.base_le {w:World}{base base':Nat}{v:Value}{zs:List Int}(h:Own w base v zs)(hb:base'≤base):Own w base' v zs:=by
 refine⟨h.1,?_⟩;rcases h.2 with h|⟨g,cap,cur,hv,hg,rest⟩
 · exact .inl h
 · exact .inr ⟨g,cap,cur,hv,Nat.le_trans hb hg,rest⟩
theorem Own.ge {w:World}{base:Nat}{v:Value}{zs:List Int}(h:Own w base v zs):∀k,v.ownBlock=some k→base≤k:=fun k hk=>(World.ownsRow.lt h k hk).1
theorem Own.apart {w w':World}{base:Nat}{v v':Value}{zs zs':List Int}(h:Own w base v zs)(h':Own w' w.heap.size v' zs'):v.ownBlock=none∨v.ownBlock≠v'.ownBlock:=by
 cases hv:v.ownBlock with
 |none=>exact .inl rfl
 |some k=>
  refine .inr fun e=>?_
  have h1:=(World.ownsRow.lt h k hv).2;have h2:=h'.ge k e.symm;omega
theorem own_hit {w:World}{base:Nat}{v:Value}{zs:List Int}{x:Int}(h:w.ownsRow base 2 1 v (zs.length+1) (zs.map (Value.int .i64)++[.int .i64 x])):Own w base v (zs++[x]):=by
 unfold Own;simpa using h
theorem Tryz.infoI:(Tryz.prog.info? 2).map (fun i=>(i.zero,i.size,i.bytes))=some (some (.int .i64 0),1,8):=by kernel_rfl
def RowAt (w:World)(g:Nat)(zs:List Int):Prop:=
 ∃(cur:Array Value) (e:TypeId),w.heap[g]? = some (.cells cur e (0,0))∧cur.toList.take zs.length=zs.map (Value.int .i64)
theorem RowAt.lt {w:World}{g:Nat}{zs:List Int}(h:RowAt w g zs):g<w.heap.size:=by
 obtain⟨cur,e,hh,_⟩:=h;exact (Array.getElem?_eq_some_iff.1 hh).1
theorem RowAt.cell {w:World}{g:Nat}{zs:List Int}(h:RowAt w g zs){j:Nat}(hj:j<zs.length):w.cell? ⟨g,j,none⟩=some (.int .i64 (zs.getD j 0)):=by
 obtain⟨cur,e,hh,ht⟩:=h;rw[cell_of_row w g j cur e (0,0) hh];have h1:(cur.toList.take zs.length)[j]? = (zs.map (Value.int .i64))[j]?:=by rw[ht]
 rw[List.getElem?_take,if_pos hj,List.getElem?_map,List.getElem?_eq_getElem hj] at h1;rw[List.getD_eq_getElem?_getD,List.getElem?_eq_getElem hj]
 simpa using h1
theorem RowAt.free {w:World}{g:Nat}{zs:List Int}(h:RowAt w g zs)(j:Nat):w.frozen? ⟨g,j,none⟩=false:=by
 obtain⟨cur,e,hh,_⟩:=h;exact frozen_of_row w g j _ _ hh
theorem RowAt.kept {w w':World}{g:Nat}{zs:List Int}{row:Option Nat}(h:RowAt w g zs)(hg:w.grownBy w' row)(hne:row≠some g):RowAt w' g zs:=by
 have hlt:=h.lt;obtain⟨cur,e,hh,ht⟩:=h;exact⟨cur,e,by rw[hg.block g hlt (fun e=>hne e.symm)];exact hh,ht⟩
theorem RowAt.keep {w w':World}{g:Nat}{zs:List Int}(h:RowAt w g zs)(k:Keep w w'):RowAt w' g zs:=h.kept k.grownBy (by simp)
theorem grown_set (w:World)(g j:Nat)(v:Value):w.grownBy (w.setCell ⟨g,j,none⟩ v) (some g):=
 ⟨rfl,rfl,rfl,by simp,fun k _ hk=>heap_setCell_other w ⟨g,j,none⟩ k v (fun e=>hk (by simp[e]))⟩
theorem grown_draw (w:World)(n:Nat)(row:Option Nat):w.grownBy (w.drewN n) row:=⟨rfl,rfl,rfl,Nat.le_refl _,fun _ _ _=>rfl⟩
theorem grown_drew (w:World)(row:Option Nat):w.grownBy w.drew row:=⟨rfl,rfl,rfl,Nat.le_refl _,fun _ _ _=>rfl⟩
theorem RowAt.drewN {w:World}{g:Nat}{zs:List Int}(h:RowAt w g zs)(n:Nat):RowAt (w.drewN n) g zs:=h.kept (row:=none) (grown_draw w n none) (by simp)
theorem RowAt.drew {w:World}{g:Nat}{zs:List Int}(h:RowAt w g zs):RowAt w.drew g zs:=h.kept (row:=none) (grown_drew w none) (by simp)
theorem take_set_val (l:List Value)(zs:List Int)(j:Nat)(x:Int)(h:l.take zs.length=zs.map (Value.int .i64)):
  (l.set j (.int .i64 x)).take (zs.set j x).length=(zs.set j x).map (Value.int .i64):=by
 rw[List.length_set,List.take_set,h,List.map_set]
theorem RowAt.set {w:World}{g:Nat}{zs:List Int}(h:RowAt w g zs)(j:Nat)(x:Int):RowAt (w.setCell ⟨g,j,none⟩ (.int .i64 x)) g (zs.set j x):=by
 obtain⟨cur,e,hh,ht⟩:=h;refine⟨cur.setIfInBounds j (.int .i64 x),e,?_,?_⟩
 · rw[heap_setCell_same w g j _ _ _ hh]
 ·
  rw[Array.toList_setIfInBounds];exact take_set_val _ zs j x ht
def Row (w:World)(base:Nat)(v:Value)(zs:List Int):Prop:=
 (v = .slice none 0 0∧zs=[])∨∃g cap,v = .slice (some ⟨g,0,none⟩) zs.length cap∧base≤g∧RowAt w g zs
theorem Own.row {w:World}{base:Nat}{v:Value}{zs:List Int}(h:Own w base v zs):Row w base v zs:=by
 rcases h.2 with ⟨rfl,hn⟩|⟨g,cap,cur,rfl,hb,hg,_,_,_,ht⟩
 · exact .inl ⟨rfl,List.eq_nil_of_length_eq_zero hn⟩
 · exact .inr ⟨g,cap,rfl,hb,cur,_,hg,by rw[Nat.mul_one] at ht;exact ht⟩
theorem Row.lt {w:World}{base:Nat}{v:Value}{zs:List Int}(h:Row w base v zs):∀k,v.ownBlock=some k→base≤k∧k<w.heap.size:=by
 intro k hk;rcases h with ⟨rfl,_⟩|⟨g,cap,rfl,hb,hr⟩
 · simp[Value.ownBlock] at hk
 · simp[Value.ownBlock] at hk;subst hk;exact⟨hb,hr.lt⟩
theorem Row.ge {w:World}{base:Nat}{v:Value}{zs:List Int}(h:Row w base v zs):∀k,v.ownBlock=some k→base≤k:=fun k hk=>(h.lt k hk).1
theorem Row.kept {w w':World}{base:Nat}{v:Value}{zs:List Int}{row:Option Nat}(h:Row w base v zs)(hg:w.grownBy w' row)(hne:v.ownBlock=none∨v.ownBlock≠row):Row w' base v zs:=by
 rcases h with h|⟨g,cap,rfl,hb,hr⟩
 · exact .inl h
 ·
  refine .inr ⟨g,cap,rfl,hb,hr.kept hg ?_⟩;simp[Value.ownBlock] at hne;exact fun e=>hne e.symm
theorem Row.keep {w w':World}{base:Nat}{v:Value}{zs:List Int}(h:Row w base v zs)(k:Keep w w'):Row w' base v zs:=
 h.kept k.grownBy (by cases v.ownBlock<;>simp)
theorem Row.rd {w:World}{base:Nat}{v:Value}{zs:List Int}(h:Row w base v zs):Rd w v zs:=by
 rcases h with ⟨rfl,rfl⟩|⟨g,cap,rfl,hb,hr⟩
 · exact⟨none,0,rfl,.inl rfl⟩
 · exact⟨some ⟨g,0,none⟩,cap,rfl,.inr ⟨g,0,rfl,hr.lt,fun i hi=>by rw[Nat.zero_add];exact hr.cell hi⟩⟩
theorem Row.base_le {w:World}{base base':Nat}{v:Value}{zs:List Int}(h:Row w base v zs)(hb:base'≤base):Row w base' v zs:=by
 rcases h with h|⟨g,cap,hv,hg,hr⟩
 · exact .inl h
 · exact .inr ⟨g,cap,hv,Nat.le_trans hb hg,hr⟩
theorem Row.apart {w w':World}{base:Nat}{v v':Value}{zs zs':List Int}(h:Row w base v zs)(h':Row w' w.heap.size v' zs'):v.ownBlock=none∨v.ownBlock≠v'.ownBlock:=by
 cases hv:v.ownBlock with
 |none=>exact .inl rfl
 |some k=>
  refine .inr fun e=>?_
  have h1:=(h.lt k hv).2;have h2:=h'.ge k e.symm;omega
theorem row_new {w:World}{g n cap base:Nat}{zs:List Int}(h:RowAt w g zs)(hb:base≤g)(hn:zs.length=n):Row w base (.slice (some ⟨g,0,none⟩) n cap) zs:=by
 subst hn;exact .inr ⟨g,cap,rfl,hb,h⟩
theorem row_empty (w:World)(e:TypeId):Row (w.alloc (.cells #[] e)) w.heap.size (.slice (some ⟨w.heap.size,0,none⟩) 0 0) []:=
 .inr ⟨w.heap.size,0,rfl,Nat.le_refl _,#[],e,heap_alloc_new w _,rfl⟩
def thenK (a b:List Int)(k:Nat):List Int:=(a.map (fun x=>thenS x b 12)).take k++List.replicate (a.length-k) 0
theorem thenK_len (a b:List Int){k:Nat}(hk:k≤a.length):(thenK a b k).length=a.length:=by
 unfold thenK;rw[List.length_append,List.length_take,List.length_map,List.length_replicate];omega
theorem thenK_zero (a b:List Int):thenK a b 0=List.replicate a.length 0:=by simp[thenK]
theorem thenK_end (a b:List Int):thenK a b a.length=a.map (fun x=>thenS x b 12):=by
 unfold thenK;rw[Nat.sub_self,List.replicate_zero,List.append_nil,List.take_of_length_le (by simp)]
theorem thenK_set (a b:List Int){k:Nat}(hk:k<a.length):(thenK a b k).set k (thenS (a.getD k 0) b 12)=thenK a b (k+1):=by
 unfold thenK;have hz:k<(a.map (fun x=>thenS x b 12)).length:=by simpa using hk
 have hl:((a.map (fun x=>thenS x b 12)).take k).length=k:=by rw[List.length_take];omega
 rw[List.set_append_right _ _ (by omega),hl,Nat.sub_self,show a.length-k=(a.length-(k+1))+1 from by omega,List.replicate_succ,List.set_cons_zero,List.take_succ_eq_append_getElem hz,List.append_assoc,List.getElem_map,List.getD_eq_getElem?_getD,List.getElem?_eq_getElem hk];rfl
theorem thenK_same (a b:List Int){k:Nat}(hk:k<a.length):(thenK a b k).set k 0=thenK a b k:=by
 unfold thenK;have hl:((a.map (fun x=>thenS x b 12)).take k).length=k:=by rw[List.length_take,List.length_map];omega
 rw[List.set_append_right _ _ (by omega),hl,Nat.sub_self,show a.length-k=(a.length-(k+1))+1 from by omega,List.replicate_succ,List.set_cons_zero]
theorem mem_at {n:Nat}{p:Int}(hp:okB n p=true){j:Nat}(hj:j<(mem p 12).length):∃m:Nat,(mem p 12).getD j 0=m∧m<n:=by
 have hm:=getD_mem hj;obtain⟨m,_,e,hs⟩:=(mem_iff p 12 _).1 hm;exact⟨m,e,inSetB_iff hp hs⟩
theorem foldl_snoc {α:Type}(f:α→Int→α)(x:α)(l:List Int){j:Nat}(hj:j<l.length):(l.take (j+1)).foldl f x=f ((l.take j).foldl f x) (l.getD j 0):=by
 rw[take_snoc l j hj,List.foldl_append];rfl
theorem set_set_same (l:List Int)(k:Nat)(x y:Int):(l.set k x).set k y=l.set k y:=by simp
theorem getD_set_same (l:List Int){k:Nat}(hk:k<l.length)(x:Int):(l.set k x).getD k 0=x:=by rw[getD_set l k k x hk,if_pos rfl]
theorem wayAll_len (zs:List Int)(m:Nat):(wayAll zs m).length=zs.length:=by
 induction m with
 |zero=>rfl
 |succ m ih=>unfold wayAll;rw[wayIn_len,ih]
def RdO (w:World)(B:Nat)(v:Value)(zs:List Int):Prop:=
 ∃(a:Option Addr) (cap:Nat),v = .slice a zs.length cap ∧
  (zs=[]∨∃b off,a=some ⟨b,off,none⟩∧b<B∧b<w.heap.size∧∀i,i<zs.length→w.cell? ⟨b,off+i,none⟩=some (.int .i64 (zs.getD i 0)))
theorem Rd.old {w:World}{v:Value}{zs:List Int}(h:Rd w v zs):RdO w w.heap.size v zs:=by
 obtain⟨a,cap,hv,h⟩:=h;refine⟨a,cap,hv,?_⟩;rcases h with h|⟨b,off,ha,hb,hc⟩
 · exact .inl h
 · exact .inr ⟨b,off,ha,hb,hb,hc⟩
theorem RdO.rd {w:World}{B:Nat}{v:Value}{zs:List Int}(h:RdO w B v zs):Rd w v zs:=by
 obtain⟨a,cap,hv,h⟩:=h;refine⟨a,cap,hv,?_⟩;rcases h with h|⟨b,off,ha,_,hb,hc⟩
 · exact .inl h
 · exact .inr ⟨b,off,ha,hb,hc⟩
theorem RdO.stay {w w':World}{B:Nat}{v:Value}{zs:List Int}{row:Option Nat}(h:RdO w B v zs)(hg:w.grownBy w' row)(hr:∀k,row=some k→B≤k):RdO w' B v zs:=by
 obtain⟨a,cap,hv,h⟩:=h;refine⟨a,cap,hv,?_⟩;rcases h with h|⟨b,off,ha,hB,hb,hc⟩
 · exact .inl h
 ·
  refine .inr ⟨b,off,ha,hB,Nat.lt_of_lt_of_le hb hg.size,fun i hi=>?_⟩;rw[World.cell?_of_block (w:=w) (hg.block b hb (fun e=>by have:=hr b e.symm;omega))];exact hc i hi
theorem RdO.keep {w w':World}{B:Nat}{v:Value}{zs:List Int}(h:RdO w B v zs)(k:Keep w w'):RdO w' B v zs:=h.stay k.grownBy (by simp)
theorem mixL_len (f:Int→Int→Int)(a b:List Int):(mixL f a b).length≤12:=by
 unfold mixL
 cases h:twoB a b with
 |false=>simp
 |true=>have:=webB_len (twoB_iff.1 h).2.1;simp;omega
theorem heap_at (w:World)(A:Obj)(i:Nat):(w.alloc A).heap[i]? = if i=w.heap.size then some A else w.heap[i]?:=Array.getElem?_push
theorem heap_size (w:World)(A:Obj):(w.alloc A).heap.size=w.heap.size+1:=Array.size_push _
theorem heap_drew (w:World):w.drew.heap=w.heap:=rfl
theorem box_size {w w1:World}{o:Obj}(k:Keep (w.alloc o) w1):w.heap.size<w1.heap.size:=by
 have:=k.size;rw[heap_size] at this;omega
theorem box_cell {w w1:World}{cs:Array Value}{t:TypeId}(k:Keep (w.alloc (.cells cs t)) w1)(i:Nat):w1.cell? ⟨w.heap.size,i,none⟩=cs[i]?:=by
 rw[k.cell (by rw[heap_size];omega),cell_of_row (w.alloc (.cells cs t)) w.heap.size i cs t (0,0) (heap_alloc_new w _)]
theorem box_heap {w w1:World}{o:Obj}(k:Keep (w.alloc o) w1):w1.heap[w.heap.size]? = some o:=
 (Below.block k w.heap.size (by rw[heap_size];omega)).trans (heap_alloc_new w o)
abbrev strV (l:List UInt8):Value:= .string ⟨l.toArray⟩
theorem results_row {P:Program}{fn:Func}{p:Tmp}{ty:TypeId}(h:fn.results=#[.cell p ty])(tmps:Array Value)(w:World)(g:Nat)(t:TypeId)(cs:Array Value)(fr:Nat×Nat)(d:TypeDesc)
  (hp:tmps.getD p undef = .pointer (some ⟨g,0,none⟩)) (hg:w.heap[g]? = some (.cells cs t fr))
  (hu:P.underlying ty=some d) (hd:(match d with | .struct _ | .array _ _=>true|_=>false)=true) (hi:(P.info? ty).map (·.size)=some cs.size):
  (results fn tmps).run P w = .ok (.agg cs) w:=results_cell_row h tmps w g t cs fr d hp hg hu hd hi
theorem results_row_tmp {P:Program}{fn:Func}{p u:Tmp}{ty:TypeId}(h:fn.results=#[.cell p ty,.tmp u])(tmps:Array Value)(w:World)(g:Nat)(t:TypeId)(cs:Array Value)(fr:Nat×Nat)(d:TypeDesc)(v:Value)
  (hp:tmps.getD p undef = .pointer (some ⟨g,0,none⟩)) (hg:w.heap[g]? = some (.cells cs t fr)) (hv:tmps.getD u undef=v)
  (hu:P.underlying ty=some d) (hd:(match d with | .struct _ | .array _ _=>true|_=>false)=true) (hi:(P.info? ty).map (·.size)=some cs.size):
  (results fn tmps).run P w = .ok (.tuple #[.agg cs,v]) w:=by
 rw[results_cell_tmp h,hp,hv];simp[asAddr,run_loadVar_row w g t ty cs fr d hg hu hd hi,Result.andThen]
theorem results_row2 {P:Program}{fn:Func}{p q:Tmp}{ty:TypeId}(h:fn.results=#[.cell p ty,.cell q ty])(tmps:Array Value)(w:World)(g g':Nat)(t t':TypeId)(cs cs':Array Value)(fr fr':Nat×Nat)(d:TypeDesc)
  (hp:tmps.getD p undef = .pointer (some ⟨g,0,none⟩)) (hg:w.heap[g]? = some (.cells cs t fr))
  (hq:tmps.getD q undef = .pointer (some ⟨g',0,none⟩)) (hg':w.heap[g']? = some (.cells cs' t' fr'))
  (hu:P.underlying ty=some d) (hd:(match d with | .struct _ | .array _ _=>true|_=>false)=true) (hi:(P.info? ty).map (·.size)=some cs.size) (hi':(P.info? ty).map (·.size)=some cs'.size):
  (results fn tmps).run P w = .ok (.tuple #[.agg cs,.agg cs']) w:=by
 have hp':tmps[p]?.getD undef = .pointer (some ⟨g,0,none⟩):=by simpa using hp
 have hq':tmps[q]?.getD undef = .pointer (some ⟨g',0,none⟩):=by simpa using hq
 simp[results,h,hp',hq',asAddr,run_loadVar_row w g t ty cs fr d hg hu hd hi,run_loadVar_row w g' t' ty cs' fr' d hg' hu hd hi']
def colIn (q:Nat→Nat→Bool)(j:Nat)(st:List Int):Nat→List Int
 | 0=>st
 |i+1=>if q i j=true then (colIn q j st i).set i (gAdd ((colIn q j st i).getD i 0) j) else colIn q j st i
def colAll (q:Nat→Nat→Bool)(n:Nat):Nat→List Int
 | 0=>List.replicate n 0
 |j+1=>colIn q j (colAll q n j) j
theorem colIn_hit {q:Nat→Nat→Bool}{j i:Nat}(st:List Int)(h:q i j=true):colIn q j st (i+1)=(colIn q j st i).set i (gAdd ((colIn q j st i).getD i 0) j):=if_pos h
theorem colIn_miss {q:Nat→Nat→Bool}{j i:Nat}(st:List Int)(h:q i j=false):colIn q j st (i+1)=colIn q j st i:=if_neg (by simp[h])
theorem web_colIn {q:Nat→Nat→Bool}{n j:Nat}{st:List Int}(hj:j<n)(hst:Web n st):∀m:Nat,m≤n →
  Web n (colIn q j st m)∧∀a b:Nat,a<n→line (colIn q j st m) a b=(line st a b||(decide (a<m)&&decide (j=b)&&q a j))
 | 0,_=>⟨hst,fun a b _=>by simp[colIn]⟩
 |m+1,hm=>by
  have ih:=web_colIn hj hst m (by omega) (q:=q)
  cases hp:q m j with
  |false=>
   rw[colIn_miss st hp];refine⟨ih.1,fun a b ha=>?_⟩;rw[ih.2 a b ha];by_cases e:a=m
   · subst e;simp[hp]
   ·
    have d:decide (a<m+1)=decide (a<m):=decide_eq_decide.2 (by omega);rw[d]
  |true=>
   rw[colIn_hit st hp];have ha:=ok_add (ih.1.2.2 m (by omega)) hj;refine⟨ih.1.set ha.1,fun a b haa=>?_⟩;have e1:=ih.2 a b haa;unfold line at e1 ⊢;rw[getD_set _ _ _ _ (by rw[ih.1.2.1];omega)];by_cases e:m=a
   ·
    subst e;simp only[if_true];rw[ha.2 b,e1];simp[hp]
   ·
    simp only[e,if_false];rw[e1];have d:decide (a<m+1)=decide (a<m):=decide_eq_decide.2 (by omega);rw[d]
theorem web_colAll {q:Nat→Nat→Bool}{n:Nat}(hn:n≤12):∀m:Nat,m≤n →
  Web n (colAll q n m)∧∀a b:Nat,a<n→line (colAll q n m) a b=(decide (b<m)&&decide (a<b)&&q a b)
 | 0,_=>⟨Web.zero hn,fun a b _=>by unfold colAll;rw[line_zero];simp⟩
 |m+1,hm=>by
  have ih:=web_colAll hn m (by omega) (q:=q);have h1:=web_colIn (q:=q) (show m<n by omega) ih.1 m (by omega);refine⟨h1.1,fun a b ha=>?_⟩;show line (colIn q m (colAll q n m) m) a b=_;rw[h1.2 a b ha,ih.2 a b ha];by_cases e:m=b
  · subst e;simp
  ·
   have d:decide (b<m+1)=decide (b<m):=decide_eq_decide.2 (by omega);rw[d];simp[e]
def isbE (a b:Ev):Bool:=(b.1 != -1)&&((a.1 == -1)||(a.1==b.1))
def onpE (a b:Ev):Bool:=a.2.2.2.1==b.2.2.2.1
def onceD (d:Dd):Bool:=(d.1==3)||(d.2.2.2 != 0)
def wtD:Dd:=(4,0,0,0)
def btwD (ds:List Dd)(lo hi:Nat):Bool:=(List.range (hi-lo)).any (fun i=>ds.getD (lo+i) zD==wtD)
def keepE (dss:List (List Dd))(a b:Ev):Bool:=(a.1 == -1)||a.2.2.1 || !b.2.2.1||(onceD (dOf dss a)||onceD (dOf dss b)||btwD (dss.getD a.1.toNat []) a.2.1.toNat b.2.1.toNat)
theorem btwD_no {ds:List Dd}{lo hi:Nat}(h:∀i,i<hi-lo→ds.getD (lo+i) zD≠wtD):btwD ds lo hi=false:=by
 unfold btwD;rw[List.any_eq_false];intro i hi';rw[List.mem_range] at hi'
 simpa using h i hi'
theorem btwD_yes {ds:List Dd}{lo hi i:Nat}(hi':i<hi-lo)(h:ds.getD (lo+i) zD=wtD):btwD ds lo hi=true:=by
 unfold btwD;rw[List.any_eq_true];exact⟨i,List.mem_range.2 hi',by rw[h];simp⟩
theorem once_whole {d:Dd}(h:okD d=true):onceD d=wholeD d:=by
 have:=(okD_restE h).2.2.1;unfold onceD wholeD;by_cases e:d.2.2.2=0
 · rw[e];rfl
 ·
  have e2:(d.2.2.2 != 0)=true:=by simp[e]
  have e3:decide (0<d.2.2.2)=true:=decide_eq_true (by omega);rw[e2,e3]
theorem okD_wait {d:Dd}(h:okD d=true)(h4:d.1=4):d=wtD:=by
 obtain⟨k,p,v,g⟩:=d;simp only at h4;subst h4;simp[okD,deedB] at h;unfold wtD;rw[Prod.mk.injEq,Prod.mk.injEq,Prod.mk.injEq];omega
theorem btw_waits {ds:List Dd}{lo hi:Nat}(hok:∀j,j<ds.length→okD (ds.getD j zD)=true)(hh:hi≤ds.length)(h4:(ds.getD lo zD).1≠4):btwD ds lo hi=waitsD ds lo hi:=by
 cases hw:waitsD ds lo hi with
 |false=>
  refine btwD_no (fun i hi' he=>?_);have hj:(ds.getD (lo+i) zD).1=4:=by rw[he];rfl
  have:lo<lo+i:=by
   apply Classical.byContradiction;intro hn;have:i=0:=by omega
   subst this;exact h4 hj
  rw[waitsD_yes this (show lo+i<hi by omega) hj] at hw;cases hw
 |true=>
  unfold waitsD at hw;rw[List.any_eq_true] at hw;obtain⟨j,hj,hq⟩:=hw;rw[List.mem_range] at hj;simp only[Bool.and_eq_true,decide_eq_true_eq,beq_iff_eq] at hq;refine btwD_yes (i:=j-lo) (by omega) ?_;rw[show lo+(j-lo)=j by omega];exact okD_wait (hok j (by omega)) hq.2
theorem evs_who {dss:List (List Dd)}(h:workB dss=true){j:Nat}(hj:j<(evsW dss dss.length).length):(j<3→((evsW dss dss.length).getD j zE).1=-1)∧(3≤j→0≤((evsW dss dss.length).getD j zE).1):=by
 obtain⟨_,_,_,_,hG⟩:=events_law h
 have hok:∀i,i<dss.length→okL (dss.getD i [])=true:=by
  simp only[workB,Bool.and_eq_true,decide_eq_true_eq] at h;exact fun i hi=>all_get [] h.1.1.1.2 i hi
 obtain⟨⟨t,ht⟩,_⟩:=evs_good hok dss.length (Nat.le_refl _);obtain⟨b0,b1,b2⟩:=beg_get ht;refine⟨fun h3=>?_,fun h3=>?_⟩
 ·
  have:j=0∨j=1∨j=2:=by omega
  rcases this with rfl|rfl|rfl
  · rw[b0]
  · rw[b1]
  · rw[b2]
 ·
  obtain⟨i,k,c,rd,vl,h1,_⟩:=hG j h3 hj;rw[List.getD_eq_getElem?_getD,h1];exact Int.natCast_nonneg _
theorem isb_beh {dss:List (List Dd)}(h:workB dss=true){i j:Nat}(hij:i<j)(hj:j<(evsW dss dss.length).length):
  isbE ((evsW dss dss.length).getD i zE) ((evsW dss dss.length).getD j zE)=behP (evsW dss dss.length) i j:=by
 have wi:=evs_who h (show i<_ by omega);have wj:=evs_who h hj;unfold isbE behP;generalize (evsW dss dss.length).getD i zE=a at wi ⊢;generalize (evsW dss dss.length).getD j zE=b at wj ⊢;have d0:decide (i<j)=true:=decide_eq_true hij;rw[d0,Bool.true_and];by_cases i3:i<3
 ·
  have e1:(a.1 == -1)=true:=by rw[wi.1 i3];rfl
  have d1:decide (i<3)=true:=decide_eq_true i3;have d2:decide (3≤i)=false:=decide_eq_false (by omega);rw[e1,d1,d2];by_cases j3:j<3
  · rw[wj.1 j3,decide_eq_false (show ¬ 3≤j by omega)];rfl
  ·
   have:=wj.2 (by omega);have e2:(b.1 != -1)=true:=by simp;omega
   rw[e2,decide_eq_true (show 3≤j by omega)];rfl
 ·
  have a0:=wi.2 (by omega);have b0:=wj.2 (by omega);have e1:(a.1 == -1)=false:=by simp;omega
  have e2:(b.1 != -1)=true:=by simp;omega
  rw[e1,e2,decide_eq_false i3,decide_eq_true (show 3≤i by omega)];simp
theorem evs_two {dss:List (List Dd)}(h:workB dss=true){i j:Nat}(hi3:3≤i)(hij:i<j)(hj:j<(evsW dss dss.length).length)
  (hc:((evsW dss dss.length).getD i zE).1=((evsW dss dss.length).getD j zE).1):
  ∃c x y:Nat,((evsW dss dss.length).getD i zE).1=(c:Int)∧((evsW dss dss.length).getD i zE).2.1=(x:Int)∧((evsW dss dss.length).getD j zE).2.1=(y:Int)∧c<dss.length∧(x<y∨(x=y∧((dss.getD c []).getD x zD).1=3))∧y<(dss.getD c []).length∧((dss.getD c []).getD x zD).1≠4:=by
 obtain⟨_,_,_,_,hG⟩:=events_law h;obtain⟨ho,_,hN⟩:=evs_ord dss dss.length;have hi:i<(evsW dss dss.length).length:=by omega
 obtain⟨ci,qi,_,_,_,ei,hci,hqi,_⟩:=hG i hi3 hi;obtain⟨cj,qj,_,_,_,ej,hcj,hqj,_⟩:=hG j (by omega) hj;have xi:(evsW dss dss.length)[i]? = some ((evsW dss dss.length).getD i zE):=by rw[List.getD_eq_getElem?_getD,List.getElem?_eq_getElem hi];rfl
 have xj:(evsW dss dss.length)[j]? = some ((evsW dss dss.length).getD j zE):=by rw[List.getD_eq_getElem?_getD,List.getElem?_eq_getElem hj];rfl
 have mi:(evsW dss dss.length).getD i zE∈evsW dss dss.length:=List.mem_of_getElem? xi
 have hord:OrdE dss ((evsW dss dss.length).getD i zE) ((evsW dss dss.length).getD j zE):=by
  have:=List.pairwise_iff_getElem.1 ho i j hi hj hij;rw[List.getElem?_eq_getElem hi] at xi;rw[List.getElem?_eq_getElem hj] at xj;rw[Option.some.inj xi,Option.some.inj xj] at this;exact this
 have gi:=Option.some.inj (xi.symm.trans ei);have gj:=Option.some.inj (xj.symm.trans ej);have hni:=hN _ mi;clear hN ho hG xi xj mi ei ej;generalize (evsW dss dss.length).getD i zE=a at gi hc hord hni ⊢;generalize (evsW dss dss.length).getD j zE=b at gj hc hord ⊢;subst gi gj;simp only at hc;have hcc:ci=cj:=by omega
 subst hcc;have hord:=hord rfl (by simp only;omega);unfold dOf at hni;simp only[Int.toNat_natCast] at hord hni;refine⟨ci,qi,qj,rfl,rfl,rfl,hci,?_,hqj,hni (by omega)⟩;rcases hord with h|h
 · exact .inl (by omega)
 ·
  refine .inr ⟨by omega,?_⟩;have h2:=h.2;unfold dOf at h2
  simpa only [Int.toNat_natCast] using h2
theorem keep_kep {dss:List (List Dd)}(h:workB dss=true){i j:Nat}(hij:i<j)(hj:j<(evsW dss dss.length).length):
  (isbE ((evsW dss dss.length).getD i zE) ((evsW dss dss.length).getD j zE)&&keepE dss ((evsW dss dss.length).getD i zE) ((evsW dss dss.length).getD j zE))=(behP (evsW dss dss.length) i j&&!kepP dss (evsW dss dss.length) i j):=by
 rw[isb_beh h hij hj]
 cases hb:behP (evsW dss dss.length) i j with
 |false=>rfl
 |true=>
  rw[Bool.true_and,Bool.true_and];have hi:i<(evsW dss dss.length).length:=by omega
  by_cases i3:i<3
  ·
   have e1:=(evs_who h hi).1 i3;have e2:kepP dss (evsW dss dss.length) i j=false:=by unfold kepP;rw[decide_eq_false (show ¬ 3≤i by omega)];rfl
   rw[e2];unfold keepE;rw[e1];rfl
  ·
   have hc:((evsW dss dss.length).getD i zE).1=((evsW dss dss.length).getD j zE).1:=by
    unfold behP at hb;simp only[Bool.and_eq_true,Bool.or_eq_true,decide_eq_true_eq,beq_iff_eq] at hb;rcases hb.2 with q|q
    · omega
    · exact q.2
   obtain⟨c,x,y,h1,h2,h3,hcl,hxy,hyl,h4⟩:=evs_two h (by omega) hij hj hc;obtain⟨_,_,_,_,hG⟩:=events_law h
   have hok:∀k,k<(dss.getD c []).length→okD ((dss.getD c []).getD k zD)=true:=by
    simp only[workB,Bool.and_eq_true,decide_eq_true_eq] at h;have:=all_get [] h.1.1.1.2 c hcl;simp only[okL,Bool.and_eq_true] at this;exact fun k hk=>all_get zD this.1 k hk
   have hcs:csE ((evsW dss dss.length).getD i zE)=csE ((evsW dss dss.length).getD j zE)→wholeD (dOf dss ((evsW dss dss.length).getD j zE))=true:=by
    intro he;obtain⟨ci,qi,ki,_,_,ei,_,_,_,_,li,_⟩:=hG i (by omega) hi;obtain⟨cj,qj,kj,_,_,ej,_,hqj,_,_,lj,_,_,_,_,_,_,hw⟩:=hG j (by omega) hj;have xi:(evsW dss dss.length)[i]? = some ((evsW dss dss.length).getD i zE):=by rw[List.getD_eq_getElem?_getD,List.getElem?_eq_getElem hi];rfl
    have xj:(evsW dss dss.length)[j]? = some ((evsW dss dss.length).getD j zE):=by rw[List.getD_eq_getElem?_getD,List.getElem?_eq_getElem hj];rfl
    have gi:=Option.some.inj (xi.symm.trans ei);have gj:=Option.some.inj (xj.symm.trans ej);clear xi xj ei ej;rw[hc,gj] at h1;rw[gj] at h3;rw[gi,gj] at he;simp only[csE] at he h1 h3;have h3:qj=y:=by omega
    rw[gi] at hc;rw[gj] at hc ⊢;unfold dOf;simp only[Int.toNat_natCast] at hc ⊢;by_cases k3:((dss.getD cj []).getD qj zD).1=3
    · unfold wholeD;rw[k3];rfl
    ·
     have:=hw (by omega) k3;unfold wholeD
     have ccj:cj=c:=by
      omega
     subst ccj;have r:=okD_restE (hok qj hqj);have:decide (0<((dss.getD cj []).getD qj zD).2.2.2)=true:=decide_eq_true (by omega);rw[this];simp
   have h1j:((evsW dss dss.length).getD j zE).1=(c:Int):=by rw[←hc];exact h1
   unfold keepE kepP kepQ;rw[hb,decide_eq_true (show 3≤i by omega)];generalize (evsW dss dss.length).getD i zE=a at h1 h2 hcs ⊢;generalize (evsW dss dss.length).getD j zE=b at h1j h3 hcs ⊢;have da:dOf dss a=(dss.getD c []).getD x zD:=by unfold dOf;rw[h1,h2,Int.toNat_natCast,Int.toNat_natCast]
   have db:dOf dss b=(dss.getD c []).getD y zD:=by unfold dOf;rw[h1j,h3,Int.toNat_natCast,Int.toNat_natCast]
   have ea:(a.1 == -1)=false:=by rw[h1];simp
   rw[ea,h1,h2,h3,Int.toNat_natCast,Int.toNat_natCast,Int.toNat_natCast,btw_waits hok (by omega) h4,da,db,once_whole (hok x (by omega)),once_whole (hok y (by omega))];rw[db] at hcs;unfold rdE;cases a.2.2.1
   ·
    cases b.2.2.1
    · simp
    ·
     cases wb:wholeD ((dss.getD c []).getD y zD)
     ·
      have ne:(csE a != csE b)=true:=by
       simp only[bne_iff_ne,ne_eq];intro e;rw[hcs e] at wb;cases wb
      rw[ne];simp;exact Bool.or_comm _ _
     · simp
   · simp
theorem beh_same {dss:List (List Dd)}(h:workB dss=true):colAll (fun i j=>isbE ((evsW dss dss.length).getD i zE) ((evsW dss dss.length).getD j zE)) (evsW dss dss.length).length (evsW dss dss.length).length=behL (evsW dss dss.length):=by
 have h12:=(events_law h).1;have c1:=web_colAll (q:=fun i j=>isbE ((evsW dss dss.length).getD i zE) ((evsW dss dss.length).getD j zE)) h12 _ (Nat.le_refl _);have b1:=beh_line h12;refine Web.ext c1.1 b1.1 (fun i j hi hj=>?_);rw[c1.2 i j hi,b1.2 i j hi];by_cases hij:i<j
 · rw[isb_beh h hij hj];simp[hij]
 · rw[behP_up (by omega)];simp[hij]
theorem plc_same {dss:List (List Dd)}(h:workB dss=true):colAll (fun i j=>isbE ((evsW dss dss.length).getD i zE) ((evsW dss dss.length).getD j zE)&&onpE ((evsW dss dss.length).getD i zE) ((evsW dss dss.length).getD j zE)) (evsW dss dss.length).length (evsW dss dss.length).length=plcL (evsW dss dss.length):=by
 have h12:=(events_law h).1;have c1:=web_colAll (q:=fun i j=>isbE ((evsW dss dss.length).getD i zE) ((evsW dss dss.length).getD j zE)&&onpE ((evsW dss dss.length).getD i zE) ((evsW dss dss.length).getD j zE)) h12 _ (Nat.le_refl _);have b1:=plc_line h12;refine Web.ext c1.1 b1.1 (fun i j hi hj=>?_);rw[c1.2 i j hi,b1.2 i j hi];by_cases hij:i<j
 · rw[isb_beh h hij hj];unfold onpE plcP;simp[hij,hj,bne]
 · rw[behP_up (by omega)];simp[hij]
theorem kep_same {dss:List (List Dd)}(h:workB dss=true):colAll (fun i j=>isbE ((evsW dss dss.length).getD i zE) ((evsW dss dss.length).getD j zE)&&keepE dss ((evsW dss dss.length).getD i zE) ((evsW dss dss.length).getD j zE)) (evsW dss dss.length).length (evsW dss dss.length).length=kepL dss (evsW dss dss.length):=by
 have h12:=(events_law h).1;have c1:=web_colAll (q:=fun i j=>isbE ((evsW dss dss.length).getD i zE) ((evsW dss dss.length).getD j zE)&&keepE dss ((evsW dss dss.length).getD i zE) ((evsW dss dss.length).getD j zE)) h12 _ (Nat.le_refl _);have b1:=kep_line (dss:=dss) h12;refine Web.ext c1.1 b1.1 (fun i j hi hj=>?_);rw[c1.2 i j hi,b1.2 i j hi];by_cases hij:i<j
 · rw[keep_kep h hij hj];simp[hij,hj]
 · rw[behP_up (by omega)];simp[hij]
end Go.Proofs.YtgikcfdckddgpaaGreat
