/- Gathered texts. -/
import Derived.Test.YtgikcfdckddgpabGreatMB
import Derived.Lib.Hide
set_option maxRecDepth 100000
set_option maxHeartbeats 8000000
namespace Go.Proofs.YtgikcfdckddgpabGreat
open Go.ChangeShapes Go.WideShapes Go.ChangeAt Go.RowKit
open Go.RowKit
def cLn (x:Int×Int):List Value:=[.int .i64 x.1,.int .i64 x.2]
theorem cLn_len (x:Int×Int):(cLn x).length=2:=rfl
theorem Tryz.infoLn:(Tryz.prog.info? 163).map (fun i=>(i.zero,i.size,i.bytes))=some (some (.agg #[.int .i64 0,.int .i64 0]),2,16):=by kernel_rfl
abbrev RdLn (w:World)(v:Value)(l:List (Int×Int)):Prop:=RdT cLn 2 w v l
abbrev AppLn (w:World)(base:Nat)(v:Value)(l:List (Int×Int)):Prop:=AppT cLn 163 2 w base v l
theorem atLn {w:World}{b o:Nat}{x y:Int}(h:AtT cLn w b o (x,y)):w.cell? ⟨b,o,none⟩=some (.int .i64 x)∧w.cell? ⟨b,o+1,none⟩=some (.int .i64 y):=⟨h 0 _ rfl,h 1 _ rfl⟩
theorem AppLn.rd {w:World}{base:Nat}{v:Value}{l:List (Int×Int)}(h:AppLn w base v l):RdLn w v l:=AppT.rd cLn_len h
theorem ln_get {l:List (Int×Int)}{i:Nat}(h:i<l.length):l[i]? = some (l.getD i (0,0)):=by
 rw[List.getD_eq_getElem?_getD,List.getElem?_eq_getElem h];rfl
abbrev lnO (x y:Int):Obj:= .cells #[.int .i64 x,.int .i64 y] 163
theorem cLn_one (x:Int×Int):∀u∈cLn x,u.oneCell'=true:=by
 intro u hu;simp only[cLn,List.mem_cons,List.not_mem_nil,or_false] at hu;rcases hu with rfl|rfl<;>rfl
theorem cLn_new (w:World)(n:Nat)(hn:w.heap.size=n)(x y:Int):∀j u,(cLn (x,y))[j]? = some u→(w.alloc (lnO x y)).cell? ((⟨n,0,none⟩:Addr).add j)=some u:=by
 subst hn;intro j u hj
 match j,hj with
 | 0,hj=>simp[cLn] at hj;subst hj;simp[Addr.add]
 | 1,hj=>simp[cLn] at hj;subst hj;simp[Addr.add]
def rdI (d:Dd)(i:Nat):Bool:=decide (d.1≠2)&&decide (i=0)
def vlI (d:Dd)(i:Nat):Int:=if rdI d i=true then 0 else d.2.2.1
theorem oneE_at {c k:Nat}{d:Dd}{z:Int}(hd:d.1=1∨d.1=2∨d.1=3∨d.1=4){i:Nat}(hi:i<numD d):(oneE c k d z)[i]? = some ((c:Int),(k:Int),rdI d i,d.2.1,vlI d i,z):=by
 unfold numD at hi;unfold oneE vlI rdI;rcases hd with h|h|h|h
 ·
  rw[if_neg (by omega),if_neg (by omega)] at hi;rw[if_neg (by omega),if_neg (by omega),if_neg (by omega)];obtain rfl:i=0:=by omega
  simp[h]
 ·
  rw[if_neg (by omega),if_neg (by omega)] at hi;rw[if_neg (by omega),if_neg (by omega),if_pos h];obtain rfl:i=0:=by omega
  simp[h]
 ·
  rw[if_neg (by omega),if_pos h] at hi;rw[if_neg (by omega),if_pos h];rcases (by omega:i=0∨i=1) with rfl|rfl
  · simp[h]
  · simp
 ·
  rw[if_pos h] at hi;omega
structure EvIs (dss:List (List Dd))(j c k i:Nat):Prop where
 hc:c<dss.length
 hk:k<(dss.getD c []).length
 hi:i<numD (dAt dss c k)
 hj:j=offN dss c k+i
theorem ev_dec {dss:List (List Dd)}(hb:workB dss=true){j:Nat}(h3:3≤j)(hj:j<(eventsB dss).length):∃c k i,EvIs dss j c k i:=by
 rw[eventsB,if_pos hb] at hj;obtain⟨c,k,i,h1,h2,h4,h5⟩:=es_dec dss h3 dss.length hj;exact⟨c,k,i,h1,h2,h4,h5⟩
theorem EvIs.at {dss:List (List Dd)}(hb:workB dss=true){j c k i:Nat}(h:EvIs dss j c k i):(eventsB dss).getD j zE=((c:Int),(k:Int),rdI (dAt dss c k) i,(dAt dss c k).2.1,vlI (dAt dss c k) i,clsD dss c k):=by
 have hd:=okD_kindE (okC_of hb h.hc k h.hk);rw[eventsB,if_pos hb,List.getD_eq_getElem?_getD,h.hj,es_at h.hc h.hk (oneE_at hd h.hi)];rfl
theorem EvIs.lt {dss:List (List Dd)}(hb:workB dss=true){j c k i:Nat}(h:EvIs dss j c k i):3≤j∧j<(eventsB dss).length:=by
 have hd:=okD_kindE (okC_of hb h.hc k h.hk);have h1:=es_at (n:=dss.length) h.hc h.hk (oneE_at (z:=clsD dss c k) (c:=c) (k:=k) hd h.hi);have h2:=off_three dss c k;rw[eventsB,if_pos hb,h.hj];exact⟨by omega,(List.getElem?_eq_some_iff.1 h1).1⟩
theorem EvIs.ord {dss:List (List Dd)}{j c k i j' c' k' i':Nat}(h:EvIs dss j c k i)(h':EvIs dss j' c' k' i'):j<j'↔c<c'∨(c=c'∧(k<k'∨(k=k'∧i<i'))):=by
 have e1:=h.hj;have e2:=h'.hj;have l1:=h.hi;have l2:=h'.hi;constructor
 ·
  intro hlt;by_cases a:c<c'
  · exact .inl a
  by_cases b:c'<c
  · have:=off_lt (k':=k) h'.hk (.inl b);omega
  obtain rfl:c=c':=by omega
  refine .inr ⟨rfl,?_⟩;by_cases a:k<k'
  · exact .inl a
  by_cases b:k'<k
  · have:=off_lt (c':=c) (k':=k) h'.hk (.inr ⟨rfl,b⟩);omega
  obtain rfl:k=k':=by omega
  exact .inr ⟨rfl,by omega⟩
 ·
  rintro (a|⟨rfl,a|⟨rfl,a⟩⟩)
  · have:=off_lt (k':=k') h.hk (.inl a);omega
  · have:=off_lt (c':=c) (k':=k') h.hk (.inr ⟨rfl,a⟩);omega
  · omega
theorem EvIs.one {dss:List (List Dd)}{j c k i c' k' i':Nat}(h:EvIs dss j c k i)(h':EvIs dss j c' k' i'):c=c'∧k=k'∧i=i':=by
 have a:=h.ord h';have b:=h'.ord h;by_cases hc:c=c'
 ·
  subst hc;by_cases hk:k=k'
  ·
   subst hk;exact⟨rfl,rfl,by have:=h.hj;have:=h'.hj;omega⟩
  ·
   by_cases hlt:k<k'
   · have:=a.2 (.inr ⟨rfl,.inl hlt⟩);omega
   · have:=b.2 (.inr ⟨rfl,.inl (by omega)⟩);omega
 ·
  by_cases hlt:c<c'
  · have:=a.2 (.inl hlt);omega
  · have:=b.2 (.inl (by omega));omega
theorem beg_ck {dss:List (List Dd)}(hb:workB dss=true){j:Nat}(hj:j<3):((eventsB dss).getD j zE).1=-1:=by
 obtain⟨t,ht⟩:=(evs_good (dss:=dss) (by simp only[workB,Bool.and_eq_true,decide_eq_true_eq] at hb;intro i hi;have:=List.all_eq_true.1 hb.1.1.1.2 _ (List.getElem_mem hi);rw[List.getD_eq_getElem?_getD,List.getElem?_eq_getElem hi];exact this) dss.length (Nat.le_refl _)).1;rw[eventsB,if_pos hb,ht,List.getD_eq_getElem?_getD,List.getElem?_append_left (by simp[evBeg];omega)];have:j=0∨j=1∨j=2:=by omega
 rcases this with rfl|rfl|rfl<;>rfl
theorem ow_cell {dss:List (List Dd)}{f:List Int}(h:sourceB dss f=true):(owB dss f).length=(eventsB dss).length∧(fwB dss f).length=(eventsB dss).length ∧
  ∀i k:Nat,i<(eventsB dss).length→k<(eventsB dss).length→inSetB ((owB dss f).getD i 0) (k:Int)=(inSetB ((fwB dss f).getD i 0) (k:Int)&&(decide (i<3)||(((eventsB dss).getD i zE).1 != ((eventsB dss).getD k zE).1))):=by
 have hbs:=h;rw[sourceB,Bool.and_eq_true] at hbs;obtain⟨hb,hs⟩:=hbs;have hx:=eventsB_12 dss;obtain⟨sl,su⟩:=src_use hx hs;have wf:=fw_line (f:=f) hx (idxB rdE (eventsB dss)).length (fun i hi=>rd_in hx hi) (fun i hi=>(su i hi).1);have wo:=web_offAll (p:=owP (eventsB dss)) (st:=fwL (eventsB dss) f) wf.1 (eventsB dss).length (Nat.le_refl _);have eo:owB dss f=owL (eventsB dss) f:=by rw[owB,if_pos h]
 have ef:fwB dss f=fwL (eventsB dss) f:=by rw[fwB,if_pos h]
 refine⟨by rw[eo];exact wo.1.2.1,by rw[ef];exact wf.1.2.1,fun i k hi hk=>?_⟩;rw[eo,ef];have h1:=wo.2 i k hi
 have e1:line (owL (eventsB dss) f) i k=(line (fwL (eventsB dss) f) i k&&!owP (eventsB dss) i k):=by
  unfold owL;rw[h1];simp[hi,hk]
 unfold line at e1;rw[e1]
 congr 1
 unfold owP;by_cases h3:i<3
 · simp[h3,show ¬ 3≤i by omega]
 ·
  by_cases k3:k<3
  ·
   have a:=beg_ck hb k3;obtain⟨c,q,m,E⟩:=ev_dec hb (show 3≤i by omega) hi;have b:=E.at hb;rw[a,b];have:((c:Int) != -1)=true:=by simp
   simp[h3,this,show ¬ 3≤k by omega]
  · simp[h3,show 3≤i by omega,show 3≤k by omega,bne]
theorem owB_len (dss:List (List Dd))(f:List Int):(owB dss f).length≤12:=by
 cases h:sourceB dss f with
 |true=>rw[(ow_cell h).1];exact eventsB_12 dss
 |false=>rw[owB,h];simp
def linI (i:Nat)(l:List Int):List (Int×Int):=l.map (fun j=>((i:Int),j))
def linK (zs:List Int):Nat→List (Int×Int)
 | 0=>[]
 |k+1=>linK zs k++linI k (mem (zs.getD k 0) 12)
def linL (zs:List Int):List (Int×Int):=linK zs zs.length
def othP (es:List Ev)(x:Int×Int):Bool:=(es.getD x.1.toNat zE).1 != (es.getD x.2.toNat zE).1
def othL (es:List Ev)(zs:List Int):List (Int×Int):=(linL zs).filter (othP es)
def drwK (n:Nat)(l:List (Int×Int))(k:Nat):List Int:=fwK n (l.map (·.2)) (l.map (·.1)) k
theorem lin_iff (zs:List Int)(x:Int×Int):∀k:Nat,x∈linK zs k↔∃a j:Nat,a<k∧j<12∧x=((a:Int),(j:Int))∧line zs a j=true
 | 0=>by simp[linK]
 |k+1=>by
  rw[linK,List.mem_append,lin_iff zs x k,linI,List.mem_map];constructor
  ·
   rintro (⟨a,j,ha,hj,hx,hl⟩|⟨j,hj,rfl⟩)
   · exact⟨a,j,by omega,hj,hx,hl⟩
   ·
    obtain⟨m,hm,rfl,hi⟩:=(mem_iff _ _ _).1 hj;exact⟨k,m,by omega,hm,rfl,hi⟩
  ·
   rintro⟨a,j,ha,hj,rfl,hl⟩;by_cases e:a=k
   ·
    subst e;exact .inr ⟨j,(mem_iff _ _ _).2 ⟨j,hj,rfl,hl⟩,rfl⟩
   · exact .inl ⟨a,j,by omega,hj,rfl,hl⟩
theorem lin_len (zs:List Int):∀k:Nat,(linK zs k).length≤k*12
 | 0=>by simp[linK]
 |k+1=>by
  have:=lin_len zs k;have h2:=mem_len (zs.getD k 0) 12;rw[linK,List.length_append,linI,List.length_map,Nat.add_mul];omega
theorem pr_get (l:List (Int×Int))(i:Nat)(hi:i<l.length):((l.map (·.1)).getD i 0,(l.map (·.2)).getD i 0)=l[i]:=by
 rw[List.getD_eq_getElem?_getD,List.getD_eq_getElem?_getD,List.getElem?_map,List.getElem?_map,List.getElem?_eq_getElem hi];rfl
theorem lin_in {n:Nat}{zs:List Int}(hz:Web n zs){x:Int×Int}(h:x∈linL zs):∃a j:Nat,x=((a:Int),(j:Int))∧a<n∧j<n∧line zs a j=true:=by
 unfold linL at h;rw[hz.2.1] at h;obtain⟨a,j,ha,-,rfl,hl⟩:=(lin_iff zs x n).1 h;exact⟨a,j,rfl,ha,hz.lt ha hl,hl⟩
theorem drw_web {n:Nat}{zs:List Int}(hz:Web n zs){l:List (Int×Int)}(hl:∀x∈l,x∈linL zs):∀k:Nat,k≤l.length →
  Web n (drwK n l k)∧∀a j:Nat,a<n→(line (drwK n l k) a j=true↔((a:Int),(j:Int))∈l.take k):=by
 intro k hk
 have hb:∀i,i<k→∃a j:Nat,(l.map (·.1)).getD i 0=(a:Int)∧(l.map (·.2)).getD i 0=(j:Int)∧a<n∧j<n:=by
  intro i hi;have e:=pr_get l i (by omega);obtain⟨a,j,hx,ha,hj,-⟩:=lin_in hz (hl _ (List.getElem_mem (show i<l.length by omega)));rw[hx] at e;exact⟨a,j,congrArg Prod.fst e,congrArg Prod.snd e,ha,hj⟩
 have F:=fw_line (n:=n) (rs:=l.map (·.2)) (f:=l.map (·.1)) hz.1 k
  (fun i hi=>by obtain⟨a,j,h1,h2,h3,h4⟩:=hb i hi;rw[h2];omega)
  (fun i hi=>by obtain⟨a,j,h1,h2,h3,h4⟩:=hb i hi;rw[h1];omega)
 refine⟨F.1,fun a j ha=>?_⟩;rw[drwK,F.2 a j ha];constructor
 ·
  rintro⟨i,hi,h1,h2⟩;have e:=pr_get l i (by omega);rw[h1,h2] at e;rw[e];exact List.mem_take_iff_getElem.2 ⟨i,by omega,rfl⟩
 ·
  intro h;obtain⟨i,hi,e⟩:=List.mem_take_iff_getElem.1 h;have e2:=pr_get l i (by omega);rw[e] at e2;exact⟨i,by omega,congrArg Prod.fst e2,congrArg Prod.snd e2⟩
theorem oth_sub (es:List Ev)(zs:List Int):∀x∈othL es zs,x∈linL zs:=fun _ h=>(List.mem_filter.1 h).1
theorem fo_same {dss:List (List Dd)}{f:List Int}(h:sourceB dss f=true):drwK (eventsB dss).length (othL (eventsB dss) (fwB dss f)) (othL (eventsB dss) (fwB dss f)).length=owB dss f:=by
 have hbs:=h;rw[sourceB,Bool.and_eq_true] at hbs;obtain⟨hb,hs⟩:=hbs;have hx:=eventsB_12 dss;obtain⟨sl,su⟩:=src_use hx hs;have wf:=fw_line (f:=f) hx (idxB rdE (eventsB dss)).length (fun i hi=>rd_in hx hi) (fun i hi=>(su i hi).1);have wo:=web_offAll (p:=owP (eventsB dss)) (st:=fwL (eventsB dss) f) wf.1 (eventsB dss).length (Nat.le_refl _);have eo:owB dss f=owL (eventsB dss) f:=by rw[owB,if_pos h]
 have ef:fwB dss f=fwL (eventsB dss) f:=by rw[fwB,if_pos h]
 have OC:=(ow_cell h).2.2;have WF:Web (eventsB dss).length (fwB dss f):=by rw[ef];exact wf.1
 have WO:Web (eventsB dss).length (owB dss f):=by rw[eo];exact wo.1
 have WD:=drw_web WF (oth_sub (eventsB dss) (fwB dss f)) _ (Nat.le_refl _);refine Web.ext WD.1 WO (fun i j hi hj=>?_);rw[Bool.eq_iff_iff,WD.2 i j hi,List.take_length];unfold line;rw[OC i j hi hj,othL,List.mem_filter];unfold linL;rw[WF.2.1,lin_iff]
 have e1:(∃a m:Nat,a<(eventsB dss).length∧m<12∧((i:Int),(j:Int))=((a:Int),(m:Int))∧line (fwB dss f) a m=true)↔inSetB ((fwB dss f).getD i 0) (j:Int)=true:=by
  constructor
  ·
   rintro⟨a,m,_,_,e,hl⟩;have e1:=congrArg Prod.fst e;have e2:=congrArg Prod.snd e;simp only at e1 e2;obtain rfl:i=a:=by omega
   obtain rfl:j=m:=by omega
   exact hl
  ·
   intro hl;exact⟨i,j,hi,by omega,rfl,hl⟩
 rw[e1,Bool.and_eq_true];refine and_congr_right (fun hl=>?_)
 have hr:((eventsB dss).getD j zE).2.2.1=true:=by
  rw[ef] at hl;obtain⟨k,hk,-,h2⟩:=(wf.2 i j hi).1 hl;have:=(rd_at hx hk).2;rw[h2] at this;exact this
 have j3:3≤j:=by
  by_cases h3:j<3
  · rw[beg_wr hb h3] at hr;cases hr
  · omega
 unfold othP;dsimp only;rw[Int.toNat_natCast,Int.toNat_natCast];by_cases i3:i<3
 ·
  have a:=beg_ck hb i3;obtain⟨c,q,m,E⟩:=ev_dec hb j3 hj;have b:=E.at hb;rw[a,b];simp[i3]
 · simp[i3]
theorem fo_none {dss:List (List Dd)}{f:List Int}(h:sourceB dss f=false):fwB dss f=[]∧owB dss f=[]:=by
 rw[fwB,owB,h];exact⟨rfl,rfl⟩
end Go.Proofs.YtgikcfdckddgpabGreat
