/- Gathered texts. -/
import Derived.Test.YtgikcfdckddgpaaGreatMB
import Derived.Maps.AppendAt
import Derived.Laws.OwnMore
import Derived.OwnWalk
import Derived.Deep.RegionHeld3
import Derived.Lib.Hide
import Derived.RangeFuncBox
import Derived.RangeFuncCalls
import Derived.RangeFuncLeaves
set_option maxRecDepth 100000
set_option maxHeartbeats 8000000
namespace Go.Proofs.YtgikcfdckddgpaaGreat
open Go
open Go.ChangeShapes Go.WideShapes Go.ChangeAt Go.RowKit
open Go.RowKit
section
section
variable {α:Type} {cf:α→List Value} {n:Nat}
def AtT (cf:α→List Value)(w:World)(b o:Nat)(x:α):Prop:=∀m u,(cf x)[m]? = some u→w.cell? ⟨b,o+m,none⟩=some u
def RdT (cf:α→List Value)(n:Nat)(w:World)(v:Value)(xs:List α):Prop:=
 ∃(a:Option Addr) (cap:Nat),v = .slice a xs.length (xs.length+cap) ∧
  (xs=[]∨∃b off,a=some ⟨b,off,none⟩∧b<w.heap.size∧∀i x,xs[i]? = some x→AtT cf w b (off+i*n) x)
theorem AtT.same {w w':World}{b o:Nat}{x:α}(h:AtT cf w b o x)(hh:w'.heap[b]? = w.heap[b]?):AtT cf w' b o x:=
 fun m u hm=>by
  have:=h m u hm;simp only[World.cell?,hh] at this ⊢;exact this
theorem AtT.keep {w w':World}{b o:Nat}{x:α}(h:AtT cf w b o x)(hb:b<w.heap.size)(k:Keep w w'):AtT cf w' b o x:=h.same (Below.block k b hb)
theorem RdT.keep {w w':World}{v:Value}{xs:List α}(h:RdT cf n w v xs)(k:Keep w w'):RdT cf n w' v xs:=by
 obtain⟨a,cap,hv,h⟩:=h;refine⟨a,cap,hv,?_⟩;rcases h with h|⟨b,off,ha,hb,hc⟩
 · exact .inl h
 · exact .inr ⟨b,off,ha,Nat.lt_of_lt_of_le hb k.size,fun i x hx=>(hc i x hx).keep hb k⟩
def AppT (cf:α→List Value)(e:TypeId)(n:Nat)(w:World)(base:Nat)(v:Value)(xs:List α):Prop:=w.ownsRow base e n v xs.length (xs.flatMap cf)
variable {e:TypeId}
theorem AppT.keep {w w':World}{base:Nat}{v:Value}{xs:List α}(h:AppT cf e n w base v xs)(k:Keep w w'):AppT cf e n w' base v xs:=
 World.ownsRow.kept h k.grownBy (by cases v.ownBlock<;>simp)
theorem AppT.kept {w w':World}{base:Nat}{v:Value}{xs:List α}{row:Option Nat}(h:AppT cf e n w base v xs)(hg:w.grownBy w' row)(hne:v.ownBlock=none∨v.ownBlock≠row):AppT cf e n w' base v xs:=
 World.ownsRow.kept h hg hne
theorem AppT.lt {w:World}{base:Nat}{v:Value}{xs:List α}(h:AppT cf e n w base v xs):∀k,v.ownBlock=some k→base≤k∧k<w.heap.size:=World.ownsRow.lt h
theorem AppT.ge {w:World}{base:Nat}{v:Value}{xs:List α}(h:AppT cf e n w base v xs):∀k,v.ownBlock=some k→base≤k:=fun k hk=>(h.lt k hk).1
theorem appT_hit {w:World}{base:Nat}{v:Value}{xs:List α}{x:α}(h:w.ownsRow base e n v (xs.length+1) (xs.flatMap cf++cf x)):AppT cf e n w base v (xs++[x]):=by
 unfold AppT;rw[List.flatMap_append];simpa using h
theorem appT_empty (w:World):AppT cf e n (w.alloc (.cells #[] e)) w.heap.size (.slice (some ⟨w.heap.size,0,none⟩) 0 0) []:=
 World.ownsRow_lit w #[] 0 (Nat.le_refl _) (by decide) (by simp)
theorem flat_at (hn:∀x,(cf x).length=n):∀(xs:List α) (i:Nat) (x:α) (m:Nat),xs[i]? = some x→m<n→(xs.flatMap cf)[i*n+m]? = (cf x)[m]?
 | [],i,x,m,h,_=>by simp at h
 |y::r,0,x,m,h,hm=>by
  simp at h;subst h;rw[List.flatMap_cons,List.getElem?_append_left (by rw[hn];omega)];simp
 |y::r,i+1,x,m,h,hm=>by
  have ih:=flat_at hn r i x m (by simpa using h) hm;have e1:(i+1)*n+m=n+(i*n+m):=by rw[Nat.add_mul];omega
  rw[List.flatMap_cons,List.getElem?_append_right (by rw[hn];omega),hn,e1,Nat.add_sub_cancel_left,ih]
theorem AppT.shape {w:World}{base:Nat}{v:Value}{xs:List α}(h:AppT cf e n w base v xs):∃a c,v = .slice a xs.length c:=by
 rcases h.2 with ⟨rfl,hz⟩|⟨g,cap,cur,rfl,_⟩
 · exact⟨none,0,by rw[hz]⟩
 · exact⟨_,_,rfl⟩
theorem AppT.rd (hn:∀x,(cf x).length=n){w:World}{base:Nat}{v:Value}{xs:List α}(h:AppT cf e n w base v xs):RdT cf n w v xs:=by
 have h2:=h;have hlt:=h.lt;rcases h.2 with ⟨rfl,hz⟩|⟨g,cap,cur,rfl,hb,hg,hcap,_,hs,_⟩
 ·
  have:xs=[]:=List.eq_nil_of_length_eq_zero hz;subst this;exact⟨none,0,rfl,.inl rfl⟩
 ·
  obtain⟨x,rfl⟩:∃x,cap=xs.length+x:=⟨cap-xs.length,by omega⟩;refine⟨_,x,rfl,.inr ⟨g,0,rfl,(hlt g rfl).2,fun i y hy m u hm=>?_⟩⟩;have hi:i<xs.length:=(List.getElem?_eq_some_iff.1 hy).1;have hmn:m<n:=by have:=(List.getElem?_eq_some_iff.1 hm).1;rw[hn] at this;exact this
  have hb2:i*n+m<xs.length*n:=by
   have h3:(i+1)*n≤xs.length*n:=Nat.mul_le_mul_right n hi;rw[Nat.add_mul] at h3;omega
  rw[Nat.zero_add,World.ownsRow.cellAt h2 (i*n+m) hb2,flat_at hn xs i y m hy hmn];exact hm
end
end
def cE (e:Ev):List Value:=[.int .i64 e.1,.int .i64 e.2.1,.bool e.2.2.1,.int .i64 e.2.2.2.1,.int .i64 e.2.2.2.2.1,.int .i64 e.2.2.2.2.2]
theorem cE_len (e:Ev):(cE e).length=6:=rfl
theorem Tryz.infoE:(Tryz.prog.info? 40).map (fun i=>(i.zero,i.size,i.bytes))=some (some (.agg #[.int .i64 0,.int .i64 0,.bool false,.int .i64 0,.int .i64 0,.int .i64 0]),6,48):=by kernel_rfl
abbrev RdE (w:World)(v:Value)(es:List Ev):Prop:=RdT cE 6 w v es
abbrev AppE (w:World)(base:Nat)(v:Value)(es:List Ev):Prop:=AppT cE 40 6 w base v es
theorem atE {w:World}{b o:Nat}{x0 x1:Int}{r:Bool}{x3 x4 x5:Int}(h:AtT cE w b o (x0,x1,r,x3,x4,x5)):
  w.cell? ⟨b,o,none⟩=some (.int .i64 x0)∧w.cell? ⟨b,o+1,none⟩=some (.int .i64 x1)∧w.cell? ⟨b,o+2,none⟩=some (.bool r)∧w.cell? ⟨b,o+3,none⟩=some (.int .i64 x3)∧w.cell? ⟨b,o+4,none⟩=some (.int .i64 x4)∧w.cell? ⟨b,o+5,none⟩=some (.int .i64 x5):=
 ⟨h 0 _ rfl,h 1 _ rfl,h 2 _ rfl,h 3 _ rfl,h 4 _ rfl,h 5 _ rfl⟩
theorem AppE.rd {w:World}{base:Nat}{v:Value}{es:List Ev}(h:AppE w base v es):RdE w v es:=AppT.rd cE_len h
theorem evs_get {es:List Ev}{i:Nat}(h:i<es.length):es[i]? = some (es.getD i zE):=by
 rw[List.getD_eq_getElem?_getD,List.getElem?_eq_getElem h];rfl
abbrev eA (i q:Int)(r:Bool)(pl vl c:Int):Value:= .agg #[.int .i64 i,.int .i64 q,.bool r,.int .i64 pl,.int .i64 vl,.int .i64 c]
structure LP (w0 wr:World)(x:Value)(es:List Ev)(P:List (Nat×Obj)):Prop where
 app:AppE wr w0.heap.size x es
 keep:Keep w0 wr
 held:∀n o,(n,o)∈P→x.ownBlock≠some n∧wr.heap[n]? = some o
theorem LP.more {w0 wr wr':World}{x:Value}{es:List Ev}{P:List (Nat×Obj)}(h:LP w0 wr x es P)(k:Keep wr wr'):LP w0 wr' x es P:=
 ⟨h.app.keep k,h.keep.trans k,fun n o hn=>⟨(h.held n o hn).1,(Below.block k n (Array.getElem?_eq_some_iff.1 (h.held n o hn).2).1).trans (h.held n o hn).2⟩⟩
theorem LP.add {w0 wr:World}{x:Value}{es:List Ev}{P:List (Nat×Obj)}(h:LP w0 wr x es P)(n:Nat)(o:Obj)(hx:x.ownBlock≠some n)(ho:wr.heap[n]? = some o):LP w0 wr x es ((n,o)::P):=
 ⟨h.app,h.keep,fun m q hm=>by
  rcases List.mem_cons.1 hm with e|e
  · injection e with e1 e2;subst e1 e2;exact⟨hx,ho⟩
  · exact h.held m q e⟩
theorem LP.new {w0 wr:World}{x:Value}{es:List Ev}{P:List (Nat×Obj)}(h:LP w0 wr x es P)(o:Obj):LP w0 (wr.alloc o) x es ((wr.heap.size,o)::P):=
 (h.more ((Keep.refl wr).alloc o)).add _ _ (fun e=>by have:=(h.app.lt _ e).2;omega) (heap_alloc_new wr o)
theorem LP.later {w0 wr wr':World}{x:Value}{es:List Ev}{P:List (Nat×Obj)}(h:LP w0 wr x es P)(k:Keep wr wr'){B:Nat}{o:Obj}(hB:wr.heap.size≤B)(ho:wr'.heap[B]? = some o):LP w0 wr' x es ((B,o)::P):=
 (h.more k).add _ _ (fun e=>by have:=(h.app.lt _ e).2;omega) ho
theorem LP.less {w0 wr:World}{x:Value}{es:List Ev}{P Q:List (Nat×Obj)}(h:LP w0 wr x es P)(hs:∀y,y∈Q→y∈P):LP w0 wr x es Q:=
 ⟨h.app,h.keep,fun n o hn=>h.held n o (hs _ hn)⟩
theorem LP.hit {w0 wr w':World}{x v':Value}{es:List Ev}{P:List (Nat×Obj)}(h:LP w0 wr x es P)(e:Ev)
  (ho:w'.ownsRow w0.heap.size 40 6 v' (es.length+1) (es.flatMap cE++cE e)) (hg:wr.grownBy w' x.ownBlock) (hb:v'.ownBlock=x.ownBlock∨v'.ownBlock=some wr.heap.size):LP w0 w' v' (es++[e]) P:=by
 refine⟨appT_hit ho,h.keep.grown hg h.app.ge,fun n o hn=>?_⟩;obtain⟨h1,h2⟩:=h.held n o hn;have hlt:=(Array.getElem?_eq_some_iff.1 h2).1;refine⟨fun e=>?_,(hg.block n hlt (fun e=>h1 e.symm)).trans h2⟩;rcases hb with hb|hb
 · exact h1 (hb ▸ e)
 · rw[hb] at e;have:=Option.some.inj e;omega
theorem LP.lt {w0 wr:World}{x:Value}{es:List Ev}{P:List (Nat×Obj)}(h:LP w0 wr x es P){n:Nat}{o:Obj}(hn:(n,o)∈P):n<wr.heap.size:=(Array.getElem?_eq_some_iff.1 (h.held n o hn).2).1
theorem LP.cell {w0 wr:World}{x:Value}{es:List Ev}{P:List (Nat×Obj)}(h:LP w0 wr x es P){n:Nat}{cs:Array Value}{t:TypeId}(hn:(n,.cells cs t)∈P)(i:Nat):wr.cell? ⟨n,i,none⟩=cs[i]?:=
 cell_of_row wr n i cs t (0,0) (h.held n _ hn).2
theorem app_base {w:World}{base base':Nat}{v:Value}{es:List Ev}(h:AppE w base v es)(hb:base'≤base):AppE w base' v es:=by
 refine⟨h.1,?_⟩;rcases h.2 with h|⟨g,cap,cur,hv,hg,rest⟩
 · exact .inl h
 · exact .inr ⟨g,cap,cur,hv,Nat.le_trans hb hg,rest⟩
abbrev eO (i k:Int)(r:Bool)(p v c:Int):Obj:= .cells #[.int .i64 i,.int .i64 k,.bool r,.int .i64 p,.int .i64 v,.int .i64 c] 40
theorem cE_oneP (e:Ev):∀u∈cE e,u.oneCell'=true:=by
 intro u hu;simp only[cE,List.mem_cons,List.not_mem_nil,or_false] at hu;rcases hu with rfl|rfl|rfl|rfl|rfl|rfl<;>rfl
theorem cE_newP (w:World)(n:Nat)(hn:w.heap.size=n)(i q:Int)(r:Bool)(pl vl c:Int):∀j u,(cE (i,q,r,pl,vl,c))[j]? = some u→(w.alloc (eO i q r pl vl c)).cell? ((⟨n,0,none⟩:Addr).add j)=some u:=by
 subst hn;intro j u hj
 match j,hj with
 | 0,hj=>simp[cE] at hj;subst hj;simp[Addr.add]
 | 1,hj=>simp[cE] at hj;subst hj;simp[Addr.add]
 | 2,hj=>simp[cE] at hj;subst hj;simp[Addr.add]
 | 3,hj=>simp[cE] at hj;subst hj;simp[Addr.add]
 | 4,hj=>simp[cE] at hj;subst hj;simp[Addr.add]
 | 5,hj=>simp[cE] at hj;subst hj;simp[Addr.add]
def goB (ds:List Dd)(k:Nat):Bool:=decide (0<k)&&((ds.getD k zD).2.2.2 != 0)&&((ds.getD k zD).2.2.2==(ds.getD (k-1) zD).2.2.2)
def lastC (out:List Ev):Int:=csE (out.getD (out.length-1) zE)
def ncE (out:List Ev)(go:Bool):Int:=if go=true then lastC out else (out.length:Int)
def clkP (i:Nat)(ds:List Dd)(out:List Ev):Nat→List Ev
 | 0=>out
 |k+1=>clkP i ds out k++oneE i k (ds.getD k zD) (ncE (clkP i ds out k) (goB ds k))
def evsP (dss:List (List Dd)):Nat→List Ev
 | 0=>evBeg
 |i+1=>clkP i (dss.getD i []) (evsP dss i) (dss.getD i []).length
def Tog (ds:List Dd):Prop:=∀k j,k<ds.length→j<k→(ds.getD k zD).2.2.2≠0→(ds.getD j zD).2.2.2=(ds.getD k zD).2.2.2→(ds.getD (k-1) zD).2.2.2=(ds.getD k zD).2.2.2
theorem grpK_own {i:Nat}{own:List Int}{ds:List Dd}(hl:own.length=10):∀(k:Nat) (o:List Int),grpK i own ds k=some o→(∀j,j<k→okD (ds.getD j zD)=true) →
  ∀j,j<k→(ds.getD j zD).2.2.2≠0→o.getD (ds.getD j zD).2.2.2.toNat 0=(i:Int)+1
 | 0,o,h,_,j,hj,_=>by omega
 |k+1,o',h,hok,j,hj,h0=>by
  rw[grpK] at h
  cases hq:grpK i own ds k with
  |none=>rw[hq] at h;cases h
  |some o=>
   rw[hq] at h;have ih:=grpK_own hl k o hq (fun j hj=>hok j (by omega));have hol:=grpK_len hq;simp only at h;have okj:=okD_restE (hok j hj);split at h
   ·
    rename_i hz;simp only[Option.some.injEq] at h;subst h;by_cases e:j=k
    · subst e;exact absurd hz h0
    · exact ih j (by omega) h0
   ·
    rename_i hz;split at h
    · cases h
    ·
     simp only[Option.some.injEq] at h;subst h;have okk:=okD_restE (hok k (by omega));rw[getD_setE o _ _ _ (by omega)];by_cases e:(ds.getD k zD).2.2.2.toNat=(ds.getD j zD).2.2.2.toNat
     · rw[if_pos e]
     ·
      rw[if_neg e];by_cases e2:j=k
      · subst e2;exact absurd rfl e
      · exact ih j (by omega) h0
theorem grpK_tog {i:Nat}{own:List Int}{ds:List Dd}(hl:own.length=10){o:List Int}(h:grpK i own ds ds.length=some o)(hok:∀j,j<ds.length→okD (ds.getD j zD)=true):Tog ds:=by
 intro k j hk hj h0 he
 have step:∃o',grpK i own ds (k+1)=some o':=by
  cases hq:grpK i own ds (k+1) with
  |none=>rw[grpK_none hq ds.length (by omega)] at h;cases h
  |some o'=>exact⟨o',rfl⟩
 obtain⟨o',ho'⟩:=step;rw[grpK] at ho'
 cases hq:grpK i own ds k with
 |none=>rw[hq] at ho';cases ho'
 |some o1=>
  rw[hq] at ho';have hown:=grpK_own hl k o1 hq (fun j hj=>hok j (by omega)) j hj (by rw[he];exact h0);rw[he] at hown;simp only at ho';rw[if_neg h0] at ho';split at ho'
  · cases ho'
  ·
   rename_i hn;apply Classical.byContradiction;intro hc;exact hn ⟨by rw[hown];omega,.inr (.inr hc)⟩
theorem work_tog {dss:List (List Dd)}(hb:workB dss=true):∀i,i<dss.length→Tog (dss.getD i []):=by
 intro i hi;simp only[workB,Bool.and_eq_true,decide_eq_true_eq] at hb;obtain⟨⟨⟨⟨_,h2⟩,_⟩,_⟩,hg⟩:=hb;have hok:=all_get [] h2 i hi;simp only[okL,Bool.and_eq_true,decide_eq_true_eq] at hok
 have hs:∀n,n≤dss.length→∃o,grpW dss n=some o:=by
  intro n hn
  cases hq:grpW dss n with
  |none=>rw[grpB,grpW_none hq dss.length hn] at hg;cases hg
  |some o=>exact⟨o,rfl⟩
 obtain⟨o,ho⟩:=hs i (by omega);obtain⟨o',ho'⟩:=hs (i+1) (by omega);rw[grpW,ho] at ho';exact grpK_tog (grpW_len ho) ho' (fun j hj=>all_get zD hok.1 j hj)
theorem last_snoc (out t:List Ev)(e:Ev):lastC (out++(t++[e]))=csE e:=by
 unfold lastC;rw[←List.append_assoc,List.length_append,List.getD_eq_getElem?_getD];simp
theorem clkP_same {i:Nat}{ds:List Dd}{out:List Ev}(ht:Tog ds)(hok:∀j,j<ds.length→okD (ds.getD j zD)=true)(ho:1≤out.length):
  ∀k:Nat,k≤ds.length→clkP i ds out k=(clkE i ds out k).1∧(clkE i ds out k).2.length=10∧1≤(clkE i ds out k).1.length ∧
   (∀g:Nat,0<g→g<10→(∀j,j<k→(ds.getD j zD).2.2.2≠(g:Int))→(clkE i ds out k).2.getD g 0=0) ∧
   (∀j,j<k→(ds.getD j zD).2.2.2≠0→(clkE i ds out k).2.getD (ds.getD j zD).2.2.2.toNat 0≠0) ∧
   (0<k→(ds.getD (k-1) zD).2.2.2≠0→(clkE i ds out k).2.getD (ds.getD (k-1) zD).2.2.2.toNat 0=lastC (clkE i ds out k).1)
 | 0,_=>⟨rfl,by simp[clkE],ho,fun g _ hg _=>by simp only[clkE];rw[List.getD_eq_getElem?_getD,List.getElem?_replicate,if_pos hg];rfl,fun j hj=>by omega,fun h=>by omega⟩
 |k+1,hk=>by
  obtain⟨h1,h2,h3,h4,h5,h6⟩:=clkP_same ht hok ho k (by omega);have hd:=hok k (by omega);obtain⟨r0,r1,r2,r3,r4⟩:=okD_restE hd;have hkd:=okD_kindE hd;rw[clkP,clkE,h1,Nat.add_sub_cancel];generalize hS:clkE i ds out k=S at h2 h3 h4 h5 h6;obtain⟨L,f⟩:=S;simp only at h2 h3 h4 h5 h6;generalize hdd:ds.getD k zD=d at hd r0 r1 r2 r3 r4 hkd;have hg:goB ds k=(decide (0<k)&&(d.2.2.2 != 0)&&(d.2.2.2==(ds.getD (k-1) zD).2.2.2)):=by rw[goB,hdd]
  have old5:∀j,j<k→(ds.getD j zD).2.2.2≠0→(ds.getD j zD).2.2.2.toNat<10:=fun j hj _=>by
   have:=okD_restE (hok j (by omega));omega
  by_cases h4k:d.1=4
  ·
   have g0:d.2.2.2=0:=r4 (by omega);have e1:oneE i k d (ncE L (goB ds k))=[]:=by unfold oneE;rw[if_pos h4k]
   rw[stepE,if_pos h4k,e1,List.append_nil];refine⟨rfl,h2,h3,fun g hg0 hg10 hn=>h4 g hg0 hg10 (fun j hj=>hn j (by omega)),fun j hj hne=>?_,fun _ hne=>absurd g0 hne⟩;by_cases e:j=k
   · subst e;rw[hdd] at hne;exact absurd g0 hne
   · exact h5 j (by omega) hne
  ·
   rw[stepE,if_neg h4k];by_cases g0:d.2.2.2=0
   ·
    have e1:ncE L (goB ds k)=clsE d.2.2.2 L.length f:=by
     rw[hg,g0];simp[ncE,clsE]
    have e2:fstE d.2.2.2 L.length f=f:=by unfold fstE;rw[if_neg (by rw[g0];omega)]
    rw[e1];simp only;rw[e2];refine⟨by trivial,h2,by rw[List.length_append];omega,fun g hg0 hg10 hn=>h4 g hg0 hg10 (fun j hj=>hn j (by omega)),fun j hj hne=>?_,fun _ hne=>absurd g0 hne⟩;by_cases e:j=k
    · subst e;rw[hdd] at hne;exact absurd g0 hne
    · exact h5 j (by omega) hne
   ·
    have gp:(0:Int)<d.2.2.2:=by omega
    have k2:d.1=1∨d.1=2:=by
     apply Classical.byContradiction;intro hn;exact g0 (r4 (by omega))
    have one:∀c,∃e,oneE i k d c=[e]∧csE e=c:=by
     intro c;unfold oneE;rcases k2 with e|e
     · exact⟨_,by rw[if_neg h4k,if_neg (by omega),if_neg (by omega)],rfl⟩
     · exact⟨_,by rw[if_neg h4k,if_neg (by omega),if_pos e],rfl⟩
    have fin:∀c,lastC (L++oneE i k d c)=c:=fun c=>by
     obtain⟨e,he,hc⟩:=one c;rw[he,←hc];exact last_snoc L [] e
    by_cases hgo:0<k∧(ds.getD (k-1) zD).2.2.2=d.2.2.2
    ·
     obtain⟨k0,hgo⟩:=hgo;have e0:goB ds k=true:=by rw[hg,hgo];simp[k0,g0]
     have f0:f.getD d.2.2.2.toNat 0≠0:=by have:=h5 (k-1) (by omega) (by rw[hgo];exact g0);rw[hgo] at this;exact this
     have f1:f.getD d.2.2.2.toNat 0=lastC L:=by have:=h6 k0 (by rw[hgo];exact g0);rw[hgo] at this;exact this
     have e2:fstE d.2.2.2 L.length f=f:=by unfold fstE;rw[if_neg (fun h=>f0 h.2)]
     have e1:ncE L (goB ds k)=clsE d.2.2.2 L.length f:=by
      rw[e0];unfold ncE clsE;rw[if_pos rfl,if_pos gp,e2,f1]
     have e3:clsE d.2.2.2 L.length f=f.getD d.2.2.2.toNat 0:=by unfold clsE;rw[if_pos gp,e2]
     rw[e1];simp only;rw[e2];refine⟨by trivial,h2,by rw[List.length_append];omega,fun g hg0 hg10 hn=>h4 g hg0 hg10 (fun j hj=>hn j (by omega)),fun j hj hne=>?_,fun _ _=>?_⟩
     ·
      by_cases e:j=k
      · subst e;rw[hdd];exact f0
      · exact h5 j (by omega) hne
     · rw[fin,e3]
    ·
     have none:∀j,j<k→(ds.getD j zD).2.2.2≠d.2.2.2:=by
      intro j hj he;refine hgo ⟨by omega,?_⟩;have:=ht k j (by omega) hj (by rw[hdd];exact g0) (by rw[hdd];exact he);rw[hdd] at this;exact this
     obtain⟨g,hgg⟩:=Int.eq_ofNat_of_zero_le r2;have g10:g<10:=by omega
     have f0:f.getD d.2.2.2.toNat 0=0:=by
      rw[hgg,Int.toNat_natCast];exact h4 g (by omega) g10 (fun j hj=>by rw[←hgg];exact none j hj)
     have e0:goB ds k=false:=by
      rw[hg];by_cases k0:0<k
      ·
       have:¬(d.2.2.2=(ds.getD (k-1) zD).2.2.2):=fun e=>hgo ⟨k0,e.symm⟩
       have e:(d.2.2.2==(ds.getD (k-1) zD).2.2.2)=false:=by simpa using this
       rw[e,Bool.and_false]
      · simp[k0]
     have e2:fstE d.2.2.2 L.length f=f.set d.2.2.2.toNat (L.length:Int):=by unfold fstE;rw[if_pos ⟨gp,f0⟩]
     have e3:clsE d.2.2.2 L.length f=(L.length:Int):=by
      unfold clsE;rw[if_pos gp,e2,getD_setE f _ _ _ (by omega),if_pos rfl]
     have e1:ncE L (goB ds k)=clsE d.2.2.2 L.length f:=by rw[e0,e3];simp[ncE]
     rw[e1];simp only;rw[e2];refine⟨by trivial,by rw[List.length_set];exact h2,by rw[List.length_append];omega,fun q hq0 hq10 hn=>?_,fun j hj hne=>?_,fun _ _=>?_⟩
     ·
      have hqk:=hn k (by omega);rw[hdd] at hqk;rw[getD_setE f _ _ _ (by omega),if_neg (by omega)];exact h4 q hq0 hq10 (fun j hj=>hn j (by omega))
     ·
      by_cases e:j=k
      ·
       subst e;rw[hdd,getD_setE f _ _ _ (by omega),if_pos rfl];omega
      ·
       have nj:=none j (by omega);have okj:=okD_restE (hok j (by omega));rw[getD_setE f _ _ _ (by omega),if_neg (by omega)];exact h5 j (by omega) hne
     · rw[fin,e3,getD_setE f _ _ _ (by omega),if_pos rfl]
theorem evsP_same {dss:List (List Dd)}(hb:workB dss=true):∀n:Nat,n≤dss.length→evsP dss n=evsW dss n∧1≤(evsW dss n).length
 | 0,_=>⟨rfl,by simp[evsW,evBeg]⟩
 |n+1,h=>by
  obtain⟨h1,h2⟩:=evsP_same hb n (by omega);have ht:=work_tog hb n (by omega);simp only[workB,Bool.and_eq_true,decide_eq_true_eq] at hb;obtain⟨⟨⟨⟨_,ha⟩,_⟩,_⟩,_⟩:=hb;have hok:=all_get [] ha n (by omega);simp only[okL,Bool.and_eq_true,decide_eq_true_eq] at hok;obtain⟨q1,_,q3,_⟩:=clkP_same (i:=n) ht (fun j hj=>all_get zD hok.1 j hj) h2 (dss.getD n []).length (Nat.le_refl _);rw[evsP,evsW,h1,q1];exact⟨rfl,q3⟩
def grD (d:Dd):Int:=d.2.2.2
def gK (ds:List Dd):Nat→Int
 | 0=>0
 |k+1=>if grD (ds.getD k zD)=0 then gK ds k else gAdd (gK ds k) (grD (ds.getD k zD))
def gC (ds:List Dd):Int:=gK ds ds.length
def partK (ds:List Dd)(k:Nat):Bool:=decide (0<k)&&(grD (ds.getD k zD) != grD (ds.getD (k-1) zD))&&inSetB (gK ds k) (grD (ds.getD k zD))
def togK (ds:List Dd):Nat→Bool
 | 0=>true
 |k+1=>togK ds k&&!partK ds k
def takW (dss:List (List Dd)):Nat→Int
 | 0=>0
 |i+1=>bits .or .i64 (takW dss i) (gC (dss.getD i []))
def rightB (ds:List Dd)(t:Int):Bool:=decide (ds.length≤5)&&ds.all okD&&togK ds ds.length&&(bits .and .i64 (gC ds) t==0)
def rightsW (dss:List (List Dd)):Nat→Bool
 | 0=>true
 |i+1=>rightsW dss i&&rightB (dss.getD i []) (takW dss i)
theorem take_getD {α:Type}(l:List α)(i k:Nat)(z:α)(h:k<i):(l.take i).getD k z=l.getD k z:=by
 rw[List.getD_eq_getElem?_getD,List.getElem?_take,if_pos h,List.getD_eq_getElem?_getD]
theorem gK_take (ds:List Dd)(i:Nat):∀k:Nat,k≤i→gK (ds.take i) k=gK ds k
 | 0,_=>rfl
 |k+1,h=>by rw[gK,gK,gK_take ds i k (by omega),take_getD ds i k zD (by omega)]
theorem gC_take (ds:List Dd)(i:Nat)(h:i≤ds.length):gC (ds.take i)=gK ds i:=by
 rw[gC,List.length_take,Nat.min_eq_left h,gK_take ds i i (Nat.le_refl _)]
theorem togK_false {ds:List Dd}{k:Nat}(h:togK ds k=false):∀n:Nat,k≤n→togK ds n=false
 | 0,hn=>by
  obtain rfl:k=0:=by omega
  exact h
 |n+1,hn=>by
  by_cases e:k=n+1
  · rw[←e];exact h
  · rw[togK,togK_false h n (by omega)];rfl
theorem rightsW_false {dss:List (List Dd)}{k:Nat}(h:rightsW dss k=false):∀n:Nat,k≤n→rightsW dss n=false
 | 0,hn=>by
  obtain rfl:k=0:=by omega
  exact h
 |n+1,hn=>by
  by_cases e:k=n+1
  · rw[←e];exact h
  · rw[rightsW,rightsW_false h n (by omega)];rfl
def Dis (a b:Nat):Prop:=∀k,a.testBit k=true→b.testBit k=false
theorem dis_iff (a b:Nat):Dis a b↔a &&& b=0:=by
 constructor
 ·
  intro h;apply Nat.eq_of_testBit_eq;intro k;rw[Nat.testBit_and,Nat.zero_testBit];cases ha:a.testBit k
  · rfl
  · rw[h k ha];rfl
 ·
  intro h k ha;have h1:(a &&& b).testBit k=false:=by rw[h,Nat.zero_testBit]
  rw[Nat.testBit_and,ha] at h1
  simpa using h1
theorem or_bit (a g k:Nat):(a ||| 2 ^ g).testBit k=(a.testBit k||decide (g=k)):=by
 rw[Nat.testBit_or,Nat.testBit_two_pow]
theorem set_getD (o:List Int)(g:Nat)(x:Int)(j:Nat)(hg:g<o.length):(o.set g x).getD j 0=if g=j then x else o.getD j 0:=by
 rw[List.getD_eq_getElem?_getD,List.getElem?_set];by_cases e:g=j
 · subst e;rw[if_pos rfl,if_pos hg,if_pos rfl];rfl
 · rw[if_neg e,if_neg e,List.getD_eq_getElem?_getD]
theorem okD_grp {d:Dd}(h:okD d=true):0≤grD d∧grD d≤9:=by
 simp[okD,deedB] at h;unfold grD;omega
theorem clerk_same {i:Nat}{own:List Int}{T:Nat}{ds:List Dd}(hl:own.length=10)(hT:∀g,g<10→(own.getD g 0≠0↔T.testBit g=true))(hi:∀g,g<10→own.getD g 0≠(i:Int)+1)(hT0:T.testBit 0=false):
  ∀k:Nat,(∀j,j<k→okD (ds.getD j zD)=true)→∃G:Nat,G<4096∧gK ds k=(G:Int)∧G.testBit 0=false∧(k=0→G=0) ∧
   (grpK i own ds k=none→togK ds k=false∨¬Dis G T) ∧
   ∀o,grpK i own ds k=some o→togK ds k=true∧Dis G T∧o.length=10∧∀g,g<10→o.getD g 0=if G.testBit g=true then (i:Int)+1 else own.getD g 0
 | 0,_=>⟨0,by omega,rfl,by simp,fun _=>rfl,by simp[grpK],by
   intro o ho;simp only[grpK,Option.some.injEq] at ho;subst ho
   exact⟨rfl,fun k hk=>by simp at hk,hl,by simp⟩⟩
 |k+1,hok=>by
  obtain⟨G,hG,hgK,hG0,hz,hN,hS⟩:=clerk_same hl hT hi hT0 k (fun j hj=>hok j (by omega));obtain⟨h0,h9⟩:=okD_grp (hok k (by omega));obtain⟨g,hg⟩:=Int.eq_ofNat_of_zero_le h0;have hgg:(ds.getD k zD).2.2.2=(g:Int):=hg;by_cases hg0:g=0
  ·
   subst hg0;have hz0:(ds.getD k zD).2.2.2=0:=hgg;have e1:gK ds (k+1)=(G:Int):=by rw[gK,hg,if_pos (by simp),hgK]
   have e2:partK ds k=false:=by
    have:inSetB (gK ds k) (grD (ds.getD k zD))=false:=by rw[hgK,hg,inSetB_nat G 0 hG (by omega),hG0]
    rw[partK,this,Bool.and_false]
   have e3:togK ds (k+1)=togK ds k:=by rw[togK,e2];simp
   have e4:grpK i own ds (k+1)=grpK i own ds k:=by
    rw[grpK]
    cases hq:grpK i own ds k with
    |none=>rfl
    |some o=>simp only;rw[if_pos hz0]
   refine⟨G,hG,e1,hG0,by omega,?_,?_⟩
   · rw[e3,e4];exact hN
   · rw[e3,e4];exact hS
  ·
   have hgne:(ds.getD k zD).2.2.2≠0:=by rw[hgg];omega
   have g9:g≤9:=by rw[hg] at h9;omega
   have e1:gK ds (k+1)=((G ||| 2 ^ g:Nat):Int):=by
    rw[gK,hg,if_neg (by omega),hgK,gAdd_nat G g hG (by omega)]
   have e0:(G ||| 2 ^ g).testBit 0=false:=by rw[or_bit,hG0];simp[hg0]
   have inS:inSetB (gK ds k) (grD (ds.getD k zD))=G.testBit g:=by rw[hgK,hg,inSetB_nat G g hG (by omega)]
   refine⟨G ||| 2 ^ g,or_lt G g hG (by omega),e1,e0,by omega,?_,?_⟩
   ·
    intro hn;rw[grpK] at hn
    cases hq:grpK i own ds k with
    |none=>
     rcases hN hq with h|h
     · left;rw[togK,h];rfl
     ·
      right;intro hd;refine h (fun b hb=>hd b ?_);rw[or_bit,hb];rfl
    |some o=>
     rw[hq] at hn;simp only at hn;rw[if_neg hgne,hgg,Int.toNat_natCast] at hn;obtain⟨ht,hd,hlen,ho⟩:=hS o hq;split at hn
     ·
      rename_i hc
      cases hTg:T.testBit g with
      |true=>
       right;intro hd2;have:=hd2 g (by rw[or_bit];simp);rw[hTg] at this;cases this
      |false=>
       left
       have hown:own.getD g 0=0:=by
        apply Classical.byContradiction;intro hne;rw[(hT g (by omega)).1 hne] at hTg;cases hTg
       cases hGg:G.testBit g with
       |false=>
        exfalso;have:=ho g (by omega);rw[hGg,hown] at this;exact hc.1 (by simpa using this)
       |true=>
        have hk0:k≠0:=by
         intro hk;rw[hz hk] at hGg;simp at hGg
        have hog:=ho g (by omega);rw[hGg,if_pos rfl] at hog
        have hp:(ds.getD (k-1) zD).2.2.2≠(g:Int):=by
         rcases hc.2 with h|h|h
         · exact absurd hog h
         · exact absurd h hk0
         · exact h
        have:partK ds k=true:=by
         rw[partK,inS,hGg,hg]
         have hp':((g:Int) != grD (ds.getD (k-1) zD))=true:=by
          rw[bne_iff_ne];exact fun e=>hp e.symm
         rw[hp'];simp;omega
        rw[togK,this];simp
     · cases hn
   ·
    intro o' hn;rw[grpK] at hn
    cases hq:grpK i own ds k with
    |none=>rw[hq] at hn;cases hn
    |some o=>
     rw[hq] at hn;simp only at hn;rw[if_neg hgne,hgg,Int.toNat_natCast] at hn;obtain⟨ht,hd,hlen,ho⟩:=hS o hq;split at hn
     · cases hn
     ·
      rename_i hc;simp only[Option.some.injEq] at hn;subst hn;have hog:=ho g (by omega)
      have hTg:T.testBit g=false:=by
       cases hTg:T.testBit g with
       |false=>rfl
       |true=>
        exfalso
        have hGg:G.testBit g=false:=by
         cases hGg:G.testBit g with
         |false=>rfl
         |true=>rw[hd g hGg] at hTg;cases hTg
        rw[hGg] at hog;simp only[Bool.false_eq_true,if_false] at hog;exact hc ⟨by rw[hog];exact (hT g (by omega)).2 hTg,.inl (by rw[hog];exact hi g (by omega))⟩
      refine⟨?_,?_,by rw[List.length_set];exact hlen,?_⟩
      ·
       have:partK ds k=false:=by
        cases hp:partK ds k with
        |false=>rfl
        |true=>
         exfalso;rw[partK,inS,hg,Bool.and_eq_true,Bool.and_eq_true,decide_eq_true_eq,bne_iff_ne] at hp;obtain⟨⟨hk,hne⟩,hGg⟩:=hp;rw[hGg,if_pos rfl] at hog;exact hc ⟨by rw[hog];omega,.inr (.inr (fun e=>hne e.symm))⟩
       rw[togK,ht,this];rfl
      ·
       intro b hb;rw[or_bit,Bool.or_eq_true,decide_eq_true_eq] at hb;rcases hb with hb|rfl
       · exact hd b hb
       · exact hTg
      ·
       intro j hj;rw[set_getD o g _ j (by omega),or_bit];by_cases e:g=j
       · subst e;simp
       · rw[if_neg e,ho j hj];simp[e]
theorem work_same {dss:List (List Dd)}:∀n:Nat,(∀i,i<n→okL (dss.getD i [])=true)→∃T:Nat,T<4096∧takW dss n=(T:Int)∧T.testBit 0=false ∧
   (grpW dss n=none→rightsW dss n=false) ∧
   ∀o,grpW dss n=some o→rightsW dss n=true∧o.length=10∧(∀g,g<10→(o.getD g 0≠0↔T.testBit g=true))∧∀g,g<10→0≤o.getD g 0∧o.getD g 0≤(n:Int)
 | 0,_=>⟨0,by omega,rfl,by simp,by simp[grpW],by
   intro o ho;simp only[grpW,Option.some.injEq] at ho;subst ho;refine⟨rfl,by simp,fun g hg=>?_,fun g hg=>?_⟩
   · rw[List.getD_eq_getElem?_getD,List.getElem?_replicate,if_pos hg];simp
   · rw[List.getD_eq_getElem?_getD,List.getElem?_replicate,if_pos hg];simp⟩
 |n+1,hok=>by
  obtain⟨T,hT,htk,hT0,hN,hS⟩:=work_same n (fun i hi=>hok i (by omega));have okn:=hok n (by omega);simp only[okL,Bool.and_eq_true,decide_eq_true_eq] at okn;have hall:=okn.1;have hok2:∀j,j<(dss.getD n []).length→okD ((dss.getD n []).getD j zD)=true:=fun j hj=>all_get zD hall j hj
  obtain⟨G0,hG0,hgK0,hG00,-⟩:=clerk_same (i:=0) (own:=List.replicate 10 0) (T:=0) (ds:=dss.getD n []) (by simp) (fun g hg=>by rw[List.getD_eq_getElem?_getD,List.getElem?_replicate,if_pos hg];simp) (fun g hg=>by rw[List.getD_eq_getElem?_getD,List.getElem?_replicate,if_pos hg];simp) (by simp) (dss.getD n []).length hok2
  have hor:takW dss (n+1)=((T ||| G0:Nat):Int):=by
   rw[takW,htk,gC,hgK0,i64_or_nat T G0 (by omega) (by omega)]
  have hand:bits .and .i64 (gC (dss.getD n [])) (takW dss n)=((G0 &&& T:Nat):Int):=by
   rw[gC,hgK0,htk,i64_and_nat G0 T (by omega) (by omega)]
  have hR:rightB (dss.getD n []) (takW dss n)=(togK (dss.getD n []) (dss.getD n []).length&&decide (G0 &&& T=0)):=by
   rw[rightB,hall,decide_eq_true okn.2,hand];simp only[Bool.true_and]
   congr 1
   rw[Bool.eq_iff_iff,beq_iff_eq,decide_eq_true_eq];omega
  refine⟨T ||| G0,Nat.or_lt_two_pow (n:=12) hT hG0,hor,by rw[Nat.testBit_or,hT0,hG00];rfl,?_,?_⟩
  ·
   intro hn;rw[grpW] at hn
   cases hq:grpW dss n with
   |none=>rw[rightsW,hN hq];rfl
   |some o=>
    rw[hq] at hn;simp only at hn;obtain⟨hr,hl,hb,hle⟩:=hS o hq;obtain⟨G,hG,hgK,-,-,hN2,-⟩:=clerk_same (i:=n) (own:=o) (T:=T) (ds:=dss.getD n []) hl hb (fun g hg=>by have:=hle g hg;omega) hT0 (dss.getD n []).length hok2;obtain rfl:G=G0:=by rw[hgK0] at hgK;omega
    rw[rightsW,hr,hR];rcases hN2 hn with h|h
    · rw[h];rfl
    · rw[decide_eq_false (fun e=>h ((dis_iff _ _).2 e))];simp
  ·
   intro o' hn;rw[grpW] at hn
   cases hq:grpW dss n with
   |none=>rw[hq] at hn;cases hn
   |some o=>
    rw[hq] at hn;simp only at hn;obtain⟨hr,hl,hb,hle⟩:=hS o hq;obtain⟨G,hG,hgK,-,-,-,hS2⟩:=clerk_same (i:=n) (own:=o) (T:=T) (ds:=dss.getD n []) hl hb (fun g hg=>by have:=hle g hg;omega) hT0 (dss.getD n []).length hok2;obtain rfl:G=G0:=by rw[hgK0] at hgK;omega
    obtain⟨h1,h2,h3,h4⟩:=hS2 o' hn;refine⟨by rw[rightsW,hr,hR,h1,decide_eq_true ((dis_iff _ _).1 h2)];rfl,h3,fun g hg=>?_,fun g hg=>?_⟩
    ·
     rw[h4 g hg,Nat.testBit_or,Bool.or_eq_true];cases hGg:G.testBit g
     · simp only[Bool.false_eq_true,if_false,or_false];exact hb g hg
     · simp only[if_true,or_true,iff_true];omega
    ·
     rw[h4 g hg];have:=hle g hg;split<;>omega
theorem rights_same {dss:List (List Dd)}(h:dss.all okL=true):rightsW dss dss.length=grpB dss:=by
 obtain⟨T,-,-,-,hN,hS⟩:=work_same (dss:=dss) dss.length (fun i hi=>all_get [] h i hi);rw[grpB]
 cases hq:grpW dss dss.length with
 |none=>rw[hN hq];rfl
 |some o=>rw[(hS o hq).1];rfl
theorem rights_okL {dss:List (List Dd)}(h:rightsW dss dss.length=true):dss.all okL=true:=by
 refine all_of [] (fun i hi=>?_)
 cases hb:rightsW dss (i+1) with
 |false=>rw[rightsW_false hb _ hi] at h;cases h
 |true=>
  rw[rightsW,Bool.and_eq_true] at hb;have:=hb.2;simp only[rightB,Bool.and_eq_true] at this;rw[okL,this.1.1.2,Bool.true_and];exact this.1.1.1
theorem work_rights (dss:List (List Dd)):workB dss=(decide (1≤dss.length∧dss.length≤3)&&rightsW dss dss.length&&decide (lenW dss≤12)&&decide (evW dss dss.length≤6)):=by
 rw[workB]
 cases h:dss.all okL with
 |true=>
  rw[rights_same h];cases grpB dss<;>simp
 |false=>
  cases hr:rightsW dss dss.length with
  |false=>simp
  |true=>rw[rights_okL hr] at h;cases h
section
section
variable {P:Program} {md:Region.Mode} {ops:Array Oper} {Q:Exit→Act→World→Prop} {S:World→Prop}
theorem takeH (i d:Nat){oi:Oper}{v:Value}{fuel:Nat}{listed:Array Bool}{a:Act}{w:World}(hi:ops[i]? = some oi)(hd:oi.dst=some d)
  (hs:Region.noSelect ops=true) (hf:Region.free md ops listed i=true) (hr:(Region.ready md ops listed).contains i=true)
  (hQ:∀c a w,Q (.panic c) (a.put (some d) v) w→Q (.panic c) a w) (hw:Region.wanted oi (yielded ops a.tmps)=true) (hy:∀w,S w→(execOp a.eval oi).run P w = .ok (.value v) w) (hS:S w)
  (h:wpAnyH P md ops Q S fuel (listed.setIfInBounds i true) (a.put (some d) v) w):wpAnyH P md ops Q S (fuel+1) listed a w:=by
 rw[←hd] at hQ h;exact wpAnyH_take hi hs hf hr hQ (Or.inl ⟨hw,hy⟩) hS h
theorem takeQ (i d:Nat){oi:Oper}{v:Value}{fuel:Nat}{listed:Array Bool}{a:Act}{w:World}
  (hy:∀w,S w→(execOp a.eval oi).run P w = .ok (.value v) w) (h:wpAnyH P md ops Q S fuel (listed.setIfInBounds i true) (a.put (some d) v) w)
  (hi:ops[i]? = some oi:=by rfl) (hd:oi.dst=some d:=by rfl)
  (hs:Region.noSelect ops=true:=by kernel_rfl) (hf:Region.free md ops listed i=true:=by kernel_rfl) (hr:(Region.ready md ops listed).contains i=true:=by kernel_rfl)
  (hQ:∀c a w,Q (.panic c) (a.put (some d) v) w→Q (.panic c) a w:=by exact fun _ _ _ h=>h) (hw:Region.wanted oi (yielded ops a.tmps)=true:=by rfl) (hS:S w:=by assumption):wpAnyH P md ops Q S (fuel+1) listed a w:=
 takeH i d hi hd hs hf hr hQ hw hy hS h
theorem skipH (i d:Nat){oi:Oper}{fuel:Nat}{listed:Array Bool}{a:Act}{w:World}(hi:ops[i]? = some oi)(hd:oi.dst=some d)
  (hs:Region.noSelect ops=true) (hf:Region.free md ops listed i=true) (hr:(Region.ready md ops listed).contains i=true)
  (hQ:∀c a w,Q (.panic c) (a.put (some d) undef) w→Q (.panic c) a w) (hw:Region.wanted oi (yielded ops a.tmps)=false) (hS:S w)
  (h:wpAnyH P md ops Q S fuel (listed.setIfInBounds i true) (a.put (some d) undef) w):wpAnyH P md ops Q S (fuel+1) listed a w:=by
 rw[←hd] at hQ h;exact wpAnyH_take hi hs hf hr hQ (Or.inr ⟨hw,rfl⟩) hS h
end
end
def cLn (x:Int×Int):List Value:=[.int .i64 x.1,.int .i64 x.2]
theorem cLn_len (x:Int×Int):(cLn x).length=2:=rfl
theorem Tryz.infoLn:(Tryz.prog.info? 72).map (fun i=>(i.zero,i.size,i.bytes))=some (some (.agg #[.int .i64 0,.int .i64 0]),2,16):=by kernel_rfl
abbrev RdLn (w:World)(v:Value)(l:List (Int×Int)):Prop:=RdT cLn 2 w v l
abbrev AppLn (w:World)(base:Nat)(v:Value)(l:List (Int×Int)):Prop:=AppT cLn 72 2 w base v l
theorem atLn {w:World}{b o:Nat}{x y:Int}(h:AtT cLn w b o (x,y)):w.cell? ⟨b,o,none⟩=some (.int .i64 x)∧w.cell? ⟨b,o+1,none⟩=some (.int .i64 y):=⟨h 0 _ rfl,h 1 _ rfl⟩
theorem AppLn.rd {w:World}{base:Nat}{v:Value}{l:List (Int×Int)}(h:AppLn w base v l):RdLn w v l:=AppT.rd cLn_len h
theorem ln_get {l:List (Int×Int)}{i:Nat}(h:i<l.length):l[i]? = some (l.getD i (0,0)):=by
 rw[List.getD_eq_getElem?_getD,List.getElem?_eq_getElem h];rfl
abbrev lnO (x y:Int):Obj:= .cells #[.int .i64 x,.int .i64 y] 72
theorem cLn_one (x:Int×Int):∀u∈cLn x,u.oneCell'=true:=by
 intro u hu;simp only[cLn,List.mem_cons,List.not_mem_nil,or_false] at hu;rcases hu with rfl|rfl<;>rfl
theorem cLn_new (w:World)(n:Nat)(hn:w.heap.size=n)(x y:Int):∀j u,(cLn (x,y))[j]? = some u→(w.alloc (lnO x y)).cell? ((⟨n,0,none⟩:Addr).add j)=some u:=by
 subst hn;intro j u hj
 match j,hj with
 | 0,hj=>simp[cLn] at hj;subst hj;simp[Addr.add]
 | 1,hj=>simp[cLn] at hj;subst hj;simp[Addr.add]
abbrev dAt (dss:List (List Dd))(c k:Nat):Dd:=(dss.getD c []).getD k zD
def offN (dss:List (List Dd))(c k:Nat):Nat:=(clkE c (dss.getD c []) (evsW dss c) k).1.length
def numD (d:Dd):Nat:=if d.1=4 then 0 else if d.1=3 then 2 else 1
theorem oneE_num (i k:Nat)(d:Dd)(c:Int):(oneE i k d c).length=numD d:=by
 unfold oneE numD;split
 · rfl
 ·
  split
  · rfl
  · split<;>rfl
def clsD (dss:List (List Dd))(c k:Nat):Int:=clsE (dAt dss c k).2.2.2 (offN dss c k) (clkE c (dss.getD c []) (evsW dss c) k).2
theorem clk_step (dss:List (List Dd))(c k:Nat):(clkE c (dss.getD c []) (evsW dss c) (k+1)).1=(clkE c (dss.getD c []) (evsW dss c) k).1++oneE c k (dAt dss c k) (clsD dss c k):=by
 rw[clkE,stepE];split
 ·
  rename_i h;have e:oneE c k (dAt dss c k) (clsD dss c k)=[]:=by unfold oneE;rw[if_pos h]
  rw[e,List.append_nil]
 · rfl
theorem off_succ (dss:List (List Dd))(c k:Nat):offN dss c (k+1)=offN dss c k+numD (dAt dss c k):=by
 unfold offN;rw[clk_step,List.length_append,oneE_num]
theorem off_zero (dss:List (List Dd))(c:Nat):offN dss c 0=(evsW dss c).length:=rfl
theorem off_end (dss:List (List Dd))(c:Nat):(evsW dss (c+1)).length=offN dss c (dss.getD c []).length:=rfl
theorem clk_pre (dss:List (List Dd))(c k:Nat):∀n:Nat,k≤n→∃t,(clkE c (dss.getD c []) (evsW dss c) n).1=(clkE c (dss.getD c []) (evsW dss c) k).1++t
 | 0,h=>by
  obtain rfl:k=0:=by omega
  exact⟨[],by simp⟩
 |n+1,h=>by
  by_cases e:k=n+1
  · subst e;exact⟨[],by simp⟩
  ·
   obtain⟨t,ht⟩:=clk_pre dss c k n (by omega);exact⟨t++oneE c n (dAt dss c n) (clsD dss c n),by rw[clk_step,ht,List.append_assoc]⟩
theorem evs_pre (dss:List (List Dd))(c:Nat):∀n:Nat,c≤n→∃t,evsW dss n=evsW dss c++t
 | 0,h=>by
  obtain rfl:c=0:=by omega
  exact⟨[],by simp⟩
 |n+1,h=>by
  by_cases e:c=n+1
  · subst e;exact⟨[],by simp⟩
  ·
   obtain⟨t,ht⟩:=evs_pre dss c n (by omega);obtain⟨t2,h2⟩:=clk_pre dss n 0 (dss.getD n []).length (Nat.zero_le _);refine⟨t++t2,?_⟩;show (clkE n (dss.getD n []) (evsW dss n) (dss.getD n []).length).1=_;rw[h2];show evsW dss n++t2=_;rw[ht,List.append_assoc]
theorem es_at {dss:List (List Dd)}{c k n:Nat}(hc:c<n)(hk:k<(dss.getD c []).length){i:Nat}{e:Ev}(h:(oneE c k (dAt dss c k) (clsD dss c k))[i]? = some e):(evsW dss n)[offN dss c k+i]? = some e:=by
 obtain⟨t1,h1⟩:=evs_pre dss (c+1) n hc;obtain⟨t2,h2⟩:=clk_pre dss c (k+1) (dss.getD c []).length hk;rw[h1];refine at_left t1 ?_;show (clkE c (dss.getD c []) (evsW dss c) (dss.getD c []).length).1[offN dss c k+i]? = some e;rw[h2];refine at_left t2 ?_;rw[clk_step,List.getElem?_append_right (by unfold offN;omega)];show (oneE c k (dAt dss c k) (clsD dss c k))[offN dss c k+i-offN dss c k]? = some e;rw[show offN dss c k+i-offN dss c k=i by omega];exact h
theorem clk_dec (dss:List (List Dd))(c:Nat){j:Nat}(h0:offN dss c 0≤j):∀k:Nat,j<offN dss c k→∃k' i,k'<k∧i<numD (dAt dss c k')∧j=offN dss c k'+i
 | 0,h=>by omega
 |k+1,h=>by
  by_cases hj:j<offN dss c k
  ·
   obtain⟨k',i,h1,h2,h3⟩:=clk_dec dss c h0 k hj;exact⟨k',i,by omega,h2,h3⟩
  ·
   rw[off_succ] at h;exact⟨k,j-offN dss c k,by omega,by omega,by omega⟩
theorem es_dec (dss:List (List Dd)){j:Nat}(h3:3≤j):∀n:Nat,j<(evsW dss n).length→∃c k i,c<n∧k<(dss.getD c []).length∧i<numD (dAt dss c k)∧j=offN dss c k+i
 | 0,h=>by simp[evsW,evBeg] at h;omega
 |n+1,h=>by
  by_cases hj:j<(evsW dss n).length
  ·
   obtain⟨c,k,i,h1,h2⟩:=es_dec dss h3 n hj;exact⟨c,k,i,by omega,h2⟩
  ·
   rw[off_end] at h;obtain⟨k,i,h1,h2⟩:=clk_dec dss n (by rw[off_zero];omega) _ h;exact⟨n,k,i,by omega,h1,h2⟩
theorem off_le (dss:List (List Dd))(c:Nat){k k':Nat}(h:k≤k'):offN dss c k≤offN dss c k':=by
 obtain⟨t,ht⟩:=clk_pre dss c k k' h;unfold offN;rw[ht,List.length_append];omega
theorem off_lt {dss:List (List Dd)}{c c' k k':Nat}(hk:k<(dss.getD c []).length)(h:c<c'∨(c=c'∧k<k')):offN dss c k+numD (dAt dss c k)≤offN dss c' k':=by
 rcases h with h|⟨rfl,h⟩
 ·
  have h1:=off_le dss c (k:=k+1) (k':=(dss.getD c []).length) hk;rw[off_succ] at h1;obtain⟨t,ht⟩:=evs_pre dss (c+1) c' h;have h2:=off_le dss c' (Nat.zero_le k');rw[off_zero,ht,List.length_append,off_end] at h2;omega
 ·
  have h1:=off_le dss c (k:=k+1) (k':=k') h;rw[off_succ] at h1;exact h1
theorem off_three (dss:List (List Dd))(c k:Nat):3≤offN dss c k:=by
 obtain⟨t,ht⟩:=evs_pre dss 0 c (Nat.zero_le _);have h:=off_le dss c (Nat.zero_le k);rw[off_zero,ht,List.length_append] at h;simp[evsW,evBeg] at h;omega
abbrev gAt (dss:List (List Dd))(c k:Nat):Int:=(dAt dss c k).2.2.2
def OkC (dss:List (List Dd))(c:Nat):Prop:=∀k,k<(dss.getD c []).length→okD (dAt dss c k)=true
theorem okC_of {dss:List (List Dd)}(h:workB dss=true){c:Nat}(hc:c<dss.length):OkC dss c:=by
 simp only[workB,Bool.and_eq_true,decide_eq_true_eq] at h;obtain⟨⟨⟨⟨_,h2⟩,_⟩,_⟩,_⟩:=h;have h3:=all_get [] h2 c hc;unfold okL at h3;rw[Bool.and_eq_true] at h3;exact fun k hk=>all_get zD h3.1 k hk
theorem g_in {dss:List (List Dd)}{c k:Nat}(h:OkC dss c)(hk:k<(dss.getD c []).length):0≤gAt dss c k∧gAt dss c k≤9∧(2<(dAt dss c k).1→gAt dss c k=0):=
 ⟨(okD_restE (h k hk)).2.2.1,(okD_restE (h k hk)).2.2.2.1,(okD_restE (h k hk)).2.2.2.2⟩
theorem fst_len (dss:List (List Dd))(c:Nat):∀k:Nat,(clkE c (dss.getD c []) (evsW dss c) k).2.length=10
 | 0=>by simp[clkE]
 |k+1=>by
  have ih:=fst_len dss c k;rw[clkE,stepE];split
  · exact ih
  ·
   show (fstE _ _ _).length=10;unfold fstE;split
   · rw[List.length_set];exact ih
   · exact ih
theorem fst_at {dss:List (List Dd)}{c:Nat}(hok:OkC dss c){g:Nat}(h0:0<g)(h9:g≤9):∀k:Nat,k≤(dss.getD c []).length →
  ((clkE c (dss.getD c []) (evsW dss c) k).2.getD g 0=0∧∀j,j<k→gAt dss c j≠g) ∨
  ∃j,j<k∧gAt dss c j=g∧(∀i,i<j→gAt dss c i≠g)∧(clkE c (dss.getD c []) (evsW dss c) k).2.getD g 0=(offN dss c j:Int)
 | 0,_ => .inl ⟨by
   show (List.replicate 10 (0:Int)).getD g 0=0;rw[List.getD_eq_getElem?_getD,List.getElem?_replicate]
   split<;>rfl,fun j hj=>by omega⟩
 |k+1,hk=>by
  have ih:=fst_at hok h0 h9 k (by omega);have hl:=fst_len dss c k;have hd:=g_in hok (k:=k) (by omega);have hkk:=okD_kindE (hok k (by omega));by_cases h4:(dAt dss c k).1=4
  ·
   have e:(clkE c (dss.getD c []) (evsW dss c) (k+1)).2=(clkE c (dss.getD c []) (evsW dss c) k).2:=by
    rw[clkE,stepE,if_pos h4]
   have hg:gAt dss c k=0:=hd.2.2 (by omega);rw[e];rcases ih with ⟨h1,h2⟩|⟨j,h1,h2,h3,h5⟩
   ·
    refine .inl ⟨h1,fun j hj=>?_⟩;by_cases e:j=k
    · subst e;omega
    · exact h2 j (by omega)
   · exact .inr ⟨j,by omega,h2,h3,h5⟩
  ·
   have e:(clkE c (dss.getD c []) (evsW dss c) (k+1)).2=fstE (gAt dss c k) (offN dss c k) (clkE c (dss.getD c []) (evsW dss c) k).2:=by
    rw[clkE,stepE,if_neg h4];rfl
   rw[e];by_cases hg:gAt dss c k=(g:Int)
   ·
    rcases ih with ⟨h1,h2⟩|⟨j,h1,h2,h3,h5⟩
    ·
     refine .inr ⟨k,by omega,hg,h2,?_⟩;unfold fstE;rw[hg,Int.toNat_natCast,if_pos ⟨by omega,h1⟩,getD_setE _ _ _ _ (by omega),if_pos rfl]
    ·
     refine .inr ⟨j,by omega,h2,h3,?_⟩;have h6:=off_three dss c j;unfold fstE;rw[hg,Int.toNat_natCast,if_neg (by rw[h5];omega)];exact h5
   ·
    have e2:(fstE (gAt dss c k) (offN dss c k) (clkE c (dss.getD c []) (evsW dss c) k).2).getD g 0=(clkE c (dss.getD c []) (evsW dss c) k).2.getD g 0:=by
     unfold fstE;split
     ·
      rename_i hp;have hx:(gAt dss c k).toNat≤9:=by have:=hd.2.1;omega
      rw[getD_setE _ _ _ _ (by omega),if_neg (by omega)]
     · rfl
    rw[e2];rcases ih with ⟨h1,h2⟩|⟨j,h1,h2,h3,h5⟩
    ·
     refine .inl ⟨h1,fun j hj=>?_⟩;by_cases e:j=k
     · subst e;exact hg
     · exact h2 j (by omega)
    · exact .inr ⟨j,by omega,h2,h3,h5⟩
theorem cls_at {dss:List (List Dd)}{c k:Nat}(hok:OkC dss c)(hk:k<(dss.getD c []).length)(h4:(dAt dss c k).1≠4):
  (gAt dss c k=0∧clsD dss c k=(offN dss c k:Int))∨(gAt dss c k≠0∧∃j,j≤k∧gAt dss c j=gAt dss c k∧(∀i,i<j→gAt dss c i≠gAt dss c k)∧clsD dss c k=(offN dss c j:Int)):=by
 have hd:=g_in hok hk;by_cases hg:gAt dss c k=0
 ·
  refine .inl ⟨hg,?_⟩;unfold clsD clsE;rw[if_neg (by have:(dAt dss c k).2.2.2=0:=hg;omega)]
 ·
  obtain⟨g,hgg⟩:=Int.eq_ofNat_of_zero_le hd.1;have hgg':gAt dss c k=(g:Int):=hgg;have h9:g≤9:=by have:=hd.2.1;omega
  refine .inr ⟨hg,?_⟩;have h1:=fst_at hok (g:=g) (by omega) h9 (k+1) hk
  have e:(clkE c (dss.getD c []) (evsW dss c) (k+1)).2=fstE (gAt dss c k) (offN dss c k) (clkE c (dss.getD c []) (evsW dss c) k).2:=by
   rw[clkE,stepE,if_neg h4];rfl
  rw[e] at h1;rcases h1 with ⟨_,h2⟩|⟨j,h1,h2,h3,h5⟩
  · exact absurd hgg' (h2 k (by omega))
  ·
   refine⟨j,by omega,by rw[hgg'];exact h2,fun i hi=>by rw[hgg'];exact h3 i hi,?_⟩;unfold clsD clsE;rw[if_pos (by have:(dAt dss c k).2.2.2=(g:Int):=hgg';omega)];have hq:(dAt dss c k).2.2.2.toNat=g:=by have:(dAt dss c k).2.2.2=(g:Int):=hgg';omega
   rw[hq];exact h5
theorem off_inj {dss:List (List Dd)}{c c' k k':Nat}(hk:k<(dss.getD c []).length)(hk':k'<(dss.getD c' []).length)(h1:0<numD (dAt dss c k))(h2:0<numD (dAt dss c' k'))(e:offN dss c k=offN dss c' k'):c=c'∧k=k':=by
 by_cases hc:c<c'
 · have:=off_lt (k':=k') hk (.inl hc);omega
 by_cases hc':c'<c
 · have:=off_lt (k':=k) hk' (.inl hc');omega
 obtain rfl:c=c':=by omega
 refine⟨rfl,?_⟩;by_cases hkk:k<k'
 · have:=off_lt (c':=c) (k':=k') hk (.inr ⟨rfl,hkk⟩);omega
 by_cases hkk':k'<k
 · have:=off_lt (c':=c) (k':=k) hk' (.inr ⟨rfl,hkk'⟩);omega
 omega
theorem num_grp {dss:List (List Dd)}{c k:Nat}(hok:OkC dss c)(hk:k<(dss.getD c []).length)(hg:gAt dss c k≠0):(dAt dss c k).1≠4∧(dAt dss c k).1≠3∧0<numD (dAt dss c k):=by
 have hd:=g_in hok hk;have hkk:=okD_kindE (hok k hk);have h3:¬ 2<(dAt dss c k).1:=fun h=>hg (hd.2.2 h)
 refine⟨by omega,by omega,?_⟩;unfold numD;rw[if_neg (by omega),if_neg (by omega)];omega
theorem num_pos {d:Dd}(h:d.1≠4):0<numD d:=by
 unfold numD;rw[if_neg h];split<;>omega
theorem cls_iff {dss:List (List Dd)}{c c' k k':Nat}(hok:OkC dss c)(hok':OkC dss c')(hk:k<(dss.getD c []).length)(hk':k'<(dss.getD c' []).length)(h4:(dAt dss c k).1≠4)(h4':(dAt dss c' k').1≠4):
  clsD dss c k=clsD dss c' k'↔c=c'∧(k=k'∨(gAt dss c k≠0∧gAt dss c k=gAt dss c' k')):=by
 constructor
 ·
  intro e;rcases cls_at hok hk h4 with ⟨g1,e1⟩|⟨g1,j,j1,j2,j3,e1⟩
  ·
   rcases cls_at hok' hk' h4' with ⟨g2,e2⟩|⟨g2,j',l1,l2,l3,e2⟩
   ·
    rw[e1,e2] at e;obtain⟨rfl,rfl⟩:=off_inj hk hk' (num_pos h4) (num_pos h4') (by omega);exact⟨rfl,.inl rfl⟩
   ·
    rw[e1,e2] at e;obtain⟨rfl,rfl⟩:=off_inj (k':=j') hk (by omega) (num_pos h4) (num_grp (k:=j') hok' (by omega) (by rw[l2];exact g2)).2.2 (by omega);exact absurd (l2.symm.trans g1) g2
  ·
   rcases cls_at hok' hk' h4' with ⟨g2,e2⟩|⟨g2,j',l1,l2,l3,e2⟩
   ·
    rw[e1,e2] at e;obtain⟨rfl,rfl⟩:=off_inj (k:=j) (by omega) hk' (num_grp (k:=j) hok (by omega) (by rw[j2];exact g1)).2.2 (num_pos h4') (by omega);exact absurd (j2.symm.trans g2) g1
   ·
    rw[e1,e2] at e;obtain⟨rfl,rfl⟩:=off_inj (k:=j) (k':=j') (by omega) (by omega) (num_grp (k:=j) hok (by omega) (by rw[j2];exact g1)).2.2 (num_grp (k:=j') hok' (by omega) (by rw[l2];exact g2)).2.2 (by omega);exact⟨rfl,.inr ⟨g1,by rw[←j2,l2]⟩⟩
 ·
  rintro⟨rfl,rfl|⟨g1,g2⟩⟩
  · rfl
  ·
   rcases cls_at hok hk h4 with ⟨g0,_⟩|⟨_,j,j1,j2,j3,e1⟩
   · exact absurd g0 g1
   rcases cls_at hok' hk' h4' with ⟨g0,_⟩|⟨_,j',l1,l2,l3,e2⟩
   · rw[g0] at g2;exact absurd g2 g1
   rw[e1,e2]
   have:j=j':=by
    by_cases a:j<j'
    · exact absurd (by rw[j2,g2]) (l3 j a)
    by_cases a':j'<j
    · exact absurd (by rw[l2,g2]) (j3 j' a')
    omega
   rw[this]
theorem place_ev {dss:List (List Dd)}(hb:workB dss=true){j:Nat}(hj:j<(eventsB dss).length):0≤((eventsB dss).getD j zE).2.2.2.1∧((eventsB dss).getD j zE).2.2.2.1≤2:=by
 have e1:eventsB dss=evsW dss dss.length:=by rw[eventsB,if_pos hb]
 rw[e1] at hj ⊢;exact place_in hb j hj
theorem row_has {es:List Ev}{rows:List Int}(hx:es.length≤12)(hr:rowsL es rows=true){x:Nat}(hxn:x<es.length)(hw:(es.getD x zE).2.2.1=false)(hp:0≤(es.getD x zE).2.2.2.1∧(es.getD x zE).2.2.2.1≤2):∃i,i<rows.length∧rows.getD i 0=(x:Int):=by
 have hm:∀p:Nat,(es.getD x zE).2.2.2.1=(p:Int)→(x:Int)∈plcW es p:=by
  intro p e;unfold plcW idxB;rw[if_pos hx];refine idxK_has _ _ ?_ _ hxn;unfold toE;rw[hw,e];simp
 have ha:(x:Int)∈allW es:=by
  unfold allW;simp only[List.mem_append];rcases (by omega:(es.getD x zE).2.2.2.1=((0:Nat):Int)∨(es.getD x zE).2.2.2.1=((1:Nat):Int)∨(es.getD x zE).2.2.2.1=((2:Nat):Int)) with h|h|h
  · exact .inl (.inl (hm 0 h))
  · exact .inl (.inr (hm 1 h))
  · exact .inr (hm 2 h)
 exact at_of_mem ((rows_perm hx hr).mem_iff.1 ha)
theorem row_tot {es:List Ev}{rows:List Int}(hx:es.length≤12)(hr:rowsL es rows=true){x y:Nat}(hxn:x<es.length)(hyn:y<es.length)(hwx:(es.getD x zE).2.2.1=false)(hwy:(es.getD y zE).2.2.1=false)
  (hp:0≤(es.getD x zE).2.2.2.1∧(es.getD x zE).2.2.2.1≤2) (he:(es.getD x zE).2.2.2.1=(es.getD y zE).2.2.2.1) (hne:x≠y):line (rwL es rows) x y=true∨line (rwL es rows) y x=true:=by
 obtain⟨i,hi,ei⟩:=row_has hx hr hxn hwx hp;obtain⟨k,hk,ek⟩:=row_has hx hr hyn hwy (by rw[←he];exact hp);have c1:=row_cell hx hr hi hk;have c2:=row_cell hx hr hk hi;rw[ei,ek,Int.toNat_natCast,Int.toNat_natCast] at c1 c2;rw[c1,c2];unfold rwP plE;rw[ei,ek,Int.toNat_natCast,Int.toNat_natCast,he];by_cases h:i<k
 · left;simp[h]
 ·
  have h2:i≠k:=fun e=>hne (by subst e;rw[ei] at ek;omega)
  have h3:k<i:=by omega
  right;simp[h3]
theorem row_use {es:List Ev}{f rows:List Int}(W:Webs es f rows)(hx:es.length≤12)(hr:rowsL es rows=true){a b:Nat}(ha:a<es.length)(h:line (rwL es rows) a b=true):
  b<es.length∧a≠b∧(es.getD a zE).2.2.2.1=(es.getD b zE).2.2.2.1:=by
 obtain⟨i,q,hi,hq,hp,e1,e2⟩:=(W.rwl a b ha).1 h;obtain⟨rn,_,ru⟩:=rows_use hx hr;unfold rwP plE at hp;rw[e1,e2,Int.toNat_natCast,Int.toNat_natCast] at hp;simp only[Bool.and_eq_true,decide_eq_true_eq,beq_iff_eq] at hp;refine⟨by have:=(ru q hq).2;omega,fun e=>?_,hp.2⟩;have:=nodup_get rn hi hq (by rw[e1,e2,e]);omega
theorem two_round {n:Nat}{zs:List Int}(hz:Web n zs)(hr:roundB zs=false){i j:Nat}(hi:i<n)(h1:line zs i j=true)(h2:line zs j i=true):False:=by
 rw[(round_iff hz).2 ⟨i,hi,(Way.one h1).more h2⟩] at hr;cases hr
theorem each_parts {dss:List (List Dd)}{f rows:List Int}(h:eachB dss f rows=true):taleB dss f rows=true∧roundB (pwL (eventsB dss) f rows)=false:=by
 unfold eachB at h;rw[Bool.and_eq_true,Bool.not_eq_true'] at h;exact h
theorem beg_ev {dss:List (List Dd)}(hb:workB dss=true):3≤(eventsB dss).length∧(eventsB dss).getD 0 zE=(-1,-1,false,0,0,0)∧(eventsB dss).getD 1 zE=(-1,-1,false,1,0,1)∧(eventsB dss).getD 2 zE=(-1,-1,false,2,0,2):=by
 have e1:eventsB dss=evsW dss dss.length:=by rw[eventsB,if_pos hb]
 obtain⟨t,ht⟩:=evs_pre dss 0 dss.length (Nat.zero_le _);have ht':evsW dss dss.length=evBeg++t:=ht;rw[e1];refine⟨by rw[ht'];simp[evBeg],beg_get ht'⟩
theorem beg_place {dss:List (List Dd)}(hb:workB dss=true){i:Nat}(hi:i<3):((eventsB dss).getD i zE).2.2.2.1=(i:Int)∧((eventsB dss).getD i zE).2.2.1=false∧csE ((eventsB dss).getD i zE)=(i:Int)∧((eventsB dss).getD i zE).1=-1:=by
 obtain⟨_,h0,h1,h2⟩:=beg_ev hb;rcases (by omega:i=0∨i=1∨i=2) with rfl|rfl|rfl
 · rw[h0];exact⟨rfl,rfl,rfl,rfl⟩
 · rw[h1];exact⟨rfl,rfl,rfl,rfl⟩
 · rw[h2];exact⟨rfl,rfl,rfl,rfl⟩
structure Told (dss:List (List Dd))(f rows:List Int):Prop where
 work:workB dss=true
 twelve:(eventsB dss).length≤12
 webs:Webs (eventsB dss) f rows
 src:srcB (chcL (eventsB dss)) f=true
 rws:rowsL (eventsB dss) rows=true
 pw:Web (eventsB dss).length (pwL (eventsB dss) f rows)
 pwl:∀i j,i<(eventsB dss).length→line (pwL (eventsB dss) f rows) i j=(line (plcL (eventsB dss)) i j||line (fwL (eventsB dss) f) i j||(line (rwL (eventsB dss) rows) i j||line (agL (eventsB dss) f rows) i j))
 sw:Web (eventsB dss).length (swL dss (eventsB dss) f rows)
 swl:∀i j,i<(eventsB dss).length→line (swL dss (eventsB dss) f rows) i j=(line (kepL dss (eventsB dss)) i j||line (owL (eventsB dss) f) i j||(line (rwL (eventsB dss) rows) i j||line (agL (eventsB dss) f rows) i j))
 xw:Web (eventsB dss).length (xwL (eventsB dss) f rows)
 xwl:∀i j,i<(eventsB dss).length→line (xwL (eventsB dss) f rows) i j=(line (behL (eventsB dss)) i j||line (fwL (eventsB dss) f) i j||(line (rwL (eventsB dss) rows) i j||line (agL (eventsB dss) f rows) i j))
 cls:(clsB (eventsB dss)).length=(eventsB dss).length
theorem told_of {dss:List (List Dd)}{f rows:List Int}(h:taleB dss f rows=true):Told dss f rows:=by
 obtain⟨hb,hs,hr⟩:=tale_use h;have hx:=eventsB_12 dss;have W:=webs_of hx hs hr;have p:=web_four (plc_line hx).1 W.fw W.rw' W.ag;have s:=web_four (kep_line (dss:=dss) hx).1 (ow_line W).1 W.rw' W.ag;have x:=web_four (beh_line hx).1 W.fw W.rw' W.ag;exact⟨hb,hx,W,hs,hr,p.1,p.2,s.1,s.2,x.1,x.2,by unfold clsB;rw[if_pos hx,List.length_map]⟩
theorem beh_is {es:List Ev}{i k:Nat}(hi:i<k)(h:(i<3∧3≤k)∨(3≤i∧(es.getD i zE).1=(es.getD k zE).1)):behP es i k=true:=by
 unfold behP;rcases h with ⟨h1,h2⟩|⟨h1,h2⟩
 · simp[hi,h1,h2]
 · rw[h2];simp[hi,h1]
theorem plc_is {es:List Ev}(hx:es.length≤12){i k:Nat}(hi:i<k)(hk:k<es.length)(h:(i<3∧3≤k)∨(3≤i∧(es.getD i zE).1=(es.getD k zE).1))(hp:(es.getD i zE).2.2.2.1=(es.getD k zE).2.2.2.1):line (plcL es) i k=true:=by
 rw[(plc_line hx).2 i k (by omega)];have h1:behP es i k=true:=beh_is hi h;have h2:plcP es i k=false:=by unfold plcP;rw[hp];simp
 simp[hk,h1,h2]
theorem each_use {dss:List (List Dd)}{f rows:List Int}(h:eachB dss f rows=true){i r k:Nat}(hi:i<(idxB rdE (eventsB dss)).length)(er:(idxB rdE (eventsB dss)).getD i 0=(r:Int))(hk:k<(eventsB dss).length)
  (hw:((eventsB dss).getD k zE).2.2.1=false) (hc:(k<3∧3≤r)∨(3≤k∧3≤r∧((eventsB dss).getD k zE).1=((eventsB dss).getD r zE).1)) (hp:((eventsB dss).getD k zE).2.2.2.1=((eventsB dss).getD r zE).2.2.2.1):
  (r<k→f.getD i 0≠(k:Int))∧(k<r→f.getD i 0≠(k:Int)→line (rwL (eventsB dss) rows) k (f.getD i 0).toNat=true):=by
 obtain⟨ht,hr0⟩:=each_parts h;have T:=told_of ht;obtain⟨sl,su⟩:=src_use T.twelve T.src;have hrn:r<(eventsB dss).length:=by have:=(rd_in T.twelve hi).2;omega
 constructor
 ·
  intro hlt e;refine two_round T.pw hr0 hk (j:=r) ?_ ?_
  · rw[T.pwl k r hk,(T.webs.fwl k r hk).2 ⟨i,hi,e,er⟩];simp
  ·
   have:=plc_is T.twelve hlt hk (.inr (by rcases hc with h|h<;>omega)) hp.symm;rw[T.pwl r k hrn,this];simp
 ·
  intro hlt hne;obtain⟨⟨q1,q2⟩,q3⟩:=su i hi;obtain⟨a,ea⟩:=Int.eq_ofNat_of_zero_le q1;have ha:a<(eventsB dss).length:=by omega
  have hfw:=fr_is T.twelve T.src hi;rw[ea,Int.toNat_natCast] at hfw q3 ⊢;unfold plE at q3;rw[er,Int.toNat_natCast] at q3;rcases row_tot T.twelve T.rws hk ha hw hfw (place_ev T.work hk) (by rw[hp,q3]) (by omega) with h1|h1
  · exact h1
  ·
   exfalso;refine two_round T.pw hr0 hrn (j:=k) ?_ ?_
   ·
    have:line (agL (eventsB dss) f rows) r k=true:=(T.webs.agl r k hrn).2 ⟨i,hi,er,by rw[ea,Int.toNat_natCast];exact h1⟩;rw[T.pwl r k hrn,this];simp
   ·
    have:=plc_is T.twelve hlt hrn (by rcases hc with h|h<;>omega) hp;rw[T.pwl k r hk,this];simp
theorem slow_each {dss:List (List Dd)}{f rows:List Int}(h:slowB dss f rows=true):eachB dss f rows=true:=by
 unfold slowB at h;simp only[Bool.and_eq_true] at h;unfold eachB;rw[h.1,h.2.1];rfl
theorem slow_in {dss:List (List Dd)}{f rows:List Int}(T:Told dss f rows):∀i j,i<(eventsB dss).length→j<(eventsB dss).length→line (swL dss (eventsB dss) f rows) i j=true→line (xwL (eventsB dss) f rows) i j=true:=by
 intro i j hi hj hl;rw[T.swl i j hi] at hl;rw[T.xwl i j hi];simp only[Bool.or_eq_true] at hl ⊢;rcases hl with (h|h)|h
 ·
  refine .inl (.inl ?_);rw[(kep_line T.twelve).2 i j hi] at h;rw[(beh_line T.twelve).2 i j hi];simp only[Bool.and_eq_true] at h ⊢;exact h.1
 ·
  refine .inl (.inr ?_);rw[(ow_line T.webs).2 i j hi,Bool.and_eq_true] at h;exact h.1
 · exact .inr h
theorem strict_slow {dss:List (List Dd)}{f rows:List Int}(h:strictB dss f rows=true):slowB dss f rows=true:=by
 unfold strictB at h;simp only[Bool.and_eq_true,Bool.not_eq_true'] at h;have T:=told_of h.1;unfold slowB;rw[h.1,h.2.1,less_lift T.sw T.xw T.cls (slow_in T) h.2.2];rfl
theorem kept_strict {dss:List (List Dd)}{f rows:List Int}(hk:kepL dss (eventsB dss)=behL (eventsB dss)):slowB dss f rows=strictB dss f rows:=by
 cases hs:strictB dss f rows with
 |true=>exact strict_slow hs
 |false=>
  cases hq:slowB dss f rows with
  |false=>rfl
  |true=>
   exfalso;have he:=slow_each hq;obtain⟨ht,hr0⟩:=each_parts he;have T:=told_of ht;unfold slowB at hq;simp only[Bool.and_eq_true,Bool.not_eq_true'] at hq
   have:roundB (liftL (xwL (eventsB dss) f rows) (clsB (eventsB dss)))=false:=by
    refine less_lift T.xw T.sw T.cls (fun i j hi hj hl=>?_) hq.2.2;rw[T.xwl i j hi] at hl;rw[T.swl i j hi,hk];simp only[Bool.or_eq_true] at hl ⊢;rcases hl with (h|h)|h
    · exact .inl (.inl h)
    ·
     cases ho:owP (eventsB dss) i j with
     |false=>exact .inl (.inr (by rw[(ow_line T.webs).2 i j hi,h,ho];rfl))
     |true=>
      unfold owP at ho;simp only[Bool.and_eq_true,decide_eq_true_eq,beq_iff_eq] at ho;obtain⟨q,hq1,hq2,hq3⟩:=(T.webs.fwl i j hi).1 h;obtain⟨sl,su⟩:=src_use T.twelve T.src;have hw:=fr_is T.twelve T.src hq1;have hp:=(su q hq1).2;have hrd:=rd_is T.twelve hq1;unfold plE at hp;rw[hq2,Int.toNat_natCast] at hw hp;rw[hq3,Int.toNat_natCast] at hp hrd;have hu:=(each_use he hq1 hq3 hi hw (.inr ⟨ho.1.1,ho.1.2,ho.2⟩) hp).1;have hne:i≠j:=fun e=>by rw[e,hrd] at hw;cases hw
      have hlt:i<j:=by
       apply Classical.byContradiction;intro hno;exact hu (by omega) hq2
      refine .inl (.inl ?_);rw[(beh_line T.twelve).2 i j hi];rw[beh_is hlt (.inr ⟨ho.1.1,ho.2⟩)];simp[hj]
    · exact .inr h
   unfold strictB at hs;rw[hq.1,hq.2.1,this] at hs;cases hs
theorem kept_swaps {dss:List (List Dd)}(h:∀j,3≤j→j<(eventsB dss).length→((eventsB dss).getD j zE).2.2.1=false→(dOf dss ((eventsB dss).getD j zE)).1=3):kepL dss (eventsB dss)=behL (eventsB dss):=by
 have hx:=eventsB_12 dss;obtain⟨w1,l1⟩:=kep_line (dss:=dss) hx;obtain⟨w2,l2⟩:=beh_line hx;refine Web.ext w1 w2 (fun i j hi hj=>?_);rw[l1 i j hi,l2 i j hi]
 have:(kepP dss (eventsB dss) i j)=false:=by
  unfold kepP kepQ rdE;by_cases h3:3≤i
  ·
   cases hr:((eventsB dss).getD i zE).2.2.1 with
   |true=>simp
   |false=>
    have:wholeD (dOf dss ((eventsB dss).getD i zE))=true:=by unfold wholeD;rw[h i h3 hi hr];rfl
    rw[this];simp
  · simp[h3]
 rw[this];simp
theorem pwB_len (dss:List (List Dd))(f rows:List Int):(pwB dss f rows).length≤12:=by
 unfold pwB;split
 ·
  rename_i h;have T:=told_of h;rw[T.pw.2.1];exact T.twelve
 · simp
theorem swB_len (dss:List (List Dd))(f rows:List Int):(swB dss f rows).length≤12:=by
 unfold swB;split
 ·
  rename_i h;have T:=told_of h;rw[T.sw.2.1];exact T.twelve
 · simp
theorem xwB_len (dss:List (List Dd))(f rows:List Int):(xwB dss f rows).length≤12:=by
 unfold xwB;split
 ·
  rename_i h;have T:=told_of h;rw[T.xw.2.1];exact T.twelve
 · simp
theorem rd_at {es:List Ev}(hx:es.length≤12){i:Nat}(hi:i<(idxB rdE es).length):(0≤(idxB rdE es).getD i 0∧(idxB rdE es).getD i 0<(es.length:Int))∧(es.getD ((idxB rdE es).getD i 0).toNat zE).2.2.1=true:=by
 refine⟨rd_in hx hi,?_⟩
 have hm:(idxB rdE es).getD i 0∈idxB rdE es:=by
  rw[List.getD_eq_getElem?_getD,List.getElem?_eq_getElem hi];exact List.getElem_mem hi
 unfold idxB at hm ⊢;rw[if_pos hx] at hm ⊢;exact idxK_mem _ _ _ _ hm
theorem beg_wr {dss:List (List Dd)}(hb:workB dss=true){j:Nat}(hj:j<3):((eventsB dss).getD j zE).2.2.1=false:=by
 obtain⟨t,ht⟩:=(evs_good (dss:=dss) (by simp only[workB,Bool.and_eq_true,decide_eq_true_eq] at hb;intro i hi;have:=List.all_eq_true.1 hb.1.1.1.2 _ (List.getElem_mem hi);rw[List.getD_eq_getElem?_getD,List.getElem?_eq_getElem hi];exact this) dss.length (Nat.le_refl _)).1;rw[eventsB,if_pos hb,ht,List.getD_eq_getElem?_getD,List.getElem?_append_left (by simp[evBeg];omega)];have:j=0∨j=1∨j=2:=by omega
 rcases this with rfl|rfl|rfl<;>rfl
def rdI (d:Dd)(i:Nat):Bool:=decide (d.1≠2)&&decide (i=0)
def vlI (d:Dd)(i:Nat):Int:=if rdI d i=true then 0 else d.2.2.1
theorem oneE_at {c k:Nat}{d:Dd}{z:Int}(hd:d.1=1∨d.1=2∨d.1=3∨d.1=4){i:Nat}(hi:i<numD d):(oneE c k d z)[i]? = some ((c:Int),(k:Int),rdI d i,d.2.1,vlI d i,z):=by
 unfold numD at hi;unfold oneE vlI rdI;rcases hd with h|h|h|h
 ·
  rw[if_neg (by omega),if_neg (by omega)] at hi;rw[if_neg (by omega),if_neg (by omega),if_neg (by omega)];obtain rfl:i=0:=by omega
  simp[h]
 ·
  rw[if_neg (by omega),if_neg (by omega)] at hi;rw[if_neg (by omega),if_neg (by omega),if_pos h];obtain rfl:i=0:=by omega
  simp[h]
 ·
  rw[if_neg (by omega),if_pos h] at hi;rw[if_neg (by omega),if_pos h];rcases (by omega:i=0∨i=1) with rfl|rfl
  · simp[h]
  · simp
 ·
  rw[if_pos h] at hi;omega
structure EvIs (dss:List (List Dd))(j c k i:Nat):Prop where
 hc:c<dss.length
 hk:k<(dss.getD c []).length
 hi:i<numD (dAt dss c k)
 hj:j=offN dss c k+i
theorem EvIs.kind {dss:List (List Dd)}{j c k i:Nat}(h:EvIs dss j c k i):(dAt dss c k).1≠4:=by
 intro e;have:=h.hi;unfold numD at this;rw[if_pos e] at this;omega
theorem ev_dec {dss:List (List Dd)}(hb:workB dss=true){j:Nat}(h3:3≤j)(hj:j<(eventsB dss).length):∃c k i,EvIs dss j c k i:=by
 rw[eventsB,if_pos hb] at hj;obtain⟨c,k,i,h1,h2,h4,h5⟩:=es_dec dss h3 dss.length hj;exact⟨c,k,i,h1,h2,h4,h5⟩
theorem EvIs.at {dss:List (List Dd)}(hb:workB dss=true){j c k i:Nat}(h:EvIs dss j c k i):(eventsB dss).getD j zE=((c:Int),(k:Int),rdI (dAt dss c k) i,(dAt dss c k).2.1,vlI (dAt dss c k) i,clsD dss c k):=by
 have hd:=okD_kindE (okC_of hb h.hc k h.hk);rw[eventsB,if_pos hb,List.getD_eq_getElem?_getD,h.hj,es_at h.hc h.hk (oneE_at hd h.hi)];rfl
theorem EvIs.lt {dss:List (List Dd)}(hb:workB dss=true){j c k i:Nat}(h:EvIs dss j c k i):3≤j∧j<(eventsB dss).length:=by
 have hd:=okD_kindE (okC_of hb h.hc k h.hk);have h1:=es_at (n:=dss.length) h.hc h.hk (oneE_at (z:=clsD dss c k) (c:=c) (k:=k) hd h.hi);have h2:=off_three dss c k;rw[eventsB,if_pos hb,h.hj];exact⟨by omega,(List.getElem?_eq_some_iff.1 h1).1⟩
theorem EvIs.ord {dss:List (List Dd)}{j c k i j' c' k' i':Nat}(h:EvIs dss j c k i)(h':EvIs dss j' c' k' i'):j<j'↔c<c'∨(c=c'∧(k<k'∨(k=k'∧i<i'))):=by
 have e1:=h.hj;have e2:=h'.hj;have l1:=h.hi;have l2:=h'.hi;constructor
 ·
  intro hlt;by_cases a:c<c'
  · exact .inl a
  by_cases b:c'<c
  · have:=off_lt (k':=k) h'.hk (.inl b);omega
  obtain rfl:c=c':=by omega
  refine .inr ⟨rfl,?_⟩;by_cases a:k<k'
  · exact .inl a
  by_cases b:k'<k
  · have:=off_lt (c':=c) (k':=k) h'.hk (.inr ⟨rfl,b⟩);omega
  obtain rfl:k=k':=by omega
  exact .inr ⟨rfl,by omega⟩
 ·
  rintro (a|⟨rfl,a|⟨rfl,a⟩⟩)
  · have:=off_lt (k':=k') h.hk (.inl a);omega
  · have:=off_lt (c':=c) (k':=k') h.hk (.inr ⟨rfl,a⟩);omega
  · omega
theorem EvIs.one {dss:List (List Dd)}{j c k i c' k' i':Nat}(h:EvIs dss j c k i)(h':EvIs dss j c' k' i'):c=c'∧k=k'∧i=i':=by
 have a:=h.ord h';have b:=h'.ord h;by_cases hc:c=c'
 ·
  subst hc;by_cases hk:k=k'
  ·
   subst hk;exact⟨rfl,rfl,by have:=h.hj;have:=h'.hj;omega⟩
  ·
   by_cases hlt:k<k'
   · have:=a.2 (.inr ⟨rfl,.inl hlt⟩);omega
   · have:=b.2 (.inr ⟨rfl,.inl (by omega)⟩);omega
 ·
  by_cases hlt:c<c'
  · have:=a.2 (.inl hlt);omega
  · have:=b.2 (.inl (by omega));omega
theorem tog_between {ds:List Dd}(ht:Tog ds){j k:Nat}(hk:k<ds.length)(hg:(ds.getD k zD).2.2.2≠0)(e:(ds.getD j zD).2.2.2=(ds.getD k zD).2.2.2):∀m:Nat,j+m<k→(ds.getD (k-1-m) zD).2.2.2=(ds.getD k zD).2.2.2
 | 0,h=>ht k j hk (by omega) hg e
 |m+1,h=>by
  have ih:=tog_between ht hk hg e m (by omega);have h2:=ht (k-1-m) j (by omega) (by omega) (by rw[ih];exact hg) (by rw[ih];exact e);rw[show k-1-(m+1)=k-1-m-1 by omega,h2,ih]
theorem grp_between {dss:List (List Dd)}(hb:workB dss=true){c j k l:Nat}(hc:c<dss.length)(h1:j≤k)(h2:k≤l)(hl:l<(dss.getD c []).length)(hg:gAt dss c l≠0)(e:gAt dss c j=gAt dss c l):gAt dss c k=gAt dss c l:=by
 by_cases a:k=l
 · rw[a]
 by_cases b:k=j
 · rw[b];exact e
 have:=tog_between (work_tog hb c hc) hl hg e (l-1-k) (by omega);rw[show l-1-(l-1-k)=k by omega] at this;exact this
theorem cls_mono {dss:List (List Dd)}(hb:workB dss=true){c c' k k':Nat}(hc:c<dss.length)(hc':c'<dss.length)(hk:k<(dss.getD c []).length)(hk':k'<(dss.getD c' []).length)(h4:(dAt dss c k).1≠4)(h4':(dAt dss c' k').1≠4)
  (h:c<c'∨(c=c'∧k≤k')):clsD dss c k≤clsD dss c' k':=by
 have hok:=okC_of hb hc;have hok':=okC_of hb hc'
 obtain⟨j,j1,e1⟩:∃j,j≤k∧clsD dss c k=(offN dss c j:Int):=by
  rcases cls_at hok hk h4 with ⟨_,e⟩|⟨_,j,j1,_,_,e⟩
  · exact⟨k,Nat.le_refl _,e⟩
  · exact⟨j,j1,e⟩
 have hjk:=off_le dss c j1;rcases h with h|⟨rfl,h⟩
 ·
  have hle:∀j',offN dss c k≤offN dss c' j':=fun j'=>by have:=off_lt (k':=j') hk (.inl h);omega
  rcases cls_at hok' hk' h4' with ⟨_,e2⟩|⟨_,j',l1,_,_,e2⟩
  · have:=hle k';omega
  · have:=hle j';omega
 ·
  rcases cls_at hok' hk' h4' with ⟨_,e2⟩|⟨g2,j',l1,l2,l3,e2⟩
  · have:=off_le dss c h;omega
  ·
   by_cases a:k≤j'
   · have:=off_le dss c a;omega
   ·
    have hg:gAt dss c k=gAt dss c k':=grp_between hb hc (by omega) h hk' g2 l2;have:=(cls_iff hok hok' hk hk' h4 h4').2 ⟨rfl,.inr ⟨by rw[hg];exact g2,hg⟩⟩;omega
theorem beg_ck {dss:List (List Dd)}(hb:workB dss=true){j:Nat}(hj:j<3):((eventsB dss).getD j zE).1=-1:=by
 obtain⟨t,ht⟩:=(evs_good (dss:=dss) (by simp only[workB,Bool.and_eq_true,decide_eq_true_eq] at hb;intro i hi;have:=List.all_eq_true.1 hb.1.1.1.2 _ (List.getElem_mem hi);rw[List.getD_eq_getElem?_getD,List.getElem?_eq_getElem hi];exact this) dss.length (Nat.le_refl _)).1;rw[eventsB,if_pos hb,ht,List.getD_eq_getElem?_getD,List.getElem?_append_left (by simp[evBeg];omega)];have:j=0∨j=1∨j=2:=by omega
 rcases this with rfl|rfl|rfl<;>rfl
theorem ow_cell {dss:List (List Dd)}{f:List Int}(h:sourceB dss f=true):(owB dss f).length=(eventsB dss).length∧(fwB dss f).length=(eventsB dss).length ∧
  ∀i k:Nat,i<(eventsB dss).length→k<(eventsB dss).length→inSetB ((owB dss f).getD i 0) (k:Int)=(inSetB ((fwB dss f).getD i 0) (k:Int)&&(decide (i<3)||(((eventsB dss).getD i zE).1 != ((eventsB dss).getD k zE).1))):=by
 have hbs:=h;rw[sourceB,Bool.and_eq_true] at hbs;obtain⟨hb,hs⟩:=hbs;have hx:=eventsB_12 dss;obtain⟨sl,su⟩:=src_use hx hs;have wf:=fw_line (f:=f) hx (idxB rdE (eventsB dss)).length (fun i hi=>rd_in hx hi) (fun i hi=>(su i hi).1);have wo:=web_offAll (p:=owP (eventsB dss)) (st:=fwL (eventsB dss) f) wf.1 (eventsB dss).length (Nat.le_refl _);have eo:owB dss f=owL (eventsB dss) f:=by rw[owB,if_pos h]
 have ef:fwB dss f=fwL (eventsB dss) f:=by rw[fwB,if_pos h]
 refine⟨by rw[eo];exact wo.1.2.1,by rw[ef];exact wf.1.2.1,fun i k hi hk=>?_⟩;rw[eo,ef];have h1:=wo.2 i k hi
 have e1:line (owL (eventsB dss) f) i k=(line (fwL (eventsB dss) f) i k&&!owP (eventsB dss) i k):=by
  unfold owL;rw[h1];simp[hi,hk]
 unfold line at e1;rw[e1]
 congr 1
 unfold owP;by_cases h3:i<3
 · simp[h3,show ¬ 3≤i by omega]
 ·
  by_cases k3:k<3
  ·
   have a:=beg_ck hb k3;obtain⟨c,q,m,E⟩:=ev_dec hb (show 3≤i by omega) hi;have b:=E.at hb;rw[a,b];have:((c:Int) != -1)=true:=by simp
   simp[h3,this,show ¬ 3≤k by omega]
  · simp[h3,show 3≤i by omega,show 3≤k by omega,bne]
theorem owB_len (dss:List (List Dd))(f:List Int):(owB dss f).length≤12:=by
 cases h:sourceB dss f with
 |true=>rw[(ow_cell h).1];exact eventsB_12 dss
 |false=>rw[owB,h];simp
theorem slow_form {dss:List (List Dd)}{f rows:List Int}(h:taleB dss f rows=true):slowB dss f rows=(eachB dss f rows&&!roundB (liftL (swB dss f rows) (clsB (eventsB dss)))):=by
 unfold slowB eachB swB;rw[h,if_pos rfl];rfl
def linI (i:Nat)(l:List Int):List (Int×Int):=l.map (fun j=>((i:Int),j))
def linK (zs:List Int):Nat→List (Int×Int)
 | 0=>[]
 |k+1=>linK zs k++linI k (mem (zs.getD k 0) 12)
def linL (zs:List Int):List (Int×Int):=linK zs zs.length
def othP (es:List Ev)(x:Int×Int):Bool:=(es.getD x.1.toNat zE).1 != (es.getD x.2.toNat zE).1
def othL (es:List Ev)(zs:List Int):List (Int×Int):=(linL zs).filter (othP es)
def drwK (n:Nat)(l:List (Int×Int))(k:Nat):List Int:=fwK n (l.map (·.2)) (l.map (·.1)) k
theorem lin_iff (zs:List Int)(x:Int×Int):∀k:Nat,x∈linK zs k↔∃a j:Nat,a<k∧j<12∧x=((a:Int),(j:Int))∧line zs a j=true
 | 0=>by simp[linK]
 |k+1=>by
  rw[linK,List.mem_append,lin_iff zs x k,linI,List.mem_map];constructor
  ·
   rintro (⟨a,j,ha,hj,hx,hl⟩|⟨j,hj,rfl⟩)
   · exact⟨a,j,by omega,hj,hx,hl⟩
   ·
    obtain⟨m,hm,rfl,hi⟩:=(mem_iff _ _ _).1 hj;exact⟨k,m,by omega,hm,rfl,hi⟩
  ·
   rintro⟨a,j,ha,hj,rfl,hl⟩;by_cases e:a=k
   ·
    subst e;exact .inr ⟨j,(mem_iff _ _ _).2 ⟨j,hj,rfl,hl⟩,rfl⟩
   · exact .inl ⟨a,j,by omega,hj,rfl,hl⟩
theorem lin_len (zs:List Int):∀k:Nat,(linK zs k).length≤k*12
 | 0=>by simp[linK]
 |k+1=>by
  have:=lin_len zs k;have h2:=mem_len (zs.getD k 0) 12;rw[linK,List.length_append,linI,List.length_map,Nat.add_mul];omega
theorem pr_get (l:List (Int×Int))(i:Nat)(hi:i<l.length):((l.map (·.1)).getD i 0,(l.map (·.2)).getD i 0)=l[i]:=by
 rw[List.getD_eq_getElem?_getD,List.getD_eq_getElem?_getD,List.getElem?_map,List.getElem?_map,List.getElem?_eq_getElem hi];rfl
theorem lin_in {n:Nat}{zs:List Int}(hz:Web n zs){x:Int×Int}(h:x∈linL zs):∃a j:Nat,x=((a:Int),(j:Int))∧a<n∧j<n∧line zs a j=true:=by
 unfold linL at h;rw[hz.2.1] at h;obtain⟨a,j,ha,-,rfl,hl⟩:=(lin_iff zs x n).1 h;exact⟨a,j,rfl,ha,hz.lt ha hl,hl⟩
theorem drw_web {n:Nat}{zs:List Int}(hz:Web n zs){l:List (Int×Int)}(hl:∀x∈l,x∈linL zs):∀k:Nat,k≤l.length →
  Web n (drwK n l k)∧∀a j:Nat,a<n→(line (drwK n l k) a j=true↔((a:Int),(j:Int))∈l.take k):=by
 intro k hk
 have hb:∀i,i<k→∃a j:Nat,(l.map (·.1)).getD i 0=(a:Int)∧(l.map (·.2)).getD i 0=(j:Int)∧a<n∧j<n:=by
  intro i hi;have e:=pr_get l i (by omega);obtain⟨a,j,hx,ha,hj,-⟩:=lin_in hz (hl _ (List.getElem_mem (show i<l.length by omega)));rw[hx] at e;exact⟨a,j,congrArg Prod.fst e,congrArg Prod.snd e,ha,hj⟩
 have F:=fw_line (n:=n) (rs:=l.map (·.2)) (f:=l.map (·.1)) hz.1 k
  (fun i hi=>by obtain⟨a,j,h1,h2,h3,h4⟩:=hb i hi;rw[h2];omega)
  (fun i hi=>by obtain⟨a,j,h1,h2,h3,h4⟩:=hb i hi;rw[h1];omega)
 refine⟨F.1,fun a j ha=>?_⟩;rw[drwK,F.2 a j ha];constructor
 ·
  rintro⟨i,hi,h1,h2⟩;have e:=pr_get l i (by omega);rw[h1,h2] at e;rw[e];exact List.mem_take_iff_getElem.2 ⟨i,by omega,rfl⟩
 ·
  intro h;obtain⟨i,hi,e⟩:=List.mem_take_iff_getElem.1 h;have e2:=pr_get l i (by omega);rw[e] at e2;exact⟨i,by omega,congrArg Prod.fst e2,congrArg Prod.snd e2⟩
theorem oth_sub (es:List Ev)(zs:List Int):∀x∈othL es zs,x∈linL zs:=fun _ h=>(List.mem_filter.1 h).1
theorem fo_same {dss:List (List Dd)}{f:List Int}(h:sourceB dss f=true):drwK (eventsB dss).length (othL (eventsB dss) (fwB dss f)) (othL (eventsB dss) (fwB dss f)).length=owB dss f:=by
 have hbs:=h;rw[sourceB,Bool.and_eq_true] at hbs;obtain⟨hb,hs⟩:=hbs;have hx:=eventsB_12 dss;obtain⟨sl,su⟩:=src_use hx hs;have wf:=fw_line (f:=f) hx (idxB rdE (eventsB dss)).length (fun i hi=>rd_in hx hi) (fun i hi=>(su i hi).1);have wo:=web_offAll (p:=owP (eventsB dss)) (st:=fwL (eventsB dss) f) wf.1 (eventsB dss).length (Nat.le_refl _);have eo:owB dss f=owL (eventsB dss) f:=by rw[owB,if_pos h]
 have ef:fwB dss f=fwL (eventsB dss) f:=by rw[fwB,if_pos h]
 have OC:=(ow_cell h).2.2;have WF:Web (eventsB dss).length (fwB dss f):=by rw[ef];exact wf.1
 have WO:Web (eventsB dss).length (owB dss f):=by rw[eo];exact wo.1
 have WD:=drw_web WF (oth_sub (eventsB dss) (fwB dss f)) _ (Nat.le_refl _);refine Web.ext WD.1 WO (fun i j hi hj=>?_);rw[Bool.eq_iff_iff,WD.2 i j hi,List.take_length];unfold line;rw[OC i j hi hj,othL,List.mem_filter];unfold linL;rw[WF.2.1,lin_iff]
 have e1:(∃a m:Nat,a<(eventsB dss).length∧m<12∧((i:Int),(j:Int))=((a:Int),(m:Int))∧line (fwB dss f) a m=true)↔inSetB ((fwB dss f).getD i 0) (j:Int)=true:=by
  constructor
  ·
   rintro⟨a,m,_,_,e,hl⟩;have e1:=congrArg Prod.fst e;have e2:=congrArg Prod.snd e;simp only at e1 e2;obtain rfl:i=a:=by omega
   obtain rfl:j=m:=by omega
   exact hl
  ·
   intro hl;exact⟨i,j,hi,by omega,rfl,hl⟩
 rw[e1,Bool.and_eq_true];refine and_congr_right (fun hl=>?_)
 have hr:((eventsB dss).getD j zE).2.2.1=true:=by
  rw[ef] at hl;obtain⟨k,hk,-,h2⟩:=(wf.2 i j hi).1 hl;have:=(rd_at hx hk).2;rw[h2] at this;exact this
 have j3:3≤j:=by
  by_cases h3:j<3
  · rw[beg_wr hb h3] at hr;cases hr
  · omega
 unfold othP;dsimp only;rw[Int.toNat_natCast,Int.toNat_natCast];by_cases i3:i<3
 ·
  have a:=beg_ck hb i3;obtain⟨c,q,m,E⟩:=ev_dec hb j3 hj;have b:=E.at hb;rw[a,b];simp[i3]
 · simp[i3]
theorem fo_none {dss:List (List Dd)}{f:List Int}(h:sourceB dss f=false):fwB dss f=[]∧owB dss f=[]:=by
 rw[fwB,owB,h];exact⟨rfl,rfl⟩
def RdL (w:World)(v:Value)(zss:List (List Int)):Prop:=
 ∃(a:Option Addr) (cap:Nat),v = .slice a zss.length cap ∧
  (zss=[]∨∃b off,a=some ⟨b,off,none⟩∧b<w.heap.size∧∀i,i<zss.length→∃vi,w.cell? ⟨b,off+i,none⟩=some vi∧Rd w vi (zss.getD i []))
theorem RdL.keep {w w':World}{v:Value}{zss:List (List Int)}(h:RdL w v zss)(k:Keep w w'):RdL w' v zss:=by
 obtain⟨a,cap,hv,h⟩:=h;refine⟨a,cap,hv,?_⟩;rcases h with h|⟨b,off,ha,hb,hc⟩
 · exact .inl h
 ·
  refine .inr ⟨b,off,ha,Nat.lt_of_lt_of_le hb k.size,fun i hi=>?_⟩;obtain⟨vi,h1,h2⟩:=hc i hi;exact⟨vi,(k.cell hb).trans h1,h2.keep k⟩
theorem Rd.keptR {w w':World}{v:Value}{zs:List Int}{row:Option Nat}(h:Rd w v zs)(hg:w.grownBy w' row)(hne:v.ownBlock=none∨v.ownBlock≠row):Rd w' v zs:=by
 obtain⟨a,cap,rfl,h⟩:=h;refine⟨a,cap,rfl,?_⟩;rcases h with h|⟨b,off,rfl,hb,hc⟩
 · exact .inl h
 ·
  refine .inr ⟨b,off,rfl,Nat.lt_of_lt_of_le hb hg.size,fun i hi=>?_⟩;rw[World.cell?_of_block (w:=w) (hg.block b hb (fun e=>by rcases hne with h|h<;>simp[Value.ownBlock] at h;exact h e))];exact hc i hi
def capZ:Value→Nat
 | .slice _ _ c=>c
 |_=>0
theorem Own.capz {w:World}{base:Nat}{v:Value}{zs:List Int}(h:Own w base v zs):zs.length≤capZ v:=by
 rcases h.2 with ⟨rfl,hz⟩|⟨g,cap,cur,rfl,hb,hg,hc,_⟩
 · rw[hz];exact Nat.zero_le _
 · exact hc
structure Beside (w:World)(x u:Value)(zs:List Int):Prop where
 rd:Rd w u zs
 ne:u.ownBlock=none∨u.ownBlock≠x.ownBlock
 lt:∀k,u.ownBlock=some k→k<w.heap.size
 cap:zs.length≤capZ u
theorem Beside.keep {w w':World}{x u:Value}{zs:List Int}(h:Beside w x u zs)(k:Keep w w'):Beside w' x u zs:=
 ⟨h.rd.keep k,h.ne,fun j hj=>Nat.lt_of_lt_of_le (h.lt j hj) k.size,h.cap⟩
theorem Beside.grow {w w':World}{x x' u:Value}{zs:List Int}(h:Beside w x u zs)(hg:w.grownBy w' x.ownBlock)(hb:x'.ownBlock=x.ownBlock∨x'.ownBlock=some w.heap.size):Beside w' x' u zs:=by
 refine⟨h.rd.keptR hg h.ne,?_,fun j hj=>Nat.lt_of_lt_of_le (h.lt j hj) hg.size,h.cap⟩;rcases hb with hb|hb
 · rw[hb];exact h.ne
 ·
  cases hu:u.ownBlock with
  |none=>exact .inl rfl
  |some k=>exact .inr (fun e=>by rw[hb] at e;have:=h.lt k hu;have:=Option.some.inj e;omega)
theorem Own.beside {w':World}{x u:Value}{zs:List Int}{base:Nat}(h:Own w' base u zs)(hx:∀k,x.ownBlock=some k→k<base):Beside w' x u zs:=
 ⟨h.rd,by
  cases hu:u.ownBlock with
  |none=>exact .inl rfl
  |some k=>exact .inr (fun e=>by have:=hx k e.symm;have:=h.ge k hu;omega),fun k hk=>(World.ownsRow.lt h k hk).2,h.capz⟩
structure AppL (w:World)(base:Nat)(x:Value)(vs:List Value)(zss:List (List Int)):Prop where
 row:w.ownsRow base 25 1 x zss.length vs
 each:∀i u,vs[i]? = some u→Beside w x u (zss.getD i [])
theorem AppL.keep {w w':World}{base:Nat}{x:Value}{vs:List Value}{zss:List (List Int)}(h:AppL w base x vs zss)(k:Keep w w'):AppL w' base x vs zss:=
 ⟨World.ownsRow.kept h.row k.grownBy (by cases x.ownBlock<;>simp),fun i u hu=>(h.each i u hu).keep k⟩
theorem AppL.lt {w:World}{base:Nat}{x:Value}{vs:List Value}{zss:List (List Int)}(h:AppL w base x vs zss):∀k,x.ownBlock=some k→base≤k∧k<w.heap.size:=World.ownsRow.lt h.row
theorem AppL.rd {w:World}{base:Nat}{x:Value}{vs:List Value}{zss:List (List Int)}(h:AppL w base x vs zss):RdL w x zss:=by
 have hl:=h.row.1;have hlt:=h.lt;have h2:=h.row;rcases h.row.2 with ⟨rfl,hz⟩|⟨g,cap,cur,rfl,hb,hg,_⟩
 · exact⟨none,0,by rw[hz],.inl (List.eq_nil_of_length_eq_zero hz)⟩
 ·
  refine⟨_,_,rfl,.inr ⟨g,0,rfl,(hlt g rfl).2,fun i hi=>?_⟩⟩;have hi':i<vs.length:=by omega
  refine⟨vs[i],?_,(h.each i _ (List.getElem?_eq_getElem hi')).rd⟩;rw[Nat.zero_add,World.ownsRow.cellAt h2 i (by omega),List.getElem?_eq_getElem hi']
def RdLC (w:World)(v:Value)(zss:List (List Int)):Prop:=
 ∃(a:Option Addr) (cap:Nat),v = .slice a zss.length cap ∧
  (zss=[]∨∃b off,a=some ⟨b,off,none⟩∧b<w.heap.size∧∀i,i<zss.length→∃vi,w.cell? ⟨b,off+i,none⟩=some vi∧Rd w vi (zss.getD i [])∧(zss.getD i []).length≤capZ vi)
theorem RdLC.rd {w:World}{v:Value}{zss:List (List Int)}(h:RdLC w v zss):RdL w v zss:=by
 obtain⟨a,cap,hv,h⟩:=h;refine⟨a,cap,hv,?_⟩;rcases h with h|⟨b,off,ha,hb,hc⟩
 · exact .inl h
 ·
  refine .inr ⟨b,off,ha,hb,fun i hi=>?_⟩;obtain⟨vi,h1,h2,_⟩:=hc i hi;exact⟨vi,h1,h2⟩
theorem AppL.rdc {w:World}{base:Nat}{x:Value}{vs:List Value}{zss:List (List Int)}(h:AppL w base x vs zss):RdLC w x zss:=by
 have hl:=h.row.1;have hlt:=h.lt;have h2:=h.row;rcases h.row.2 with ⟨rfl,hz⟩|⟨g,cap,cur,rfl,hb,hg,_⟩
 · exact⟨none,0,by rw[hz],.inl (List.eq_nil_of_length_eq_zero hz)⟩
 ·
  refine⟨_,_,rfl,.inr ⟨g,0,rfl,(hlt g rfl).2,fun i hi=>?_⟩⟩;have hi':i<vs.length:=by omega
  have hE:=h.each i _ (List.getElem?_eq_getElem hi');refine⟨vs[i],?_,hE.rd,hE.cap⟩;rw[Nat.zero_add,World.ownsRow.cellAt h2 i (by omega),List.getElem?_eq_getElem hi']
theorem appL_empty (w:World):AppL (w.alloc (.cells #[] 25)) w.heap.size (.slice (some ⟨w.heap.size,0,none⟩) 0 0) [] []:=
 ⟨World.ownsRow_lit w #[] 0 (Nat.le_refl _) (by decide) (by simp),by simp⟩
theorem AppL.push {w w':World}{base:Nat}{x x' u:Value}{vs:List Value}{zss:List (List Int)}{zs:List Int}(h:AppL w base x vs zss)(hu:Beside w x u zs)
  (ho:w'.ownsRow base 25 1 x' (zss.length+1) (vs++[u])) (hg:w.grownBy w' x.ownBlock) (hb:x'.ownBlock=x.ownBlock∨x'.ownBlock=some w.heap.size):AppL w' base x' (vs++[u]) (zss++[zs]):=by
 have hl:=h.row.1;refine⟨by rw[List.length_append];exact ho,fun i y hy=>?_⟩;by_cases hi:i<vs.length
 ·
  rw[List.getElem?_append_left hi] at hy;have:=(h.each i y hy).grow hg hb;rw[List.getD_eq_getElem?_getD,List.getElem?_append_left (by omega),←List.getD_eq_getElem?_getD];exact this
 ·
  have hi2:i=vs.length:=by
   have:=(List.getElem?_eq_some_iff.1 hy).1;simp at this;omega
  subst hi2;rw[List.getElem?_append_right (Nat.le_refl _),Nat.sub_self] at hy;simp only[List.getElem?_cons_zero,Option.some.injEq] at hy;subst hy;rw[List.getD_eq_getElem?_getD,List.getElem?_append_right (by omega),show vs.length-zss.length=0 by omega];exact hu.grow hg hb
theorem Tryz.infoL:(Tryz.prog.info? 25).map (fun i=>(i.zero,i.size,i.bytes))=some (some (.slice none 0 0),1,24):=by kernel_rfl
structure But (C:Nat→Prop)(w w':World):Prop where
 os:w'.os=w.os
 tape:w'.tape=w.tape
 output:w'.output=w.output
 size:w.heap.size≤w'.heap.size
 block:∀k,k<w.heap.size→¬C k→w'.heap[k]? = w.heap[k]?
theorem But.refl (C:Nat→Prop)(w:World):But C w w:=⟨rfl,rfl,rfl,Nat.le_refl _,fun _ _ _=>rfl⟩
theorem But.trans {C:Nat→Prop}{a b c:World}(h:But C a b)(k:But C b c):But C a c:=
 ⟨k.os.trans h.os,k.tape.trans h.tape,k.output.trans h.output,Nat.le_trans h.size k.size,fun i hi hn=>(k.block i (Nat.lt_of_lt_of_le hi h.size) hn).trans (h.block i hi hn)⟩
theorem But.mono {C C':Nat→Prop}{a b:World}(h:But C a b)(hc:∀k,k<a.heap.size→C k→C' k):But C' a b:=
 ⟨h.os,h.tape,h.output,h.size,fun i hi hn=>h.block i hi (fun e=>hn (hc i hi e))⟩
theorem But.of_below {C:Nat→Prop}{a b:World}(h:Below a.heap.size a b):But C a b:=⟨h.os,h.tape,h.output,h.size,fun i hi _=>h.block i hi⟩
theorem But.of_grown {C:Nat→Prop}{a b:World}{row:Option Nat}(h:a.grownBy b row)(hr:∀k,row=some k→C k):But C a b:=
 ⟨h.os,h.tape,h.output,h.size,fun i hi hn=>h.block i hi (fun e=>hn (hr i e.symm))⟩
theorem But.alloc {C:Nat→Prop}{a b:World}(h:But C a b)(o:Obj):But C a (b.alloc o):=h.trans (But.of_grown (World.grownBy_alloc b o none) (by simp))
theorem But.put {C:Nat→Prop}{a b:World}(h:But C a b){l:Nat}(hl:C l)(o:Obj):But C a (b.putObj l o):=h.trans (But.of_grown (grownBy_putObj' b l o) (fun k e=>by cases e;exact hl))
theorem But.setCell {C:Nat→Prop}{a b:World}(h:But C a b){l:Nat}(hl:C l)(o:Nat)(v:Value):But C a (b.setCell ⟨l,o,none⟩ v):=
 h.trans ⟨rfl,rfl,rfl,by simp[World.setCell],fun k _ hn=>Below.heap_setCell _ _ _ _ (fun e=>hn (by rw[e];exact hl))⟩
theorem But.drew {C:Nat→Prop}{a b:World}(h:But C a b):But C a b.drew:=h.trans ⟨rfl,rfl,rfl,Nat.le_refl _,fun _ _ _=>rfl⟩
def NC (s:Nat)(A:World)(b:Nat):Prop:=s≤b∧∃o:Obj,A.heap[b]? = some o∧o.isCells=false
end Go.Proofs.YtgikcfdckddgpaaGreat
