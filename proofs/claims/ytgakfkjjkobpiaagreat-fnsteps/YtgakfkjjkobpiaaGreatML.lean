/- Gathered texts. -/
import Derived.OwnWalk
import Derived.Deep.QuietTactic
import Derived.BigQuiet
import Derived.Deep.Cut
import Derived.BigRegion
import Derived.Lib.Hide
import Derived.Deep.CutRange
import Derived.Test.YtgakfkjjkobpiaaGreatMK
import Derived.Deep.RegionHeld3
import Derived.Deep.AppendLies
set_option maxRecDepth 100000
set_option maxHeartbeats 8000000
namespace Go.Proofs.YtgakfkjjkobpiaaGreat
open Go.ChangeShapes Go.WideShapes Go.ChangeAt Go.RowKit
theorem Oj (w:World)(v:Value)(es:List Ev)(c k:Nat)(h:Xl w v es)(hl:es.length<=12):
  Calls Tryz.prog 114 #[v,.int .i64 c,.int .i64 k] w fun e w'=>e = .returned (.int .i64 (JB es c k))/\AC w w':=by
 obtain⟨a,cp,rfl,h⟩:=h;go_enter Tryz.func114,Tryz.ntmps114
 go_wp2;go_loopw [7] (fun i wr=>∃q:Nat,3<=q/\(q<=es.length\/q=3)/\i = .int .i64 q/\Hid (∀j,3<=j->j<q->U2 es c k j=false)/\AC w wr) (fun i _=>es.length-(intOf i).toNat)
 case atStart=>exact⟨3,Nat.le_refl _,.inr rfl,rfl,Lib.hid (fun j h1 h2=>by omega),AC.refl _⟩
 case round=>
  obtain⟨q,h3,hq,rfl,HN,hK⟩:=hrel;by_cases hlt:q<es.length
  ·
   rcases h with h0|⟨b,off,rfl,hb,hc⟩
   . exfalso;rw[h0] at hlt;simp at hlt
   have AT:=(hc q _ (Ko hlt)).keep hb hK;have HY:U2 es c k q=true->Hid (JB es c k=(q:Int)):=fun e=>Lib.hid (Yk h3 hlt HN.out e)
   have HX:U2 es c k q=false->Hid (∀j,3<=j->j<q+1->U2 es c k j=false):=fun e=>Lib.hid (fun j h1 h2=>by
    by_cases ej:j=q
    . subst ej;exact e
    . exact HN.out j h1 (by omega))
   unfold U2 at HY;have HX:(((es.getD q zE).1==(c:Int))&&((es.getD q zE).2.1==(k:Int)))=false->Hid (∀j,3<=j->j<q+1->U2 es c k j=false):=HX;generalize es.getD q zE=y at AT HY HX;obtain⟨y0,y1,y2,y3,y4,y5⟩:=y;obtain⟨q0,q1,-,-,-,-⟩:=ig AT;simp only at HY HX q0 q1;have i1:(0:Int)<=(q:Int):=Int.natCast_nonneg _;have i2:(q:Int)<(es.length:Int):=by omega
   clear hc AT HN;cases e0:(y0==(c:Int))
   ·
    have HE:=HX (by rw[e0];rfl);clear HX HY;go_wp2;go_roundw;case rel=>exact⟨q+1,by omega,.inl (by omega),by go_num,HE,hK⟩
    case measure=>simp[intOf];omega
   ·
    cases e1:(y1==(k:Int))
    ·
     have HE:=HX (by rw[e0,e1];rfl);clear HX HY;go_wp2;go_roundw;case rel=>exact⟨q+1,by omega,.inl (by omega),by go_num,HE,hK⟩
     case measure=>simp[intOf];omega
    ·
     have HE:=HY (by rw[e0,e1];rfl);clear HX HY;go_wp2;go_ret;exact⟨by rw[HE.out];rfl,hK⟩
  ·
   have HE:Hid (JB es c k=-1):=Lib.hid (V0 (fun j h1 h2=>HN.out j h1 (by omega)));have i2:¬((q:Int)<(es.length:Int)):=by omega
   clear HN;go_wp2;go_ret;exact⟨by rw[HE.out];rfl,hK⟩
theorem W8 {ns:List Nt}{p:Int}{j:Nat}(hj:j<ns.length)(hno:∀q,j<q->q<ns.length->(ns.getD q (0,0,0)).1≠p)(he:(ns.getD j (0,0,0)).1=p):ns.reverse.find? (fun x=>x.1==p)=some (ns.getD j (0,0,0)):=by
 have e:ns=ns.take j++(ns.getD j (0,0,0)::ns.drop (j+1)):=by
  rw[List.getD_eq_getElem?_getD,List.getElem?_eq_getElem hj];show ns=ns.take j++ns[j]::ns.drop (j+1);rw[<-List.drop_eq_getElem_cons hj,List.take_append_drop]
 have hd:(ns.drop (j+1)).reverse.find? (fun x=>x.1==p)=none:=by
  rw[List.find?_eq_none];intro x hx;rw[List.mem_reverse] at hx;obtain⟨i,hi,ei⟩:=List.getElem_of_mem hx;rw[List.length_drop] at hi;have:=hno (j+1+i) (by omega) (by omega);rw[List.getElem_drop] at ei;rw[List.getD_eq_getElem?_getD,List.getElem?_eq_getElem (by omega)] at this;simp only[Option.getD_some] at this;rw[ei] at this
  simpa using this
 conv=>lhs;rw[e]
 rw[List.reverse_append,List.reverse_cons,List.append_assoc,List.find?_append,hd];generalize ns.getD j (0,0,0)=y at he ⊢;have hy:(y.1==p)=true:=by simp[he]
 simp[hy]
theorem W9 {ns:List Nt}{p:Int}(hno:∀q,q<ns.length->(ns.getD q (0,0,0)).1≠p):ns.reverse.find? (fun x=>x.1==p)=none:=by
 rw[List.find?_eq_none];intro x hx;rw[List.mem_reverse] at hx;obtain⟨i,hi,ei⟩:=List.getElem_of_mem hx;have:=hno i hi;rw[List.getD_eq_getElem?_getD,List.getElem?_eq_getElem hi] at this;simp only[Option.getD_some] at this;rw[ei] at this
 simpa using this
theorem L7 (w:World)(v:BV)(AA:List (List Dd))(b:Bd)(c p:Nat)(h:CJ w v AA b)(hc:c<b.AH.length)(hp:p<b.AM.length)(hq:p<b.AQ.length)(hn:(b.AH.getD c []).length<=1048576):
  Calls Tryz.prog 59 #[v.agg,.int .i64 c,.int .i64 p] w fun e w'=>e = .returned (.tuple #[.int .i64 (C3 b c p).1,.int .i64 (C3 b c p).2])/\AC w w':=by
 obtain⟨aW,aP,aL,aN,aX,aS,aF,aR,cW,cP,cL,cN,cX,cS,cF,cR,rfl⟩:=h.shapes;have KW:AC w (w.alloc (.cells #[.slice aW AA.length cW,.slice aP b.AM.length cP,.slice aL b.AQ.length cL,.slice aN b.AH.length cN,.slice aX b.AL.length cX,.slice aS b.sn.length cS,.slice aF b.fr.length cF,.slice aR b.rws.length cR] 30)):=(AC.refl w).alloc _;have h':=h.keep KW;obtain⟨a',c',he',hN⟩:=h'.N;simp only[Value.slice.injEq,true_and] at he';obtain⟨rfl,rfl⟩:=he';rcases hN with h0|⟨bn,on,rfl,hbn,hcn⟩
 . exfalso;rw[h0] at hc;simp at hc
 obtain⟨a',c',he',hP⟩:=h'.P;simp only[Value.slice.injEq,true_and] at he';obtain⟨rfl,rfl⟩:=he';rcases hP with h0|⟨bp,op,rfl,hbp,hcp⟩
 . exfalso;rw[h0] at hp;simp at hp
 obtain⟨a',c',he',hL⟩:=h'.L;simp only[Value.slice.injEq,true_and] at he';obtain⟨rfl,rfl⟩:=he';rcases hL with h0|⟨bl,ol,rfl,hbl,hcl⟩
 . exfalso;rw[h0] at hq;simp at hq
 obtain⟨vn,d3,r3⟩:=hcn c hc;have d1:=hcp p hp;have d2:=hcl p hq;have HS:Hid (∀x,(b.AH.getD c []).reverse.find? (fun x=>x.1==(p:Int))=some x->C3 b c p=x.2):=Lib.hid (fun x e=>by unfold C3;rw[e]);have HZ:Hid ((b.AH.getD c []).reverse.find? (fun x=>x.1==(p:Int))=none->C3 b c p=(b.AM.getD p 0,b.AQ.getD p 0)):=Lib.hid (fun e=>by unfold C3;rw[e]);obtain⟨an,cn,rfl,r3⟩:=r3;generalize b.AH.getD c []=ns at *;generalize b.AM.getD p 0=xp at d1 HZ;generalize b.AQ.getD p 0=xl at d2 HZ;generalize C3 b c p=ANS at HS HZ ⊢;have j1:(0:Int)<=(c:Int):=Int.natCast_nonneg _;have j2:(c:Int)<(b.AH.length:Int):=by omega
 have j3:(0:Int)<=(p:Int):=Int.natCast_nonneg _;have j4:(p:Int)<(b.AM.length:Int):=by omega
 have j5:(p:Int)<(b.AQ.length:Int):=by omega
 have i0:IntKind.i64.wrap ((ns.length:Int)-1)=(ns.length:Int)-1:=by rw[IntKind.wrap_i64];omega
 clear hcn hcp hcl h h';go_enter Tryz.func59,Tryz.ntmps59
 go_wp2;go_loop [9] (fun i=>∃j:Nat,j<=ns.length/\i = .int .i64 ((j:Int)-1)/\Hid (∀q,j<=q->q<ns.length->(ns.getD q (0,0,0)).1≠(p:Int))) (fun i=>(intOf i+1).toNat)
 case atStart=>exact⟨ns.length,Nat.le_refl _,rfl,Lib.hid (fun q h1 h2=>by omega)⟩
 case round=>
  obtain⟨j,hj,rfl,hno⟩:=hrel
  cases j with
  |zero=>
   have HE:Hid (ANS=(xp,xl)):=Lib.hid (HZ.out (W9 (fun q hq=>hno.out q (Nat.zero_le _) hq)));go_wp2;go_quiet (fail)
   go_wp2;go_ret2
   exact⟨by rw[HE.out];rfl,KW.drewN _⟩
  |succ q=>
   have ej:((q+1:Nat):Int)-1=(q:Int):=by omega
   rw[ej];have fM:q<ns.length:=hj;rcases r3 with h0|⟨bq,oq,rfl,hbq,hcq⟩
   . exfalso;rw[h0] at fM;simp at fM
   obtain⟨g0,g1,g2⟩:=VT (hcq q _ (Gh fM));have HF:=fun e=>Lib.hid (HS.out _ (W8 fM (fun q' h1 h2=>hno.out q' h1 h2) e))
   have HN:(ns.getD q (0,0,0)).1≠(p:Int)->Hid (∀q',q<=q'->q'<ns.length->(ns.getD q' (0,0,0)).1≠(p:Int)):=fun e=>Lib.hid (fun q' h1 h2=>by
    by_cases e':q'=q
    . rw[e'];exact e
    . exact hno.out q' (by omega) h2)
   generalize ns.getD q (0,0,0)=y at g0 g1 g2 HF HN;obtain⟨y0,y1,y2⟩:=y;simp only at g0 g1 g2 HF HN;have k1:(0:Int)<=(q:Int):=Int.natCast_nonneg _;have k2:(q:Int)<(ns.length:Int):=by omega
   have k3:IntKind.i64.wrap ((q:Int)-1)=(q:Int)-1:=by rw[IntKind.wrap_i64];omega
   clear hcq hno ej;by_cases e:y0=(p:Int)
   ·
    have HE:=HF e;have eb:(y0==(p:Int))=true:=by simp[e]
    clear HF HN e;go_wp2;go_quiet (fail)
    go_wp2;go_ret2
    exact⟨by rw[HE.out];rfl,KW.drewN _⟩
   ·
    have HE:=HN e;have eb:(y0==(p:Int))=false:=by simp[e]
    clear HF HN e;go_wp2;go_round
    case rel=>exact⟨q,by omega,rfl,HE⟩
    case measure=>simp[intOf]
section
abbrev dC (k p v g:Int):Obj:= .cells #[.int .i64 k,.int .i64 p,.int .i64 v,.int .i64 g] 51
abbrev eC (i k:Int)(r:Bool)(p v c:Int):Obj:= .cells #[.int .i64 i,.int .i64 k,.bool r,.int .i64 p,.int .i64 v,.int .i64 c] 89
structure Zj (w wr:World)(F:Nat)(out:Value)(es:List Ev)(f:List Int):Prop where
 app:IR wr w.heap.size out es
 row:Cd wr F f
 keep:AC w wr
 hF:w.heap.size<=F
 oF:out.ownBlock≠some F
structure Gq (w wr:World)(F D X:Nat)(out:Value)(es:List Ev)(f:List Int)(k p v g:Int)(i q:Int)(r:Bool)(pl vl c:Int):Prop where
 l:Zj w wr F out es f
 box:wr.heap[D]? = some (dC k p v g)
 ev:wr.heap[X]? = some (eC i q r pl vl c)
 hD:w.heap.size<=D
 hX:w.heap.size<=X
 DX:D≠X
 FD:F≠D
 FX:F≠X
 oD:out.ownBlock≠some D
 oX:out.ownBlock≠some X
theorem Zj.more {w wr wr':World}{F:Nat}{out:Value}{es:List Ev}{f:List Int}(h:Zj w wr F out es f)(k:AC wr wr'):Zj w wr' F out es f:=
 ⟨h.app.keep k,h.row.keep k,h.keep.trans k,h.hF,h.oF⟩
theorem Zj.boxes {w wr:World}{F:Nat}{out:Value}{es:List Ev}{f:List Int}(h:Zj w wr F out es f)(k p v g i q:Int)(r:Bool)(pl vl c:Int):
  Gq w ((wr.alloc (dC k p v g)).alloc (eC i q r pl vl c)) F wr.heap.size (wr.heap.size+1) out es f k p v g i q r pl vl c:=by
 have hs:=h.keep.size;have hR:=h.row.lt;have hl:=h.app.lt;have z:(wr.alloc (dC k p v g)).heap.size=wr.heap.size+1:=AD wr _;refine⟨h.more (((AC.refl wr).alloc _).alloc _),?_,?_,hs,by omega,by omega,by omega,by omega,fun e=>?_,fun e=>?_⟩
 . rw[Bj,if_neg (by rw[z];omega),Bj,if_pos rfl]
 . rw[Bj,if_pos z.symm]
 . have:=(hl _ e).2;omega
 . have:=(hl _ e).2;omega
variable {w wr:World} {F D X:Nat} {out:Value} {es:List Ev} {f:List Int} {k p v g i q pl vl c:Int} {r:Bool}
theorem Gq.more {wr':World}(h:Gq w wr F D X out es f k p v g i q r pl vl c)(kk:AC wr wr'):Gq w wr' F D X out es f k p v g i q r pl vl c:=
 ⟨h.l.more kk,(Below.block kk D (Array.getElem?_eq_some_iff.1 h.box).1).trans h.box,(Below.block kk X (Array.getElem?_eq_some_iff.1 h.ev).1).trans h.ev,h.hD,h.hX,h.DX,h.FD,h.FX,h.oD,h.oX⟩
theorem Gq.lt (h:Gq w wr F D X out es f k p v g i q r pl vl c):D<wr.heap.size/\X<wr.heap.size/\F<wr.heap.size:=
 ⟨(Array.getElem?_eq_some_iff.1 h.box).1,(Array.getElem?_eq_some_iff.1 h.ev).1,h.l.row.lt⟩
theorem Gq.deed (h:Gq w wr F D X out es f k p v g i q r pl vl c):
  wr.cell? ⟨D,0,none⟩=some (.int .i64 k)/\wr.cell? ⟨D,1,none⟩=some (.int .i64 p)/\wr.cell? ⟨D,2,none⟩=some (.int .i64 v)/\wr.cell? ⟨D,3,none⟩=some (.int .i64 g):=
 ⟨cell_of_row wr D 0 _ _ (0,0) h.box,cell_of_row wr D 1 _ _ (0,0) h.box,cell_of_row wr D 2 _ _ (0,0) h.box,cell_of_row wr D 3 _ _ (0,0) h.box⟩
theorem Gq.event (h:Gq w wr F D X out es f k p v g i q r pl vl c):
  wr.cell? ⟨X,0,none⟩=some (.int .i64 i)/\wr.cell? ⟨X,1,none⟩=some (.int .i64 q)/\wr.cell? ⟨X,2,none⟩=some (.bool r)/\wr.cell? ⟨X,3,none⟩=some (.int .i64 pl)/\wr.cell? ⟨X,4,none⟩=some (.int .i64 vl)/\wr.cell? ⟨X,5,none⟩=some (.int .i64 c):=
 ⟨cell_of_row wr X 0 _ _ (0,0) h.ev,cell_of_row wr X 1 _ _ (0,0) h.ev,cell_of_row wr X 2 _ _ (0,0) h.ev,cell_of_row wr X 3 _ _ (0,0) h.ev,cell_of_row wr X 4 _ _ (0,0) h.ev,cell_of_row wr X 5 _ _ (0,0) h.ev⟩
theorem Gq.free (h:Gq w wr F D X out es f k p v g i q r pl vl c)(j:Nat):wr.frozen? ⟨X,j,none⟩=false:=frozen_of_row wr X j _ _ h.ev
theorem Gq.gm (h:Gq w wr F D X out es f k p v g i q r pl vl c)(j:Nat)(x:Value){r':Bool}{pl' vl' c':Int}
  (he:(wr.setCell ⟨X,j,none⟩ x).heap[X]? = some (eC i q r' pl' vl' c')):Gq w (wr.setCell ⟨X,j,none⟩ x) F D X out es f k p v g i q r' pl' vl' c':=by
 have hg:=Ad wr X j x;have a:=h.l;refine⟨⟨a.app.kept hg (.inr h.oX),a.row.kept hg (by simp;exact fun e=>h.FX e.symm),a.keep.grown hg (by simp;exact h.hX),a.hF,a.oF⟩,(hg.block D h.lt.1 (by simp;exact h.DX)).trans h.box,he,h.hD,h.hX,h.DX,h.FD,h.FX,h.oD,h.oX⟩
theorem Gq.set2 (h:Gq w wr F D X out es f k p v g i q r pl vl c)(x:Bool):Gq w (wr.setCell ⟨X,2,none⟩ (.bool x)) F D X out es f k p v g i q x pl vl c:=
 h.gm 2 _ (by rw[heap_setCell_same wr X 2 _ _ _ h.ev];rfl)
theorem Gq.set4 (h:Gq w wr F D X out es f k p v g i q r pl vl c)(x:Int):Gq w (wr.setCell ⟨X,4,none⟩ (.int .i64 x)) F D X out es f k p v g i q r pl x c:=
 h.gm 4 _ (by rw[heap_setCell_same wr X 4 _ _ _ h.ev];rfl)
theorem Gq.set5 (h:Gq w wr F D X out es f k p v g i q r pl vl c)(x:Int):Gq w (wr.setCell ⟨X,5,none⟩ (.int .i64 x)) F D X out es f k p v g i q r pl vl x:=
 h.gm 5 _ (by rw[heap_setCell_same wr X 5 _ _ _ h.ev];rfl)
theorem Gq.nQ (h:Gq w wr F D X out es f k p v g i q r pl vl c)(j:Nat)(x:Int):Gq w (wr.setCell ⟨F,j,none⟩ (.int .i64 x)) F D X out es (f.set j x) k p v g i q r pl vl c:=by
 have hg:=Ad wr F j (.int .i64 x);have a:=h.l;exact⟨⟨a.app.kept hg (.inr a.oF),a.row.set j x,a.keep.grown hg (by simp;exact a.hF),a.hF,a.oF⟩,(hg.block D h.lt.1 (by simp;exact fun e=>h.FD e.symm)).trans h.box,(hg.block X h.lt.2.1 (by simp;exact fun e=>h.FX e.symm)).trans h.ev,h.hD,h.hX,h.DX,h.FD,h.FX,h.oD,h.oX⟩
theorem Gq.hit (h:Gq w wr F D X out es f k p v g i q r pl vl c){o:Obj}{v':Value}{w':World}(e:Ev)
  (ho:w'.ownsRow w.heap.size 89 6 v' (es.length+1) (es.flatMap cE++cE e)) (hg:(wr.alloc o).grownBy w' out.ownBlock) (hb:v'.ownBlock=out.ownBlock\/v'.ownBlock=some (wr.heap.size+1)):
  Gq w w' F D X v' (es++[e]) f k p v g i q r pl vl c:=by
 have h1:=h.more ((AC.refl wr).alloc o);obtain⟨a1,a2,a3⟩:=h1.lt
 have apart:∀n,n<(wr.alloc o).heap.size->out.ownBlock≠some n->v'.ownBlock≠some n:=fun n hn hne e=>by
  rcases hb with hb|hb
  . exact hne (hb ▸ e)
  . rw[hb] at e;have:=Option.some.inj e;rw[AD] at hn;omega
 exact⟨⟨De ho,h1.l.row.kept hg h1.l.oF,h1.l.keep.grown hg h1.l.app.ge,h1.l.hF,apart F a3 h1.l.oF⟩,(hg.block D a1 (fun e=>h1.oD e.symm)).trans h1.box,(hg.block X a2 (fun e=>h1.oX e.symm)).trans h1.ev,h1.hD,h1.hX,h1.DX,h1.FD,h1.FX,apart D a1 h1.oD,apart X a2 h1.oX⟩
theorem Lb (e:Ev):∀u∈cE e,u.oneCell'=true:=by
 intro u hu;simp only[cE,List.mem_cons,List.not_mem_nil,or_false] at hu;rcases hu with rfl|rfl|rfl|rfl|rfl|rfl<;>rfl
theorem La (w:World)(i q:Int)(r:Bool)(pl vl c:Int):∀j u,(cE (i,q,r,pl,vl,c))[j]? = some u->(w.alloc (eC i q r pl vl c)).cell? ((⟨w.heap.size,0,none⟩:Addr).add j)=some u:=by
 intro j u hj
 match j,hj with
 | 0,hj=>simp[cE] at hj;subst hj;simp[Addr.add]
 | 1,hj=>simp[cE] at hj;subst hj;simp[Addr.add]
 | 2,hj=>simp[cE] at hj;subst hj;simp[Addr.add]
 | 3,hj=>simp[cE] at hj;subst hj;simp[Addr.add]
 | 4,hj=>simp[cE] at hj;subst hj;simp[Addr.add]
 | 5,hj=>simp[cE] at hj;subst hj;simp[Addr.add]
theorem Vl (w:World)(n:Nat)(hn:w.heap.size=n)(i q:Int)(r:Bool)(pl vl c:Int):∀j u,(cE (i,q,r,pl,vl,c))[j]? = some u->(w.alloc (eC i q r pl vl c)).cell? ((⟨n,0,none⟩:Addr).add j)=some u:=by
 subst hn;exact La w i q r pl vl c
end
theorem Wo {d:Dd}(h:FZ d=true):d.1=1\/d.1=2\/d.1=3\/d.1=4:=by
 simp[FZ,Dy] at h;omega
theorem UY {d:Dd}(h:FZ d=true):0<=d.2.2.2/\d.2.2.2<=9:=by
 simp[FZ,Dy] at h;omega
theorem JV (w:World)(v:Value)(AA:List (List Dd))(h:Ic w v AA)(hx:AA.length<=3)(hok:∀i,i<AA.length->Ft (AA.getD i [])=true):
  Calls Tryz.prog 81 #[v] w fun e w'=>e = .returned (.int .i64 (Pw AA AA.length))/\AC w w':=by
 obtain⟨a,c,rfl,h⟩:=h;go_enter Tryz.func81,Tryz.ntmps81
 go_wp2;go_loopw [3,4] (fun n i wr=>∃k:Nat,∃m:Int,k<=AA.length/\n = .int .i64 m/\i = .int .i64 k/\Hid (m=Pw AA k)/\0<=m/\m<=10*k/\AC w wr) (fun _ i _=>AA.length-(intOf i).toNat)
 case atStart=>exact⟨0,0,Nat.zero_le _,rfl,rfl,Lib.hid rfl,by omega,by omega,AC.refl _⟩
 case round=>
  obtain⟨k,m,hk,rfl,rfl,hm,m0,m1,hK⟩:=hrel;by_cases hlt:k<AA.length
  ·
   rcases h with h|⟨b,o,rfl,hb,hc⟩
   . exfalso;rw[h] at hlt;simp at hlt
   obtain⟨u,e1,r1⟩:=hc k hlt;have d1:=(hK.cell hb).trans e1;have r1:=r1.keep hK;have Ku:=hok k hlt;clear hc e1 hok;obtain⟨ds,hds⟩:∃ds,ds=AA.getD k []:=⟨_,rfl⟩;have KP:=Lib.hid hds;rw[<-hds] at r1 Ku;clear hds;obtain⟨ai,ci,rfl,r1⟩:=r1;have i1:(0:Int)<=(k:Int):=Int.natCast_nonneg _;have i2:(k:Int)<(AA.length:Int):=by omega
   have hl5:ds.length<=5:=by simp[Ft] at Ku;omega
   have hbw:b<wr.heap.size:=Nat.lt_of_lt_of_le hb hK.size;go_wp2;obtain⟨wo,hwo⟩:∃wo:World,wo=wr:=⟨_,rfl⟩;subst hwo;go_loopw [3,5] (fun n i wq=>∃q:Nat,∃t:Int,q<=ds.length/\n = .int .i64 t/\i = .int .i64 q/\Hid (t=m+NN ds q)/\0<=t/\t<=10*k+2*q/\AC wo wq) (fun _ i _=>ds.length-(intOf i).toNat)
   case atStart=>exact⟨0,m,Nat.zero_le _,rfl,rfl,Lib.hid (by simp[NN]),by omega,by omega,AC.refl _⟩
   case round=>
    obtain⟨q,t,hq,rfl,rfl,ht,t0,t1,hQ⟩:=hrel;have d1:=(hQ.cell hbw).trans d1;have hbq:b<wr.heap.size:=Nat.lt_of_lt_of_le hbw hQ.size;by_cases hlq:q<ds.length
    ·
     rcases r1 with h|⟨b2,o2,rfl,hb2,hc2⟩
     . exfalso;rw[h] at hlq;simp at hlq
     have AT:=(hc2 q hlq).keep hb2 hQ
     have TW:FZ (ds.getD q zD)=true:=by
      simp only[Ft,Bool.and_eq_true] at Ku;exact BR zD Ku.1 q hlq
     clear hc2 Ku;have hb3:b2<wr.heap.size:=Nat.lt_of_lt_of_le hb2 hQ.size;have jY:Hid (t+Rm (ds.getD q zD)=m+NN ds (q+1)):=Lib.hid (by rw[NN,ht.out];omega);clear ht;obtain⟨d,hd⟩:∃d,d=ds.getD q zD:=⟨_,rfl⟩;rw[<-hd] at AT TW jY;clear hd;have KD:=Wo TW;obtain⟨x0,x1,x2,x3⟩:=d;obtain⟨A0,-,-,-⟩:=AT;simp only at A0 KD;have j1:(0:Int)<=(q:Int):=Int.natCast_nonneg _;have j2:(q:Int)<(ds.length:Int):=by omega
     rcases KD with rfl|rfl|rfl|rfl
     all_goals
      go_wp2;go_roundw;case rel=>exact⟨q+1,_,by omega,rfl,by go_num,Lib.hid (by have:=jY.out;simp[Rm] at this;omega),by omega,by omega,hQ.alloc _⟩
      case measure=>simp[intOf];omega
    ·
     obtain rfl:q=ds.length:=by omega
     go_wp2;go_roundw;case rel=>exact⟨k+1,t,by omega,rfl,by go_num,Lib.hid (by rw[Pw,<-KP.out,ht.out,hm.out]),t0,by omega,hK.trans hQ⟩
     case measure=>simp[intOf];omega
  ·
   obtain rfl:k=AA.length:=by omega
   go_wp2;go_ret;exact⟨by rw[hm.out];rfl,hK⟩
theorem QQ:(madeCells (Value.int .i64 0).cells (10*1)).toList=((List.replicate 10 (0:Int)).map (Value.int .i64)):=by
 rw[Nat.mul_one,List.map_replicate];exact toList_madeCells_one _ _
theorem WH {i:Nat}{own o:List Int}{ds:List Dd}{k:Nat}(h:Ch i own ds k=some o)(hg:(ds.getD k zD).2.2.2=0):Ch i own ds (k+1)=some o:=by
 rw[Ch,h];simp only[hg,if_true]
theorem Yx {i:Nat}{own o:List Int}{ds:List Dd}{k:Nat}(h:Ch i own ds k=some o)(hg:(ds.getD k zD).2.2.2≠0)
  (hb:o.getD (ds.getD k zD).2.2.2.toNat 0≠0/\(o.getD (ds.getD k zD).2.2.2.toNat 0≠(i:Int)+1\/k=0\/(ds.getD (k-1) zD).2.2.2≠(ds.getD k zD).2.2.2)):Ch i own ds (k+1)=none:=by
 rw[Ch,h];simp only;rw[if_neg hg,if_pos hb]
theorem Yy {i:Nat}{own o:List Int}{ds:List Dd}{k:Nat}(h:Ch i own ds k=some o)(hg:(ds.getD k zD).2.2.2≠0)
  (hb:¬(o.getD (ds.getD k zD).2.2.2.toNat 0≠0/\(o.getD (ds.getD k zD).2.2.2.toNat 0≠(i:Int)+1\/k=0\/(ds.getD (k-1) zD).2.2.2≠(ds.getD k zD).2.2.2))):
  Ch i own ds (k+1)=some (o.set (ds.getD k zD).2.2.2.toNat ((i:Int)+1)):=by
 rw[Ch,h];simp only;rw[if_neg hg,if_neg hb]
theorem Og {AA:List (List Dd)}{k:Nat}{own:List Int}(hk:k<AA.length)(h:EZ AA k=some own){q:Nat}(hq:q<=(AA.getD k []).length)(hn:Ch k own (AA.getD k []) q=none):JS AA=false:=by
 have h1:EZ AA (k+1)=none:=by
  rw[EZ,h];exact Jt hn _ hq
 rw[JS,Ju h1 _ hk];rfl
theorem Ok (w:World)(v:Value)(AA:List (List Dd))(h:Ic w v AA)(hx:AA.length<=3)(hok:∀i,i<AA.length->Ft (AA.getD i [])=true):
  Calls Tryz.prog 82 #[v] w fun e w'=>e = .returned (.bool (JS AA))/\AC w w':=by
 obtain⟨a,c,rfl,h⟩:=h;obtain⟨i0,hi,hz0,hz1,hz2⟩:=info_parts Tryz.FL;go_enter Tryz.func82,Tryz.ntmps82
 go_wp2_with (at_make;refine wpList_make_full _ rfl _ _ 26 rfl w.heap.size 2 i0 (.int .i64 0) 1 Tryz.underlying26 hi hz0 hz1 .i64 .i64 _ _ 10 rfl rfl rfl rfl (by rw[hz2];omega) (by unfold maxLen;omega) (Nat.le_refl _) ?_;intro w1 hown hgrow)
 have k1:AC w w1:=(AC.refl w).grown hgrow (by simp)
 have rb:Cd w1 w.heap.size (List.replicate 10 0):=by
  have o:A8 w1 w.heap.size (.slice (some ⟨w.heap.size,0,none⟩) 10 10) (List.replicate 10 0):=by
   rw[QQ] at hown;unfold A8;simpa using hown
  rcases o.row with ⟨e,_⟩|⟨g,cap,e,_,hr⟩
  . cases e
  ·
   have e1:=congrArg Value.ownBlock e;simp[Value.ownBlock] at e1;rw[e1];exact hr
 clear hgrow hown hi hz0 hz1 hz2;go_loopw [4] (fun i wr=>∃k:Nat,∃own:List Int,k<=AA.length/\i = .int .i64 k/\Hid (EZ AA k=some own)/\Cd wr w.heap.size own/\AC w wr) (fun i _=>AA.length-(intOf i).toNat)
 case atStart=>exact⟨0,List.replicate 10 0,Nat.zero_le _,rfl,Lib.hid rfl,rb,k1⟩
 case round=>
  obtain⟨k,own,hk,rfl,hG,hR,hK⟩:=hrel;clear rb k1;by_cases hlt:k<AA.length
  ·
   rcases h with h|⟨b,o,rfl,hb,hc⟩
   . exfalso;rw[h] at hlt;simp at hlt
   obtain⟨u,e1,r1⟩:=hc k hlt;have Ku:=hok k hlt;clear hc hok;obtain⟨ds,hds⟩:∃ds,ds=AA.getD k []:=⟨_,rfl⟩;have KP:=Lib.hid hds;rw[<-hds] at r1 Ku;clear hds;obtain⟨ai,ci,rfl,r1⟩:=r1;have d1:=(hK.cell hb).trans e1;have i1:(0:Int)<=(k:Int):=Int.natCast_nonneg _;have i2:(k:Int)<(AA.length:Int):=by omega
   have hl5:ds.length<=5:=by simp[Ft] at Ku;omega
   go_wp2;go_loopw [5] (fun i wq=>∃q:Nat,∃ow:List Int,q<=ds.length/\i = .int .i64 q/\Hid (Ch k own ds q=some ow)/\Cd wq w.heap.size ow/\AC w wq) (fun i _=>ds.length-(intOf i).toNat)
   case atStart=>exact⟨0,own,Nat.zero_le _,rfl,Lib.hid rfl,hR,hK⟩
   case round=>
    obtain⟨q,ow,hq,rfl,hQ,hS,hL⟩:=hrel;have d1:=(hL.cell hb).trans e1;by_cases hlq:q<ds.length
    ·
     rcases r1 with h|⟨b2,o2,rfl,hb2,hc2⟩
     . exfalso;rw[h] at hlq;simp at hlq
     have A3:=((hc2 q hlq).keep hb2 hL).2.2.2
     have TW:FZ (ds.getD q zD)=true:=by
      simp only[Ft,Bool.and_eq_true] at Ku;exact BR zD Ku.1 q hlq
     have g09:0<=(ds.getD q zD).2.2.2/\(ds.getD q zD).2.2.2<=9:=UY TW;clear Ku TW;have AP:0<q->wr.cell? ⟨b2,o2+(q-1)*4+3,none⟩=some (.int .i64 (ds.getD (q-1) zD).2.2.2):=fun _=>((hc2 (q-1) (by omega)).keep hb2 hL).2.2.2
     clear hc2;have S1:=@WH k own ow ds q hQ.out;have S2:=@Yx k own ow ds q hQ.out;have S3:=@Yy k own ow ds q hQ.out;have hlen:ow.length=10:=(JT hQ.out).trans (Lq hG.out);clear hQ;obtain⟨g,hg⟩:∃g:Nat,(ds.getD q zD).2.2.2=(g:Int):=⟨_,(Int.toNat_of_nonneg g09.1).symm⟩;rw[hg] at A3 g09 S1 S2 S3;rw[Int.toNat_natCast] at S2 S3;clear hg;have hg9:g<10:=by omega
     obtain⟨p,hp⟩:∃p:Int,p=(ds.getD (q-1) zD).2.2.2:=⟨_,rfl⟩;rw[<-hp] at AP S2 S3;clear hp;have WJ:=hS.cell (j:=g) (by omega);obtain⟨y,hy⟩:∃y:Int,y=ow.getD g 0:=⟨_,rfl⟩;rw[<-hy] at WJ S2 S3;clear hy g09;have j1:(0:Int)<=(q:Int):=Int.natCast_nonneg _;have j2:(q:Int)<(ds.length:Int):=by omega
     have j3:(0:Int)<=(g:Int):=Int.natCast_nonneg _;have j4:(g:Int)<10:=by omega
     have hbq:b<wr.heap.size:=Nat.lt_of_lt_of_le hb hL.size;have hb3:b2<wr.heap.size:=Nat.lt_of_lt_of_le hb2 hL.size;by_cases g0:g=0
     ·
      have eg:((g:Int)==0)=true:=by simp[g0]
      have HE:=Lib.hid (S1 (by omega));clear S1 S2 S3 AP;go_wp2;go_roundw;case rel=>exact⟨q+1,ow,by omega,by go_num,HE,hS,hL⟩
      case measure=>simp[intOf];omega
     ·
      have HN:Hid ((g:Int)≠0):=Lib.hid (by omega);have eg:((g:Int)==0)=false:=by simp;omega
      have hF:=hS.free g;clear S1;by_cases y0:y=0
      ·
       subst y0;have HE:=Lib.hid (S3 HN.out (by simp));clear S2 S3 AP;go_wp2;go_roundw;case rel=>exact⟨q+1,_,by omega,by go_num,HE,hS.set g _,hL.set (Nat.le_refl _) g _⟩
       case measure=>simp[intOf];omega
      ·
       have ey:(y != 0)=true:=by simp[y0]
       by_cases yk:y=(k:Int)+1
       ·
        subst yk;have ek:((k:Int)+1 != (k:Int)+1)=false:=by simp
        by_cases q0:q=0
        ·
         have eq:((q:Int)==0)=true:=by simp[q0]
         have HE:Hid (JS AA=false):=Lib.hid (Og hlt hG.out (q:=q+1) (by rw[<-KP.out];omega) (by rw[<-KP.out];exact S2 HN.out ⟨y0,.inr (.inl q0)⟩));clear S2 S3 AP y0 q0;go_wp2;go_ret;exact⟨by rw[HE.out];rfl,hL⟩
        ·
         have eq:((q:Int)==0)=false:=by simp;omega
         have AP:=AP (by omega);obtain⟨r,rfl⟩:∃r:Nat,q=r+1:=⟨q-1,by omega⟩;rw[Nat.add_sub_cancel] at AP;have j5:(0:Int)<=(r:Int):=Int.natCast_nonneg _;have j6:(r:Int)<(ds.length:Int):=by omega
         by_cases pg:p=(g:Int)
         ·
          subst pg;have ep:((g:Int) != (g:Int))=false:=by simp
          have HE:=Lib.hid (S3 HN.out (by simp));clear S2 S3 y0;go_wp2;go_roundw;case rel=>exact⟨r+1+1,_,by omega,by go_num,HE,hS.set g _,hL.set (Nat.le_refl _) g _⟩
          case measure=>simp[intOf];omega
         ·
          have ep:(p != (g:Int))=true:=by simp[pg]
          have HE:Hid (JS AA=false):=Lib.hid (Og hlt hG.out (q:=r+1+1) (by rw[<-KP.out];omega) (by rw[<-KP.out];exact S2 HN.out ⟨y0,.inr (.inr pg)⟩));clear S2 S3 y0 pg;go_wp2;go_ret;exact⟨by rw[HE.out];rfl,hL⟩
       ·
        have ek:(y != (k:Int)+1)=true:=by simp[yk]
        have HE:Hid (JS AA=false):=Lib.hid (Og hlt hG.out (q:=q+1) (by rw[<-KP.out];omega) (by rw[<-KP.out];exact S2 HN.out ⟨y0,.inl yk⟩));clear S2 S3 AP yk y0;go_wp2;go_ret;exact⟨by rw[HE.out];rfl,hL⟩
    ·
     obtain rfl:q=ds.length:=by omega
     go_wp2;go_roundw;case rel=>exact⟨k+1,ow,by omega,by go_num,Lib.hid (by rw[EZ,hG.out,<-KP.out];exact hQ.out),hS,hL⟩
     case measure=>simp[intOf];omega
  ·
   obtain rfl:k=AA.length:=by omega
   go_wp2;go_ret;exact⟨by rw[JS,hG.out];rfl,hK⟩
theorem Ln (g:Int)(n:Nat)(f:List Int):(C8 g n f).length=f.length:=by unfold C8;split<;>simp
theorem GZ (w:World)(v:Value)(AA:List (List Dd))(h:Ic w v AA)(hx:AA.length<=3)(hok:∀i,i<AA.length->Ft (AA.getD i [])=true):
  Calls Tryz.prog 55 #[v] w fun e w'=>∃v',e = .returned v'/\IR w' w.heap.size v' (Az AA AA.length)/\AC w w':=by
 obtain⟨a,c,rfl,h⟩:=h;obtain⟨i0,hi,hz0,hz1,hz2⟩:=info_parts Tryz.FL;obtain⟨j0,hj,hy0,hy1,hy2⟩:=info_parts Tryz.WR;have A0:IR (w.alloc (.cells #[] 89)) w.heap.size (.slice (some ⟨w.heap.size,0,none⟩) 0 0) []:=LR w;go_enter Tryz.func55,Tryz.ntmps55
 go_wp2;go_loopw [3,4] (fun v i wr=>∃k:Nat,∃m:Int,∃es:List Ev,k<=3/\i = .int .i64 m/\m=(k:Int)/\Hid (es=B5.take k)/\es.length<=k/\IR wr w.heap.size v es/\AC w wr) (fun _ i _=>3-(intOf i).toNat)
 case atStart=>exact⟨0,0,[],Nat.zero_le _,rfl,rfl,Lib.hid rfl,Nat.le_refl _,A0,(AC.refl _).alloc _⟩
 case round=>
  obtain⟨k,m,es,hk,rfl,hm,hE,hel,ho,hK⟩:=hrel;clear A0;have hsz:=hK.size;by_cases hlt:k<3
  ·
   subst hm
   have HM:Hid (es++[((-1:Int),(-1:Int),false,(k:Int),0,(k:Int))]=B5.take (k+1)):=Lib.hid (by
    rw[hE.out];have:k=0\/k=1\/k=2:=by omega
    rcases this with rfl|rfl|rfl<;>rfl)
   clear hE;go_wp2_with (at_builtin;refine wpList_append_own_at _ rfl _ _ 69 rfl w.heap.size 89 j0 (.agg #[.int .i64 0,.int .i64 0,.bool false,.int .i64 0,.int .i64 0,.int .i64 0]) 6 48 Tryz.underlying69 hj hy0 hy1 hy2 rfl (by decide) _ _ _ rfl (ho.keep ((AC.refl _).alloc _)) ⟨_,0,none⟩ 1 1 (cE ((-1:Int),(-1:Int),false,(k:Int),0,(k:Int))) rfl rfl ?c1 ?c2 ?c3 ?c4 ?c5 ?_)
   case c1=>exact La _ _ _ _ _ _ _
   case c2=>exact Lb _
   case c3=>unfold maxLen;omega
   case c4=>omega
   case c5=>simp;omega
   intro v' w1 hown' hgrow _ _;have hK1:AC w w1:=(hK.alloc _).grown hgrow ho.ge;have hA:=De hown';clear hgrow hown';go_wp2;go_roundw;case rel=>exact⟨k+1,_,_,by omega,rfl,by omega,HM,by simp;omega,hA,hK1⟩
   case measure=>simp[intOf];omega
  obtain rfl:m=3:=by omega
  have HB:Hid (es=Az AA 0):=Lib.hid (by rw[hE.out,show k=3 by omega];rfl);clear hE hm;go_wp2;go_loopw [3,5] (fun v i wr=>∃k:Nat,∃es:List Ev,k<=AA.length/\i = .int .i64 k/\Hid (es=Az AA k)/\es.length<=3+10*k/\IR wr w.heap.size v es/\AC w wr) (fun _ i _=>AA.length-(intOf i).toNat)
  case atStart=>exact⟨0,es,Nat.zero_le _,rfl,HB,by omega,ho,hK⟩
  case round=>
   clear HB hel ho hK hsz hlt hk;obtain⟨k,es,hk,rfl,hE,hel,ho,hK⟩:=hrel;have hsz:=hK.size;by_cases hlt:k<AA.length
   ·
    rcases h with h|⟨b,o,rfl,hb,hc⟩
    . exfalso;rw[h] at hlt;simp at hlt
    obtain⟨u,e1,r1⟩:=hc k hlt;have Ku:=hok k hlt;clear hc hok;obtain⟨ds,hds⟩:∃ds,ds=AA.getD k []:=⟨_,rfl⟩;have KP:=Lib.hid hds;rw[<-hds] at r1 Ku;clear hds;obtain⟨ai,ci,rfl,r1⟩:=r1;have d1:=(hK.cell hb).trans e1;have i1:(0:Int)<=(k:Int):=Int.natCast_nonneg _;have i2:(k:Int)<(AA.length:Int):=by omega
    have hl5:ds.length<=5:=by simp[Ft] at Ku;omega
    obtain⟨wo,hwo⟩:∃wo:World,wo=wr:=⟨_,rfl⟩;subst hwo;go_wp2_with (at_make;refine wpList_make_full _ rfl _ _ 26 rfl wo.heap.size 2 i0 (.int .i64 0) 1 Tryz.underlying26 hi hz0 hz1 .i64 .i64 _ _ 10 rfl rfl rfl rfl (by rw[hz2];omega) (by unfold maxLen;omega) (Nat.le_refl _) ?_;intro w1 hown hgrow)
    have k1:AC wo w1:=(AC.refl wo).grown hgrow (by simp)
    have rb:Cd w1 wo.heap.size (List.replicate 10 0):=by
     have o:A8 w1 wo.heap.size (.slice (some ⟨wo.heap.size,0,none⟩) 10 10) (List.replicate 10 0):=by
      rw[QQ] at hown;unfold A8;simpa using hown
     rcases o.row with ⟨e,_⟩|⟨g,cap,e,_,hr⟩
     . cases e
     ·
      have e1:=congrArg Value.ownBlock e;simp[Value.ownBlock] at e1;rw[e1];exact hr
    clear hgrow hown;have L0:Zj w w1 wo.heap.size _ es (List.replicate 10 0):=⟨ho.keep k1,rb,hK.trans k1,hsz,fun e=>by have:=(ho.lt _ e).2;omega⟩;go_loopw [3,7] (fun v i wq=>∃q:Nat,∃evs:List Ev,∃f:List Int,q<=ds.length/\i = .int .i64 q/\Hid (BO k ds es q=(evs,f))/\Hid (f.length=10)/\evs.length<=3+10*k+2*q/\Zj w wq wo.heap.size v evs f) (fun _ i _=>ds.length-(intOf i).toNat)
    case atStart=>exact⟨0,es,_,Nat.zero_le _,rfl,Lib.hid rfl,Lib.hid rfl,by omega,L0⟩
    case round=>
     clear L0 rb k1 w1 d1;obtain⟨q,evs,f,hq,rfl,hC,hfl,hev,hI⟩:=hrel;have d1:=(hI.keep.cell hb).trans e1;have hbq:b<wr.heap.size:=Nat.lt_of_lt_of_le hb hI.keep.size;by_cases hlq:q<ds.length
     ·
      rcases r1 with h|⟨b2,o2,rfl,hb2,hc2⟩
      . exfalso;rw[h] at hlq;simp at hlq
      have AT:=(hc2 q hlq).keep hb2 hI.keep
      have TW:FZ (ds.getD q zD)=true:=by
       simp only[Ft,Bool.and_eq_true] at Ku;exact BR zD Ku.1 q hlq
      clear hc2 Ku;have hb3:b2<wr.heap.size:=Nat.lt_of_lt_of_le hb2 hI.keep.size;have HST:Hid (BO k ds es (q+1)=ET k q (ds.getD q zD) (evs,f)):=Lib.hid (by rw[BO,hC.out]);clear hC;obtain⟨d,hd⟩:∃d,d=ds.getD q zD:=⟨_,rfl⟩;rw[<-hd] at AT TW HST;clear hd;have KD:=CG TW;have RD:=Bv TW;obtain⟨x0,x1,x2,x3⟩:=d;obtain⟨A0,A1,A2,A3⟩:=AT;simp only at A0 A1 A2 A3 KD RD;obtain⟨-,-,r2,r3,r4⟩:=RD;obtain⟨g,rfl⟩:=Int.eq_ofNat_of_zero_le r2;have j1:(0:Int)<=(q:Int):=Int.natCast_nonneg _;have j2:(q:Int)<(ds.length:Int):=by omega
      have j3:(0:Int)<=(g:Int):=Int.natCast_nonneg _;have j4:(g:Int)<10:=by omega
      have hg9:g<10:=by omega
      clear r2 r3 TW;obtain⟨av,cv,rfl⟩:=hI.app.shape;rcases KD with rfl|rfl|rfl|rfl
      ·
       obtain⟨f',hf'⟩:∃f',f'=C8 (g:Int) evs.length f:=⟨_,rfl⟩;obtain⟨cl,hcl⟩:∃cl,cl=Co (g:Int) evs.length f:=⟨_,rfl⟩;have HS:Hid (BO k ds es (q+1)=(evs++[((k:Int),(q:Int),true,x1,0,cl)],f')):=Lib.hid (by rw[HST.out,hf',hcl];rfl);have hfl':Hid (f'.length=10):=Lib.hid (by rw[hf',Ln];exact hfl.out);have HF:=Lib.hid hf';have HC:=Lib.hid hcl;clear HST hf' hcl;clear r4;go_upto_if 61 with fail
       have I1:=hI.boxes 1 x1 x2 (g:Int) (k:Int) (q:Int) true x1 0 (evs.length:Int);go_cut [] from 29 to 99 (fun wx=>Gq w wx wo.heap.size wr.heap.size (wr.heap.size+1) (.slice av evs.length cv) evs f 1 x1 x2 g k q true x1 0 evs.length)
       case first=>
        go_wp2;go_meet;case rel=>exact I1
       case rest=>
        clear I1 A0 A1 A2 A3 d1;have IH:=hcut;clear hcut;obtain⟨t0,t1,t2,t3⟩:=IH.deed;obtain⟨s0,s1,s2,s3,s4,s5⟩:=IH.event;have F2:=IH.free 2;have F4:=IH.free 4;have F5:=IH.free 5;obtain⟨z1,z2,z3⟩:=IH.lt;go_upto_if 67 with fail
        go_cut [] from 29 to 99 (fun wx=>Gq w wx wo.heap.size wr.heap.size (wr.heap.size+1) (.slice av evs.length cv) evs f' 1 x1 x2 g k q true x1 0 cl)
        case first=>
         by_cases g0:g=0
         ·
          have n0:(g:Int)<=0:=by omega
          have E1:Hid (f'=f):=Lib.hid (by rw[HF.out,C8,if_neg (by omega)]);have E2:Hid (cl=(evs.length:Int)):=Lib.hid (by rw[HC.out,Co,if_neg (by omega)]);go_wp2;go_meet;case rel=>rw[E1.out,E2.out];exact IH
         ·
          have n0:(0:Int)<(g:Int):=by omega
          have gg:Hid (f'.getD g 0=cl):=Lib.hid (by rw[HC.out,HF.out,Co,if_pos n0,Int.toNat_natCast]);have WJ:=IH.l.row.cell (j:=g) (by rw[hfl.out];exact hg9);obtain⟨y,hy⟩:∃y,y=f.getD g 0:=⟨_,rfl⟩;rw[<-hy] at WJ;have HY:=Lib.hid hy;have FG:=IH.l.row.free g;clear hy g0;go_upto_if 73 with fail
          go_cut [] from 29 to 99 (fun wx=>Gq w wx wo.heap.size wr.heap.size (wr.heap.size+1) (.slice av evs.length cv) evs f' 1 x1 x2 g k q true x1 0 evs.length)
          case first=>
           by_cases y0:y=0
           ·
            have E1:Hid (f'=f.set g (evs.length:Int)):=Lib.hid (by rw[HF.out,C8,Int.toNat_natCast,if_pos ⟨n0,by rw[<-HY.out];exact y0⟩]);subst y0;go_wp2;go_meet;case rel=>rw[E1.out];exact IH.nQ g _
           ·
            have E1:Hid (f'=f):=Lib.hid (by rw[HF.out,C8,Int.toNat_natCast,if_neg (fun e=>y0 (HY.out.trans e.2))]);have ey:(y==0)=false:=by simp[y0]
            clear y0;go_wp2;go_meet;case rel=>rw[E1.out];exact IH
          case rest=>
           clear t0 t1 t2 t3 s0 s1 s2 s3 s4 s5 F2 F4 F5 z1 z2 z3;clear WJ FG IH;have WJ:=hcut.l.row.cell (j:=g) (by rw[hfl'.out];exact hg9);rw[gg.out] at WJ;obtain⟨t0,t1,t2,t3⟩:=hcut.deed;obtain⟨s0,s1,s2,s3,s4,s5⟩:=hcut.event;have F2:=hcut.free 2;have F4:=hcut.free 4;have F5:=hcut.free 5;obtain⟨z1,z2,z3⟩:=hcut.lt;go_wp2;go_meet;case rel=>exact hcut.set5 _
        case rest=>
         clear t0 t1 t2 t3 s0 s1 s2 s3 s4 s5 F2 F4 F5 z1 z2 z3;clear IH hI;obtain⟨t0,t1,t2,t3⟩:=hcut.deed;obtain⟨s0,s1,s2,s3,s4,s5⟩:=hcut.event;have F2:=hcut.free 2;have F4:=hcut.free 4;have F5:=hcut.free 5;obtain⟨z1,z2,z3⟩:=hcut.lt;go_wp2_with (at_builtin;refine wpList_append_own_at _ rfl _ _ 69 rfl w.heap.size 89 j0 (.agg #[.int .i64 0,.int .i64 0,.bool false,.int .i64 0,.int .i64 0,.int .i64 0]) 6 48 Tryz.underlying69 hj hy0 hy1 hy2 rfl (by decide) _ _ _ rfl (hcut.l.app.keep ((AC.refl _).alloc _)) ⟨_,0,none⟩ 1 1 (cE ((k:Int),(q:Int),true,x1,0,cl)) rfl rfl ?a1 ?a2 ?a3 ?a4 ?a5 ?_)
         case a1=>exact La _ _ _ _ _ _ _
         case a2=>exact Lb _
         case a3=>unfold maxLen;omega
         case a4=>omega
         case a5=>simp;omega
         intro v' w5 hown' hgrow _ hbl;have I5:=hcut.hit ((k:Int),(q:Int),true,x1,0,cl) hown' hgrow hbl;clear hown' hgrow hbl;obtain⟨es1,h1⟩:∃es1,es1=evs++[((k:Int),(q:Int),true,x1,0,cl)]:=⟨_,rfl⟩;have l1:es1.length<=evs.length+1:=by rw[h1];simp
         rw[<-h1] at I5;clear t0 t1 t2 t3 s0 s1 s2 s3 s4 s5 F2 F4 F5 z1 z2 z3;clear hcut;obtain⟨t0,t1,t2,t3⟩:=I5.deed;obtain⟨s0,s1,s2,s3,s4,s5⟩:=I5.event;have F2:=I5.free 2;have F4:=I5.free 4;have F5:=I5.free 5;obtain⟨z1,z2,z3⟩:=I5.lt;have HS1:Hid (BO k ds es (q+1)=(es1,f')):=Lib.hid (by rw[HS.out,h1]);clear h1 HS;go_wp2;go_roundw;case rel=>exact⟨q+1,es1,f',by omega,by go_num,HS1,hfl',by omega,I5.l⟩
         case measure=>simp[intOf];omega
      ·
       obtain⟨f',hf'⟩:∃f',f'=C8 (g:Int) evs.length f:=⟨_,rfl⟩;obtain⟨cl,hcl⟩:∃cl,cl=Co (g:Int) evs.length f:=⟨_,rfl⟩;have HS:Hid (BO k ds es (q+1)=(evs++[((k:Int),(q:Int),false,x1,x2,cl)],f')):=Lib.hid (by rw[HST.out,hf',hcl];rfl);have hfl':Hid (f'.length=10):=Lib.hid (by rw[hf',Ln];exact hfl.out);have HF:=Lib.hid hf';have HC:=Lib.hid hcl;clear HST hf' hcl;clear r4;go_upto_if 61 with fail
       have I1:=hI.boxes 2 x1 x2 (g:Int) (k:Int) (q:Int) false x1 x2 (evs.length:Int);go_cut [] from 29 to 99 (fun wx=>Gq w wx wo.heap.size wr.heap.size (wr.heap.size+1) (.slice av evs.length cv) evs f 2 x1 x2 g k q false x1 x2 evs.length)
       case first=>
        go_wp2;go_meet;case rel=>exact I1
       case rest=>
        clear I1 A0 A1 A2 A3 d1;have IH:=hcut;clear hcut;obtain⟨t0,t1,t2,t3⟩:=IH.deed;obtain⟨s0,s1,s2,s3,s4,s5⟩:=IH.event;have F2:=IH.free 2;have F4:=IH.free 4;have F5:=IH.free 5;obtain⟨z1,z2,z3⟩:=IH.lt;go_upto_if 67 with fail
        go_cut [] from 29 to 99 (fun wx=>Gq w wx wo.heap.size wr.heap.size (wr.heap.size+1) (.slice av evs.length cv) evs f' 2 x1 x2 g k q false x1 x2 cl)
        case first=>
         by_cases g0:g=0
         ·
          have n0:(g:Int)<=0:=by omega
          have E1:Hid (f'=f):=Lib.hid (by rw[HF.out,C8,if_neg (by omega)]);have E2:Hid (cl=(evs.length:Int)):=Lib.hid (by rw[HC.out,Co,if_neg (by omega)]);go_wp2;go_meet;case rel=>rw[E1.out,E2.out];exact IH
         ·
          have n0:(0:Int)<(g:Int):=by omega
          have gg:Hid (f'.getD g 0=cl):=Lib.hid (by rw[HC.out,HF.out,Co,if_pos n0,Int.toNat_natCast]);have WJ:=IH.l.row.cell (j:=g) (by rw[hfl.out];exact hg9);obtain⟨y,hy⟩:∃y,y=f.getD g 0:=⟨_,rfl⟩;rw[<-hy] at WJ;have HY:=Lib.hid hy;have FG:=IH.l.row.free g;clear hy g0;go_upto_if 73 with fail
          go_cut [] from 29 to 99 (fun wx=>Gq w wx wo.heap.size wr.heap.size (wr.heap.size+1) (.slice av evs.length cv) evs f' 2 x1 x2 g k q false x1 x2 evs.length)
          case first=>
           by_cases y0:y=0
           ·
            have E1:Hid (f'=f.set g (evs.length:Int)):=Lib.hid (by rw[HF.out,C8,Int.toNat_natCast,if_pos ⟨n0,by rw[<-HY.out];exact y0⟩]);subst y0;go_wp2;go_meet;case rel=>rw[E1.out];exact IH.nQ g _
           ·
            have E1:Hid (f'=f):=Lib.hid (by rw[HF.out,C8,Int.toNat_natCast,if_neg (fun e=>y0 (HY.out.trans e.2))]);have ey:(y==0)=false:=by simp[y0]
            clear y0;go_wp2;go_meet;case rel=>rw[E1.out];exact IH
          case rest=>
           clear t0 t1 t2 t3 s0 s1 s2 s3 s4 s5 F2 F4 F5 z1 z2 z3;clear WJ FG IH;have WJ:=hcut.l.row.cell (j:=g) (by rw[hfl'.out];exact hg9);rw[gg.out] at WJ;obtain⟨t0,t1,t2,t3⟩:=hcut.deed;obtain⟨s0,s1,s2,s3,s4,s5⟩:=hcut.event;have F2:=hcut.free 2;have F4:=hcut.free 4;have F5:=hcut.free 5;obtain⟨z1,z2,z3⟩:=hcut.lt;go_wp2;go_meet;case rel=>exact hcut.set5 _
        case rest=>
         clear t0 t1 t2 t3 s0 s1 s2 s3 s4 s5 F2 F4 F5 z1 z2 z3;clear IH hI;obtain⟨t0,t1,t2,t3⟩:=hcut.deed;obtain⟨s0,s1,s2,s3,s4,s5⟩:=hcut.event;have F2:=hcut.free 2;have F4:=hcut.free 4;have F5:=hcut.free 5;obtain⟨z1,z2,z3⟩:=hcut.lt;go_wp2_with (at_builtin;refine wpList_append_own_at _ rfl _ _ 69 rfl w.heap.size 89 j0 (.agg #[.int .i64 0,.int .i64 0,.bool false,.int .i64 0,.int .i64 0,.int .i64 0]) 6 48 Tryz.underlying69 hj hy0 hy1 hy2 rfl (by decide) _ _ _ rfl (hcut.l.app.keep ((AC.refl _).alloc _)) ⟨_,0,none⟩ 1 1 (cE ((k:Int),(q:Int),false,x1,x2,cl)) rfl rfl ?a1 ?a2 ?a3 ?a4 ?a5 ?_)
         case a1=>exact La _ _ _ _ _ _ _
         case a2=>exact Lb _
         case a3=>unfold maxLen;omega
         case a4=>omega
         case a5=>simp;omega
         intro v' w5 hown' hgrow _ hbl;have I5:=hcut.hit ((k:Int),(q:Int),false,x1,x2,cl) hown' hgrow hbl;clear hown' hgrow hbl;obtain⟨es1,h1⟩:∃es1,es1=evs++[((k:Int),(q:Int),false,x1,x2,cl)]:=⟨_,rfl⟩;have l1:es1.length<=evs.length+1:=by rw[h1];simp
         rw[<-h1] at I5;clear t0 t1 t2 t3 s0 s1 s2 s3 s4 s5 F2 F4 F5 z1 z2 z3;clear hcut;obtain⟨t0,t1,t2,t3⟩:=I5.deed;obtain⟨s0,s1,s2,s3,s4,s5⟩:=I5.event;have F2:=I5.free 2;have F4:=I5.free 4;have F5:=I5.free 5;obtain⟨z1,z2,z3⟩:=I5.lt;have HS1:Hid (BO k ds es (q+1)=(es1,f')):=Lib.hid (by rw[HS.out,h1]);clear h1 HS;go_wp2;go_roundw;case rel=>exact⟨q+1,es1,f',by omega,by go_num,HS1,hfl',by omega,I5.l⟩
         case measure=>simp[intOf];omega
      ·
       obtain⟨f',hf'⟩:∃f',f'=C8 (g:Int) evs.length f:=⟨_,rfl⟩;obtain⟨cl,hcl⟩:∃cl,cl=Co (g:Int) evs.length f:=⟨_,rfl⟩;have HS:Hid (BO k ds es (q+1)=(evs++[((k:Int),(q:Int),true,x1,0,cl),((k:Int),(q:Int),false,x1,x2,cl)],f')):=Lib.hid (by rw[HST.out,hf',hcl];rfl);have hfl':Hid (f'.length=10):=Lib.hid (by rw[hf',Ln];exact hfl.out);have HF:=Lib.hid hf';have HC:=Lib.hid hcl;clear HST hf' hcl;have n0:(g:Int)<=0:=by have:=r4 (by omega);omega
       clear r4;go_upto_if 61 with fail
       have I1:=hI.boxes 3 x1 x2 (g:Int) (k:Int) (q:Int) true x1 0 (evs.length:Int);go_cut [] from 29 to 99 (fun wx=>Gq w wx wo.heap.size wr.heap.size (wr.heap.size+1) (.slice av evs.length cv) evs f 3 x1 x2 g k q true x1 0 evs.length)
       case first=>
        go_wp2;go_meet;case rel=>exact I1
       case rest=>
        clear I1 A0 A1 A2 A3 d1;have IH:=hcut;clear hcut;obtain⟨t0,t1,t2,t3⟩:=IH.deed;obtain⟨s0,s1,s2,s3,s4,s5⟩:=IH.event;have F2:=IH.free 2;have F4:=IH.free 4;have F5:=IH.free 5;obtain⟨z1,z2,z3⟩:=IH.lt;go_upto_if 67 with fail
        go_cut [] from 29 to 99 (fun wx=>Gq w wx wo.heap.size wr.heap.size (wr.heap.size+1) (.slice av evs.length cv) evs f' 3 x1 x2 g k q true x1 0 cl)
        case first=>
         have E1:Hid (f'=f):=Lib.hid (by rw[HF.out,C8,if_neg (by omega)]);have E2:Hid (cl=(evs.length:Int)):=Lib.hid (by rw[HC.out,Co,if_neg (by omega)]);go_wp2;go_meet;case rel=>rw[E1.out,E2.out];exact IH
        case rest=>
         clear t0 t1 t2 t3 s0 s1 s2 s3 s4 s5 F2 F4 F5 z1 z2 z3;clear IH hI;obtain⟨t0,t1,t2,t3⟩:=hcut.deed;obtain⟨s0,s1,s2,s3,s4,s5⟩:=hcut.event;have F2:=hcut.free 2;have F4:=hcut.free 4;have F5:=hcut.free 5;obtain⟨z1,z2,z3⟩:=hcut.lt;go_wp2_with (at_builtin;refine wpList_append_own_at _ rfl _ _ 69 rfl w.heap.size 89 j0 (.agg #[.int .i64 0,.int .i64 0,.bool false,.int .i64 0,.int .i64 0,.int .i64 0]) 6 48 Tryz.underlying69 hj hy0 hy1 hy2 rfl (by decide) _ _ _ rfl (hcut.l.app.keep ((AC.refl _).alloc _)) ⟨_,0,none⟩ 1 1 (cE ((k:Int),(q:Int),true,x1,0,cl)) rfl rfl ?a1 ?a2 ?a3 ?a4 ?a5 ?_)
         case a1=>exact La _ _ _ _ _ _ _
         case a2=>exact Lb _
         case a3=>unfold maxLen;omega
         case a4=>omega
         case a5=>simp;omega
         intro v' w5 hown' hgrow _ hbl;have I5:=hcut.hit ((k:Int),(q:Int),true,x1,0,cl) hown' hgrow hbl;clear hown' hgrow hbl;obtain⟨es1,h1⟩:∃es1,es1=evs++[((k:Int),(q:Int),true,x1,0,cl)]:=⟨_,rfl⟩;have l1:es1.length<=evs.length+1:=by rw[h1];simp
         rw[<-h1] at I5;clear t0 t1 t2 t3 s0 s1 s2 s3 s4 s5 F2 F4 F5 z1 z2 z3;clear hcut;obtain⟨t0,t1,t2,t3⟩:=I5.deed;obtain⟨s0,s1,s2,s3,s4,s5⟩:=I5.event;have F2:=I5.free 2;have F4:=I5.free 4;have F5:=I5.free 5;obtain⟨z1,z2,z3⟩:=I5.lt;have HS1:Hid (BO k ds es (q+1)=(es1++[((k:Int),(q:Int),false,x1,x2,cl)],f')):=Lib.hid (by rw[HS.out,h1,List.append_assoc];rfl);clear h1 HS;go_upto_region 26 with fail
         have zz:w.heap.size<=w5.heap.size:=I5.l.keep.size;have I6:=I5.set2 false;clear t0 t1 t2 t3 s0 s1 s2 s3 s4 s5 F2 F4 F5 z1 z2 z3;obtain⟨t0,t1,t2,t3⟩:=I6.deed;obtain⟨s0,s1,s2,s3,s4,s5⟩:=I6.event;have F2:=I6.free 2;have F4:=I6.free 4;have F5:=I6.free 5;obtain⟨z1,z2,z3⟩:=I6.lt;go_upto_region 27 with fail
         have I7:=I6.set4 x2;clear t0 t1 t2 t3 s0 s1 s2 s3 s4 s5 F2 F4 F5 z1 z2 z3;obtain⟨t0,t1,t2,t3⟩:=I7.deed;obtain⟨s0,s1,s2,s3,s4,s5⟩:=I7.event;have F2:=I7.free 2;have F4:=I7.free 4;have F5:=I7.free 5;obtain⟨z1,z2,z3⟩:=I7.lt;go_wp2_with (at_builtin;refine wpList_append_own_at _ rfl _ _ 69 rfl w.heap.size 89 j0 (.agg #[.int .i64 0,.int .i64 0,.bool false,.int .i64 0,.int .i64 0,.int .i64 0]) 6 48 Tryz.underlying69 hj hy0 hy1 hy2 rfl (by decide) _ _ _ rfl (I7.l.app.keep ((AC.refl _).alloc _)) ⟨_,0,none⟩ 1 1 (cE ((k:Int),(q:Int),false,x1,x2,cl)) rfl rfl ?b1 ?b2 ?b3 ?b4 ?b5 ?_)
         case b1=>exact Vl _ _ (by simp) _ _ _ _ _ _
         case b2=>exact Lb _
         case b3=>unfold maxLen;omega
         case b4=>omega
         case b5=>simp;omega
         intro v' w5 hown' hgrow _ hbl;have I8:=I7.hit ((k:Int),(q:Int),false,x1,x2,cl) hown' hgrow (by simpa using hbl);clear hown' hgrow hbl;clear t0 t1 t2 t3 s0 s1 s2 s3 s4 s5 F2 F4 F5 z1 z2 z3;clear I5 I6 I7;go_wp2;go_roundw;case rel=>exact⟨q+1,_,f',by omega,by go_num,HS1,hfl',by simp;omega,I8.l⟩
         case measure=>simp[intOf];omega
      ·
       have HS:Hid (BO k ds es (q+1)=(evs,f)):=Lib.hid (by rw[HST.out];rfl);clear HST r4;go_wp2;go_roundw;case rel=>exact⟨q+1,evs,f,by omega,by go_num,HS,hfl,by omega,hI.more ((AC.refl _).alloc _)⟩
       case measure=>simp[intOf];omega
     ·
      obtain rfl:q=ds.length:=by omega
      go_wp2;go_roundw;case rel=>exact⟨k+1,evs,by omega,by go_num,Lib.hid (by rw[Az,<-KP.out,<-hE.out,hC.out]),by omega,hI.app,hI.keep⟩
      case measure=>simp[intOf];omega
   ·
    obtain rfl:k=AA.length:=by omega
    go_wp2;go_ret;exact⟨_,rfl,by rw[<-hE.out];exact ho,hK⟩
theorem Tryz.Z0:(Tryz.prog.info? 44).map (fun i=>(i.zero,i.size,i.bytes))=some (some (.agg #[.int .i64 0,.int .i64 0,.int .i64 0]),3,24):=by kernel_rfl
theorem QK (w:World)(m D:Nat)(v:BV)(nv rv:List Value)(bs N:Nat)(AA:List (List Dd))(b:Bd)(n c k:Nat)(h:AR w m D v nv rv bs N AA b)(S:EF AA b n)(hn:n<=1000)(hc:c<AA.length)(hk:k<(AA.getD c []).length):
  Calls Tryz.prog 95 #[.pointer (some ⟨D,0,none⟩),.int .i64 c,.int .i64 k] w fun e w'=>e = .returned (.tuple #[])/\∃nv' rv',AR w' m D v nv' rv' bs N AA (BM AA (AB AA) b c k)/\Ak w w' (BG D v nv rv) (BG D v nv' rv'):=by
 have hb0:=S.work;obtain⟨u1,u2⟩:=As hb0;have eB:AB AA=Az AA AA.length:=by rw[AB,if_pos hb0]
 have h12:(Az AA AA.length).length<=12:=(Ir hb0).1;have hok:FZ ((AA.getD c []).getD k zD)=true:=B7 hb0 hc k hk;have iK:Hid (BM AA (AB AA) b c k=BM AA (Az AA AA.length) b c k):=Lib.hid (by rw[eB]);have S':=S;have hsn:=S.sn;have hfr:=S.fr;rw[eB] at hsn hfr;have hbase:=h.base;obtain⟨vW,vP,vL,vN,vX,vS,vF,vR⟩:=v;have W0:=h.work.rd;obtain⟨aW,cW,eW,hW⟩:=id W0;simp only at eW;subst eW;rcases hW with h0|⟨bw,ow,rfl,hbw,hcw⟩
 . exfalso;rw[h0] at hc;simp at hc
 obtain⟨vd,d1,r1⟩:=hcw c hc;obtain⟨ad,cd,rfl,r1⟩:=r1;rcases r1 with h0|⟨bd,od,rfl,hbd,hcd⟩
 . exfalso;rw[h0] at hk;simp at hk
 obtain⟨q0,q1,q2,q3⟩:=hcd k hk;have HD:Hid (An AA c k=(AA.getD c []).getD k zD):=Lib.hid rfl;obtain⟨ds,hds⟩:∃ds,ds=AA.getD c []:=⟨_,rfl⟩;rw[<-hds] at d1 HD hk q0 q1 q2 q3 hok;clear hds;generalize ds.getD k zD=y at q0 q1 q2 q3 HD hok;obtain⟨y0,y1,y2,y3⟩:=y;simp only at q0 q1 q2 q3;have c0:w.cell? ⟨D,0,none⟩=some (.slice (some ⟨bw,ow,none⟩) AA.length cW):=h.cells.1;have i1:(0:Int)<=(c:Int):=Int.natCast_nonneg _;have i2:(c:Int)<(AA.length:Int):=by omega
 have i3:(0:Int)<=(k:Int):=Int.natCast_nonneg _;have i4:(k:Int)<(ds.length:Int):=by omega
 clear hcw hcd;go_enter Tryz.func95,Tryz.ntmps95
 go_upto_region 1 with fail
 obtain⟨wD,l8⟩:∃W:World,W=w.alloc (.cells #[.int .i64 y0,.int .i64 y1,.int .i64 y2,.int .i64 y3] 51):=⟨_,rfl⟩;have kD:AC w wD:=by rw[l8];exact (AC.refl w).alloc _
 have lD:w.heap.size<wD.heap.size:=by rw[l8,AD];omega
 have BX:Hid (∀W:World,AC wD W->W.cell? ⟨w.heap.size,0,none⟩=some (.int .i64 y0)/\W.cell? ⟨w.heap.size,1,none⟩=some (.int .i64 y1)/\W.cell? ⟨w.heap.size,2,none⟩=some (.int .i64 y2)/\W.cell? ⟨w.heap.size,3,none⟩=some (.int .i64 y3)):=Lib.hid (by
  rw[l8]
  exact fun W k=>⟨AS k 0,AS k 1,AS k 2,AS k 3⟩)
 rw[<-l8];clear l8;have NB:¬BG D ⟨.slice (some ⟨bw,ow,none⟩) AA.length cW,vP,vL,vN,vX,vS,vF,vR⟩ nv rv w.heap.size:=fun hB=>by have:=(h.blk _ hB).2.1;omega
 have H1:=h.keep kD;have W1:=W0.keep kD;have c1:=(kD.cell (b:=D) (o:=0) hbase.2).trans c0;have T1:=(Ak.refl w (BG D ⟨.slice (some ⟨bw,ow,none⟩) AA.length cW,vP,vL,vN,vX,vS,vF,vR⟩ nv rv)).keep kD;clear c0 d1 q0 q1 q2 q3 h W0;go_wp2_with fail
 refine (GZ _ _ _ W1 u1 u2).mono ?_;rintro e w1 ⟨v1,rfl,a1,k1⟩;have re:=a1.rd;generalize Az AA AA.length=es at *;clear a1 c1 W1;go_wp2_with fail
 refine (Oj _ _ _ c k re h12).mono ?_;rintro e w2 ⟨rfl,k2⟩;have K2:=k1.trans k2;have H2:=H1.keep K2;have T2:=T1.keep K2;replace re:=re.keep k2;obtain⟨g0,g1,g2,g3⟩:=BX.out _ K2;have l2:w.heap.size<w2.heap.size:=Nat.lt_of_lt_of_le lD K2.size;have hbD:=H2.base;have hkind:y0=1\/y0=2\/y0=3\/y0=4:=by simp only[FZ,Dy,decide_eq_true_eq] at hok;omega
 have hpl:0<=y1/\y1<=2:=by simp only[FZ,Dy,decide_eq_true_eq] at hok;omega
 have hgr:0<=y3:=by simp only[FZ,Dy,decide_eq_true_eq] at hok;omega
 obtain⟨p,rfl⟩:=Int.eq_ofNat_of_zero_le hpl.1;have hp3:p<3:=by omega
 have jY:Hid (∀y:Dd,An AA c k=y->BM AA es b c k=if y.1=1 then Fv (AX Aj es) b (JB es c k) (C3 b c y.2.1.toNat).1 (C3 b c y.2.1.toNat).2
   else if y.1=3 then Dw (Fv (AX Aj es) b (JB es c k) (b.AM.getD y.2.1.toNat 0) (b.AQ.getD y.2.1.toNat 0)) y.2.1.toNat y.2.2.1 (JB es c k+1)
   else if y.1=2/\0<y.2.2.2 then Dw b y.2.1.toNat y.2.2.1 (JB es c k)
   else if y.1=2 then { b with AH:=b.AH.set c (b.AH.getD c []++[(y.2.1,y.2.2.1,JB es c k)]) }
   else b):=Lib.hid (fun y hy=>by subst hy;rfl)
 have VC:=Lib.hid (jY.out _ HD.out);simp only[Int.toNat_natCast] at VC;have evr:-1<=JB es c k/\JB es c k<=12:=eU es c k h12;generalize JB es c k=EV at *;clear jY HD k1 k2 K2 H1 T1 BX hok;rcases hkind with rfl|rfl|rfl|rfl
 ·
  have HM:Hid (BM AA es b c k=Fv (AX Aj es) b EV (C3 b c p).1 (C3 b c p).2):=Lib.hid (by rw[VC.out,if_pos rfl]);have CR:=L7 w2.drew _ AA b c p H2.drew.rd (by rw[S.AH];exact hc) (by rw[S.AM];exact hp3) (by rw[S.AQ];exact hp3) (by have:=S.nl c;omega);obtain⟨e0,e1,e2,e3,e4,e5,e6,e7⟩:=H2.drew.cells;simp only at e0 e1 e2 e3 e4 e5 e6 e7;have zD:D<w2.drew.heap.size:=hbD.2;have zB:w.heap.size<w2.drew.heap.size:=l2;have g1':w2.drew.cell? ⟨w.heap.size,1,none⟩=some (.int .i64 (p:Int)):=g1;generalize C3 b c p=RG at CR HM;clear VC;go_wp2
  go_region_held3 (fun w'=>w'.cell? ⟨D,0,none⟩=some (.slice (some ⟨bw,ow,none⟩) AA.length cW)/\w'.cell? ⟨D,1,none⟩=some vP/\w'.cell? ⟨D,2,none⟩=some vL/\w'.cell? ⟨D,3,none⟩=some vN/\w'.cell? ⟨D,4,none⟩=some vX/\w'.cell? ⟨D,5,none⟩=some vS/\w'.cell? ⟨D,6,none⟩=some vF/\w'.cell? ⟨D,7,none⟩=some vR/\w'.cell? ⟨w.heap.size,1,none⟩=some (.int .i64 (p:Int)))
   (first|go_keep|(go_split_ands;refine⟨?_,?_,?_,?_,?_,?_,?_,?_,?_⟩<;>(rw[kk.cell (by assumption)];assumption)))
   ((go_at_call 59;refine CR.mono ?_;rintro e wz ⟨rfl,kk⟩))
  all_goals
   have H3:=H2.drew.keep kk;have T3:=(T2.keep (AC.refl w2).drew).keep kk;have re3:=(re.keep (AC.refl w2).drew).keep kk;clear e0 e1 e2 e3 e4 e5 e6 e7 g0 g1 g2 g3 g1' CR;go_wp2_with fail
   refine (L8 _ m D _ nv rv bs N AA b _ es EV RG.1 RG.2 H3 re3 h12 hsn hfr).mono ?_;rintro e w4 ⟨rfl,H4,T4⟩;go_wp2;go_end0;exact⟨rfl,nv,rv,by rw[iK.out,HM.out];exact H4,T3.trans T4⟩
 ·
  by_cases hg:0<y3
  ·
   have HM:Hid (BM AA es b c k=Dw b p y2 EV):=Lib.hid (by rw[VC.out,if_neg (by decide),if_neg (by decide),if_pos ⟨rfl,hg⟩]);clear VC;go_wp2_with fail
   refine (GY _ m D _ nv rv bs N AA b p y2 EV H2 (by rw[S.AM];exact hp3) (by rw[S.AQ];exact hp3) (by rw[S.rws];exact hp3) (by have:=S.rl p;omega)).mono ?_;rintro e w4 ⟨rfl,rv',H4,T4⟩;go_wp2;go_end0;exact⟨rfl,nv,rv',by rw[iK.out,HM.out];exact H4,T2.trans T4⟩
  ·
   have HM:Hid (BM AA es b c k={ b with AH:=b.AH.set c (b.AH.getD c []++[((p:Int),y2,EV)]) }):=Lib.hid (by rw[VC.out,if_neg (by decide),if_neg (by decide),if_neg (fun h=>hg h.2),if_pos rfl]);obtain⟨i0,hi,hz0,hz1,hz2⟩:=info_parts Tryz.Z0;have hcn:c<b.AH.length:=by rw[S.AH];exact hc
   have hcv:c<nv.length:=by rw[H2.ln];exact hcn
   obtain⟨aN,Ki,eN,hN⟩:=H2.drew.hN;rcases hN with h0|⟨gn,rfl,fU,dn⟩
   . exfalso;rw[h0] at hcn;simp at hcn
   simp only at eN;subst eN;have d3:=dn c hcn;have c3:w2.drew.cell? ⟨D,3,none⟩=some (.slice (some ⟨gn,0,none⟩) b.AH.length Ki):=H2.drew.cells.2.2.2.1;obtain⟨au,cu,hu⟩:=(H2.oN hcn).shape;have HU:=Lib.hid hu;rw[hu] at d3;have H3:=(H2.keep ((AC.refl w2).alloc (.cells #[.int .i64 (p:Int),.int .i64 y2,.int .i64 EV] 44))).drew;have T3:=T2.keep (((AC.refl w2).alloc (.cells #[.int .i64 (p:Int),.int .i64 y2,.int .i64 EV] 44)).drew);have o3:((w2.alloc (.cells #[.int .i64 (p:Int),.int .i64 y2,.int .i64 EV] 44)).drew).ownsRow m 44 3 (.slice au (b.AH.getD c []).length cu) (b.AH.getD c []).length ((b.AH.getD c []).flatMap cN):=by rw[<-hu];exact H3.oN hcn
   have s3:m<=((w2.alloc (.cells #[.int .i64 (p:Int),.int .i64 y2,.int .i64 EV] 44)).drew).heap.size:=by have:=H3.base;omega
   have nl:=S.nl c;have g1':w2.drew.cell? ⟨w.heap.size,1,none⟩=some (.int .i64 (p:Int)):=g1;have g2':w2.drew.cell? ⟨w.heap.size,2,none⟩=some (.int .i64 y2):=g2;have zD:D<w2.drew.heap.size:=hbD.2;have zB:w.heap.size<w2.drew.heap.size:=l2;have zN:gn<w2.drew.heap.size:=fU;have qg:D<w2.heap.size:=hbD.2;have zN2:gn<w2.heap.size:=fU;have j2:(c:Int)<(b.AH.length:Int):=by omega
   have hg0:¬((0:Int)<y3):=hg;obtain⟨Z,hZ⟩:∃Z,Z=b.AH.getD c []:=⟨_,rfl⟩;rw[<-hZ] at d3 o3 nl HM HU;clear hZ hu dn VC;have c3w:w2.cell? ⟨D,3,none⟩=some (.slice (some ⟨gn,0,none⟩) b.AH.length Ki):=c3;have d3w:w2.cell? ⟨gn,c,none⟩=some (.slice au Z.length cu):=d3;have m1:Z.length+1<=maxLen:=by unfold maxLen;omega
   have m2:(Z.length+1)*24<=140737488355328:=by omega
   have d3a:(w2.alloc (.cells #[.int .i64 (p:Int),.int .i64 y2,.int .i64 EV] 44)).drew.cell? ⟨gn,c,none⟩=some (.slice au Z.length cu):=((((AC.refl w2).alloc _).drew).cell zN2).trans d3;have d3b:(w2.alloc (.cells #[.int .i64 (p:Int),.int .i64 y2,.int .i64 EV] 44)).cell? ⟨gn,c,none⟩=some (.slice au Z.length cu):=d3a;have mW:gn≠w.heap.size:=fun e=>NB ⟨.AH,trivial,by show some gn=_;rw[e]⟩
   have o9:∀(W:World),World.grownBy ((w2.alloc (.cells #[.int .i64 (p:Int),.int .i64 y2,.int .i64 EV] 44)).drew) W (Value.slice au Z.length cu).ownBlock->W.cell? ⟨D,3,none⟩=some (.slice (some ⟨gn,0,none⟩) b.AH.length Ki)/\W.cell? ⟨w.heap.size,1,none⟩=some (.int .i64 (p:Int))/\W.cell? ⟨w.heap.size,2,none⟩=some (.int .i64 y2):=fun W hgrow=>by
    have ne:some w.heap.size≠(Value.slice au Z.length cu).ownBlock:=fun e=>NB ⟨.nt c,hcv,by show (nv.getD c AE).ownBlock=_;rw[HU.out,<-e]⟩
    have bk:=hgrow.block w.heap.size (Nat.lt_of_lt_of_le l2 (by simp)) ne;have kA:=((AC.refl w2).alloc (.cells #[.int .i64 (p:Int),.int .i64 y2,.int .i64 EV] 44)).drew;exact⟨(H3.stay (.nt c) hcv (by simp) (by show World.grownBy _ _ (nv.getD c AE).ownBlock;rw[HU.out];exact hgrow) 3).trans ((kA.cell hbD.2).trans c3),(World.cell?_of_block bk).trans ((kA.cell l2).trans g1),(World.cell?_of_block bk).trans ((kA.cell l2).trans g2)⟩
   have zDa:D<((w2.alloc (.cells #[.int .i64 (p:Int),.int .i64 y2,.int .i64 EV] 44)).drew).heap.size:=Nat.lt_of_lt_of_le qg (by simp);have c3a:(w2.alloc (.cells #[.int .i64 (p:Int),.int .i64 y2,.int .i64 EV] 44)).cell? ⟨D,3,none⟩=some (.slice (some ⟨gn,0,none⟩) b.AH.length Ki):=(((AC.refl w2).alloc _).cell qg).trans c3
   have bA:Hid (∀(gg cap5:Nat) (w5:World),w5.ownsRow m 44 3 (.slice (some ⟨gg,0,none⟩) (Z.length+1) cap5) (Z.length+1) (Z.flatMap cN++[.int .i64 (p:Int),.int .i64 y2,.int .i64 EV])->World.grownBy ((w2.alloc (.cells #[.int .i64 (p:Int),.int .i64 y2,.int .i64 EV] 44)).drew) w5 (Value.slice au Z.length cu).ownBlock->((Value.slice au Z.length cu).ownBlock=some gg\/gg=w2.heap.size+1) ->
     (w5.cell? ⟨D,3,none⟩=some (.slice (some ⟨gn,0,none⟩) b.AH.length Ki)/\w5.cell? ⟨w.heap.size,1,none⟩=some (.int .i64 (p:Int))/\w5.cell? ⟨w.heap.size,2,none⟩=some (.int .i64 y2)) /\
     ((w5.setCell ⟨gn,c,none⟩ (.slice (some ⟨gg,0,none⟩) (Z.length+1) cap5)).cell? ⟨D,3,none⟩=some (.slice (some ⟨gn,0,none⟩) b.AH.length Ki)/\(w5.setCell ⟨gn,c,none⟩ (.slice (some ⟨gg,0,none⟩) (Z.length+1) cap5)).cell? ⟨w.heap.size,1,none⟩=some (.int .i64 (p:Int))/\(w5.setCell ⟨gn,c,none⟩ (.slice (some ⟨gg,0,none⟩) (Z.length+1) cap5)).cell? ⟨w.heap.size,2,none⟩=some (.int .i64 y2)) /\
     w5.cell? ⟨gn,c,none⟩=some (.slice au Z.length cu)/\w5.frozen? ⟨gn,c,none⟩=false /\
     ∃nv' rv',AR (w5.setCell ⟨gn,c,none⟩ (.slice (some ⟨gg,0,none⟩) (Z.length+1) cap5)) m D ⟨.slice (some ⟨bw,ow,none⟩) AA.length cW,vP,vL,.slice (some ⟨gn,0,none⟩) b.AH.length Ki,vX,vS,vF,vR⟩ nv' rv' bs N AA (BM AA (AB AA) b c k)/\Ak w (w5.setCell ⟨gn,c,none⟩ (.slice (some ⟨gg,0,none⟩) (Z.length+1) cap5)) (BG D ⟨.slice (some ⟨bw,ow,none⟩) AA.length cW,vP,vL,.slice (some ⟨gn,0,none⟩) b.AH.length Ki,vX,vS,vF,vR⟩ nv rv) (BG D ⟨.slice (some ⟨bw,ow,none⟩) AA.length cW,vP,vL,.slice (some ⟨gn,0,none⟩) b.AH.length Ki,vX,vS,vF,vR⟩ nv' rv')):=Lib.hid (fun gg cap5 w5 hown5 hgrow hat=>by
    have HH:=H3.Lu hcn (u:=(.slice (some ⟨gg,0,none⟩) (Z.length+1) cap5)) (ns:=Z++[((p:Int),y2,EV)]) (by rw[HU.out];exact hgrow) (by rw[HU.out];rcases hat with h|h;exact .inl h.symm;exact .inr (.inl (by rw[h];simp[Value.ownBlock]))) (De hown5) rfl;obtain⟨HO,hcell,hfr⟩:=HH;rw[HU.out] at hcell;refine⟨o9 w5 hgrow,⟨HO.cells.2.2.2.1,(World.cell?_of_block (heap_setCell_other w5 ⟨gn,c,none⟩ w.heap.size _ (fun e=>mW e.symm))).trans (o9 w5 hgrow).2.1,(World.cell?_of_block (heap_setCell_other w5 ⟨gn,c,none⟩ w.heap.size _ (fun e=>mW e.symm))).trans (o9 w5 hgrow).2.2⟩,hcell,hfr,nv.set c (.slice (some ⟨gg,0,none⟩) (Z.length+1) cap5),rv,by rw[iK.out,HM.out];exact HO,?_⟩;refine ((T3.grown hgrow (fun g hg=>⟨.nt c,hcv,by show (nv.getD c AE).ownBlock=_;rw[HU.out];exact hg⟩)).grown (Ad _ gn c _) (fun g hg=>⟨.AH,trivial,hg⟩)).more (fun g hg=>?_);rcases LY hcv hg with h1|h1
    . exact .inl h1
    ·
     rcases hat with h2|h2
     . exact .inl ⟨.nt c,hcv,by show (nv.getD c AE).ownBlock=_;rw[HU.out,h2];exact h1⟩
     ·
      have e2:gg=g:=Option.some.inj h1;have:=T2.size
      right;omega)
   have g1a:(w2.alloc (.cells #[.int .i64 (p:Int),.int .i64 y2,.int .i64 EV] 44)).cell? ⟨w.heap.size,1,none⟩=some (.int .i64 (p:Int)):=(((AC.refl w2).alloc _).cell l2).trans g1;have HC0:w2.drew.cell? ⟨D,3,none⟩=some (.slice (some ⟨gn,0,none⟩) b.AH.length Ki)/\w2.drew.cell? ⟨w.heap.size,1,none⟩=some (.int .i64 (p:Int))/\w2.drew.cell? ⟨w.heap.size,2,none⟩=some (.int .i64 y2):=⟨c3,g1',g2'⟩;have HC1:(w2.alloc (.cells #[.int .i64 (p:Int),.int .i64 y2,.int .i64 EV] 44)).drew.cell? ⟨D,3,none⟩=some (.slice (some ⟨gn,0,none⟩) b.AH.length Ki)/\(w2.alloc (.cells #[.int .i64 (p:Int),.int .i64 y2,.int .i64 EV] 44)).drew.cell? ⟨w.heap.size,1,none⟩=some (.int .i64 (p:Int))/\(w2.alloc (.cells #[.int .i64 (p:Int),.int .i64 y2,.int .i64 EV] 44)).drew.cell? ⟨w.heap.size,2,none⟩=some (.int .i64 y2):=⟨((((AC.refl w2).alloc _).drew).cell qg).trans c3,((((AC.refl w2).alloc _).drew).cell l2).trans g1',((((AC.refl w2).alloc _).drew).cell l2).trans g2'⟩;clear o9 HM HU T3 H3 S S' hn hc hb0 u1 u2 eB h12 iK hsn hfr hbase hbw hbd hk H2 T2 re hbD evr hgr hpl hp3 hg NB kD lD mW hcn hcv nl fU zD zB zN i1 i2 i3 i4;have j0:(0:Int)<=(c:Int):=Int.natCast_nonneg _;go_wp2_with fail
   clear g0 g3 hg0;refine wp_region_held_drew (S:=(fun w'=>w'.cell? ⟨D,3,none⟩=some (.slice (some ⟨gn,0,none⟩) b.AH.length Ki)/\w'.cell? ⟨w.heap.size,1,none⟩=some (.int .i64 (p:Int))/\w'.cell? ⟨w.heap.size,2,none⟩=some (.int .i64 y2))) (by kernel_rfl) ?_ (fun hHeld=>?_)
   . exact HC0
   refine AO 0 102 (v:=?_) ?_ ?_;rotate_left
   ·
    intro wx hSw;go_simp;with_reducible rfl
   refine AO 1 103 (v:=?_) ?_ ?_;rotate_left
   ·
    intro wx hSw;go_simp;with_reducible rfl
   refine AO 2 104 (v:=?_) ?_ ?_;rotate_left
   ·
    intro wx hSw;go_simp;with_reducible rfl
   refine AO 3 105 (v:=?_) ?_ ?_;rotate_left
   ·
    intro wx hSw;go_simp;with_reducible rfl
   refine AO 4 106 (v:=?_) ?_ ?_;rotate_left
   ·
    intro wx hSw;go_simp;with_reducible rfl
   refine AO 5 107 (v:=?_) ?_ ?_;rotate_left
   ·
    intro wx hSw;go_simp;with_reducible rfl
   refine AO 6 108 (v:=?_) ?_ ?_;rotate_left
   ·
    intro wx hSw;go_simp;with_reducible rfl
   refine AO 7 109 (v:=?_) ?_ ?_;rotate_left
   ·
    intro wx hSw;go_simp;with_reducible rfl
   refine AO 8 110 (v:=?_) ?_ ?_;rotate_left
   ·
    intro wx hSw;go_simp;with_reducible rfl
   refine AO 9 111 (v:=?_) ?_ ?_;rotate_left
   ·
    intro wx hSw;go_simp;with_reducible rfl
   refine AO 10 112 (v:=?_) ?_ ?_;rotate_left
   ·
    intro wx hSw;go_simp;with_reducible rfl
   refine AO 12 114 (v:=?_) ?_ ?_;rotate_left
   ·
    intro wx hSw;go_simp;with_reducible rfl
   refine AO 13 115 (v:=?_) ?_ ?_;rotate_left
   ·
    intro wx hSw;go_simp;with_reducible rfl
   refine AO 14 116 (v:=?_) ?_ ?_;rotate_left
   ·
    intro wx hSw;go_simp;with_reducible rfl
   refine AO 15 117 (v:=?_) ?_ ?_;rotate_left
   ·
    intro wx hSw;go_simp;with_reducible rfl
   refine AO 16 118 (v:=?_) ?_ ?_;rotate_left
   ·
    intro wx hSw;go_simp;with_reducible rfl
   refine AO 17 119 (v:=?_) ?_ ?_;rotate_left
   ·
    intro wx hSw;go_simp;with_reducible rfl
   simp only[Act.put,List.setIfInBounds_toArray,List.set_cons_zero,List.set_cons_succ];refine wpAnyH_ready (rs:=[11,18]) (by kernel_rfl) (by simp) ?_;refine AllReadyH.cons rfl (fun K hK=>?_) (AllReadyH.cons rfl (fun K hK=>?_) AllReadyH.nil)
   ·
    go_simp;refine hK.out _ _ ?_ (fun hHeld=>?_)
    . exact HC0
    clear hK K;refine wpAnyH_ready (rs:=[18]) (by kernel_rfl) (by simp) ?_;refine AllReadyH.cons rfl (fun K hK=>?_) AllReadyH.nil;go_simp;refine hK.out _ _ ?_ (fun hHeld=>?_)
    . exact HC1
    clear hK K;refine wpAnyH_ready (rs:=[19]) (by kernel_rfl) (by simp) ?_;refine AllReadyH.cons rfl (fun K hK=>?_) AllReadyH.nil;refine step_append_lies _ (by rfl) _ _ _ (by rfl) m 44 i0 _ 3 24 Tryz.underlying42 hi hz0 hz1 hz2 rfl (by omega) (.slice au Z.length cu) Z.length (Z.flatMap cN) (by rfl) o3 ⟨w2.heap.size,0,none⟩ 1 1 [.int .i64 (p:Int),.int .i64 y2,.int .i64 EV] (by rfl) (by rfl) (World.news_of_block (cs:=#[.int .i64 (p:Int),.int .i64 y2,.int .i64 EV]) (t:=44) (fr:=(0,0)) (heap_alloc_new w2 _)) (by simp[Value.oneCell']) (by omega) m1 m2 s3 (w2.heap.size+1) (by simp) ?_;intro gg cap5 w5 hown5 hgrow hat hlt5;obtain⟨HC,HC2,hcell,hfr,HO⟩:=bA.out gg cap5 w5 hown5 hgrow hat;have HO:=Lib.hid HO;clear hown5 hgrow hat hlt5;refine hK.out _ _ ?_ (fun hHeld=>?_)
    . exact HC
    clear hK K;simp only[Act.put,List.setIfInBounds_toArray];refine AO 20 122 (v:=?_) ?_ ?_;rotate_left
    ·
     intro wx hSw;go_simp;with_reducible rfl
    simp only[Act.put];refine wpAnyH_ready (rs:=[21]) (by kernel_rfl) (by simp) ?_;refine AllReadyH.cons rfl (fun K hK=>?_) AllReadyH.nil;go_simp;refine hK.out _ _ ?_ (fun hHeld=>?_)
    . exact HC2
    clear hK K;refine wpAnyH_done (by kernel_rfl) ?_ _;clear HC HC2 hcell hfr hHeld;go_wp2;go_end0;exact⟨rfl,HO.out⟩
   ·
    go_simp;refine hK.out _ _ ?_ (fun hHeld=>?_)
    . exact HC1
    clear hK K;refine wpAnyH_ready (rs:=[11]) (by kernel_rfl) (by simp) ?_;refine AllReadyH.cons rfl (fun K hK=>?_) AllReadyH.nil;go_simp;refine hK.out _ _ ?_ (fun hHeld=>?_)
    . exact HC1
    clear hK K;refine wpAnyH_ready (rs:=[19]) (by kernel_rfl) (by simp) ?_;refine AllReadyH.cons rfl (fun K hK=>?_) AllReadyH.nil;refine step_append_lies _ (by rfl) _ _ _ (by rfl) m 44 i0 _ 3 24 Tryz.underlying42 hi hz0 hz1 hz2 rfl (by omega) (.slice au Z.length cu) Z.length (Z.flatMap cN) (by rfl) o3 ⟨w2.heap.size,0,none⟩ 1 1 [.int .i64 (p:Int),.int .i64 y2,.int .i64 EV] (by rfl) (by rfl) (World.news_of_block (cs:=#[.int .i64 (p:Int),.int .i64 y2,.int .i64 EV]) (t:=44) (fr:=(0,0)) (heap_alloc_new w2 _)) (by simp[Value.oneCell']) (by omega) m1 m2 s3 (w2.heap.size+1) (by simp) ?_;intro gg cap5 w5 hown5 hgrow hat hlt5;obtain⟨HC,HC2,hcell,hfr,HO⟩:=bA.out gg cap5 w5 hown5 hgrow hat;have HO:=Lib.hid HO;clear hown5 hgrow hat hlt5;refine hK.out _ _ ?_ (fun hHeld=>?_)
    . exact HC
    clear hK K;simp only[Act.put,List.setIfInBounds_toArray];refine AO 20 122 (v:=?_) ?_ ?_;rotate_left
    ·
     intro wx hSw;go_simp;with_reducible rfl
    simp only[Act.put];refine wpAnyH_ready (rs:=[21]) (by kernel_rfl) (by simp) ?_;refine AllReadyH.cons rfl (fun K hK=>?_) AllReadyH.nil;go_simp;refine hK.out _ _ ?_ (fun hHeld=>?_)
    . exact HC2
    clear hK K;refine wpAnyH_done (by kernel_rfl) ?_ _;clear HC HC2 hcell hfr hHeld;go_wp2;go_end0;exact⟨rfl,HO.out⟩
 ·
  have HM:Hid (BM AA es b c k=Dw (Fv (AX Aj es) b EV (b.AM.getD p 0) (b.AQ.getD p 0)) p y2 (EV+1)):=Lib.hid (by rw[VC.out,if_neg (by decide),if_pos rfl]);have hpp:p<b.AM.length:=by rw[S.AM];exact hp3
  have hpl':p<b.AQ.length:=by rw[S.AQ];exact hp3
  obtain⟨gp,cp,eP,lp,dp,-⟩:=H2.drew.oP.lit hpp;obtain⟨gl,cl,eL,ll,dl,-⟩:=H2.drew.oL.lit hpl';simp only at eP eL;subst eP eL;have e1:w2.drew.cell? ⟨D,1,none⟩=some (.slice (some ⟨gp,0,none⟩) b.AM.length cp):=H2.drew.cells.2.1;have e2:w2.drew.cell? ⟨D,2,none⟩=some (.slice (some ⟨gl,0,none⟩) b.AQ.length cl):=H2.drew.cells.2.2.1;have f1:=dp p hpp;have f2:=dl p hpl';have g1':w2.drew.cell? ⟨w.heap.size,1,none⟩=some (.int .i64 (p:Int)):=g1;have j1:(0:Int)<=(p:Int):=Int.natCast_nonneg _;have j2:(p:Int)<(b.AM.length:Int):=by omega
  have j3:(p:Int)<(b.AQ.length:Int):=by omega
  have SE:=S.see EV (b.AM.getD p 0) (b.AQ.getD p 0);rw[eB] at SE;obtain⟨xp,hxp⟩:∃x,x=b.AM.getD p 0:=⟨_,rfl⟩;obtain⟨xl,hxl⟩:∃x,x=b.AQ.getD p 0:=⟨_,rfl⟩;rw[<-hxp] at f1 SE HM;rw[<-hxl] at f2 SE HM;have HXP:Hid (b.AM.getD p 0=xp):=Lib.hid hxp.symm;have zy:Hid (b.AQ.getD p 0=xl):=Lib.hid hxl.symm;clear hxp hxl;have CS:=fun (W:World) (hw:W=w2.drew)=>L8 W m D _ nv rv bs N AA b _ es EV xp xl (hw ▸ H2.drew) (hw ▸ re.keep (AC.refl w2).drew) h12 hsn hfr
  have zf:∀(W:World),AR W m D ⟨.slice (some ⟨bw,ow,none⟩) AA.length cW,.slice (some ⟨gp,0,none⟩) b.AM.length cp,.slice (some ⟨gl,0,none⟩) b.AQ.length cl,vN,vX,vS,vF,vR⟩ nv rv bs N AA (Fv (AX Aj es) b EV xp xl)->Ak w2.drew W (BG D ⟨.slice (some ⟨bw,ow,none⟩) AA.length cW,.slice (some ⟨gp,0,none⟩) b.AM.length cp,.slice (some ⟨gl,0,none⟩) b.AQ.length cl,vN,vX,vS,vF,vR⟩ nv rv) (BG D ⟨.slice (some ⟨bw,ow,none⟩) AA.length cW,.slice (some ⟨gp,0,none⟩) b.AM.length cp,.slice (some ⟨gl,0,none⟩) b.AQ.length cl,vN,vX,vS,vF,vR⟩ nv rv)->W.cell? ⟨D,1,none⟩=some (.slice (some ⟨gp,0,none⟩) b.AM.length cp)/\W.cell? ⟨D,2,none⟩=some (.slice (some ⟨gl,0,none⟩) b.AQ.length cl)/\W.cell? ⟨gp,p,none⟩=some (.int .i64 xp)/\W.cell? ⟨gl,p,none⟩=some (.int .i64 xl)/\W.cell? ⟨w.heap.size,1,none⟩=some (.int .i64 (p:Int)):=fun W h1 t1=>by
   obtain⟨gp',cp',yA,-,dp',-⟩:=h1.oP.lit hpp;obtain⟨gl',cl',eL',-,dl',-⟩:=h1.oL.lit hpl';simp only[Value.slice.injEq,Option.some.injEq,Addr.mk.injEq,and_true] at yA eL';obtain⟨rfl,-,rfl⟩:=yA;obtain⟨rfl,-,rfl⟩:=eL';exact⟨h1.cells.2.1,h1.cells.2.2.1,by rw[<-HXP.out];exact dp' p hpp,by rw[<-zy.out];exact dl' p hpl',(t1.cell l2 NB).trans g1'⟩
  have jw:IntKind.i64.wrap (EV+1)=EV+1:=by rw[IntKind.wrap_i64];omega
  clear VC dp dl;go_wp2;have zD:D<w2.drew.heap.size:=hbD.2;have zB:w.heap.size<w2.drew.heap.size:=l2
  go_region_held3 (fun w'=>w'.cell? ⟨D,1,none⟩=some (.slice (some ⟨gp,0,none⟩) b.AM.length cp)/\w'.cell? ⟨D,2,none⟩=some (.slice (some ⟨gl,0,none⟩) b.AQ.length cl)/\w'.cell? ⟨gp,p,none⟩=some (.int .i64 xp)/\w'.cell? ⟨gl,p,none⟩=some (.int .i64 xl)/\w'.cell? ⟨w.heap.size,1,none⟩=some (.int .i64 (p:Int)))
   (first|go_keep|exact HC)
   ((go_at_call 115;refine (CS _ rfl).mono ?_;rintro e w3 ⟨rfl,H3,T3⟩;have HC:=zf w3 H3 T3))
  all_goals
   have T3':=(T2.keep (AC.refl w2).drew).trans T3;have b1:w3.cell? ⟨w.heap.size,1,none⟩=some (.int .i64 (p:Int)):=(T3.cell l2 NB).trans g1';have b2:w3.cell? ⟨w.heap.size,2,none⟩=some (.int .i64 y2):=(T3.cell l2 NB).trans g2;clear e1 e2 f1 f2 g0 g1 g2 g3 g1';go_wp2_with fail
   refine (GY _ m D _ nv rv bs N AA _ p y2 (EV+1) H3 (by rw[SE.AM];exact hp3) (by rw[SE.AQ];exact hp3) (by rw[SE.rws];exact hp3) (by have:=SE.rl p;omega)).mono ?_;rintro e w4 ⟨rfl,rv',H4,T4⟩;go_wp2;go_end0;exact⟨rfl,nv,rv',by rw[iK.out,HM.out];exact H4,T3'.trans T4⟩
 ·
  have HM:Hid (BM AA es b c k=b):=Lib.hid (by rw[VC.out,if_neg (by decide),if_neg (by decide),if_neg (fun h=>absurd h.1 (by decide)),if_neg (by decide)]);clear VC;go_wp2;go_end0;exact⟨rfl,nv,rv,by rw[iK.out,HM.out];exact H2,T2⟩
theorem Wl {w:World}{m gq cap:Nat}{Z:List Nt}(o:BW cN 44 3 w m (.slice (some ⟨gq,0,none⟩) Z.length cap) Z){x:Nt}{r:List Nt}(hz:Z=x::r):∀j u,(r.flatMap cN)[j]? = some u->w.cell? ((⟨gq,3,none⟩:Addr).add j)=some u:=by
 subst hz;intro j u hj
 have hl:(r.flatMap cN).length=r.length*3:=by
  clear hj o
  induction r with
  |nil=>rfl
  |cons y t ih=>rw[List.flatMap_cons,List.length_append,ih,Dg,List.length_cons];omega
 have hjl:j<r.length*3:=by rw[<-hl];exact (List.getElem?_eq_some_iff.1 hj).1
 have h1:=World.ownsRow.cellAt o (3+j) (by rw[List.length_cons];omega);have e:(⟨gq,3,none⟩:Addr).add j=⟨gq,3+j,none⟩:=by simp[Addr.add]
 rw[e,h1,List.flatMap_cons,List.getElem?_append_right (by rw[Dg];omega),Dg];rw[show 3+j-3=j by omega];exact hj
theorem ZD (r:List Nt):∀u∈r.flatMap cN,u.oneCell'=true:=fun u hu=>by
 obtain⟨x,_,hx⟩:=List.mem_flatMap.1 hu;simp only[cN,List.mem_cons,List.not_mem_nil,or_false] at hx;rcases hx with rfl|rfl|rfl<;>rfl
theorem ZC (r:List Nt):(r.flatMap cN).length=r.length*3:=by
 induction r with
 |nil=>rfl
 |cons y t ih=>rw[List.flatMap_cons,List.length_append,ih,Dg,List.length_cons];omega
theorem Mv (w:World)(m D:Nat)(v:BV)(nv rv:List Value)(bs N:Nat)(AA:List (List Dd))(b:Bd)(n c:Nat)(x:Nt)(r:List Nt)(h:AR w m D v nv rv bs N AA b)(S:EF AA b n)(hn:n<=1000)(hc:c<AA.length)(hz:b.AH.getD c []=x::r)(hx:0<=x.1/\x.1<=2):
  Calls Tryz.prog 67 #[.pointer (some ⟨D,0,none⟩),.int .i64 (10+(c:Int))] w fun e w'=>e = .returned (.tuple #[])/\∃nv' rv',AR w' m D v nv' rv' bs N AA (Bs b c)/\Ak w w' (BG D v nv rv) (BG D v nv' rv'):=by
 obtain⟨i0,hi,hz0,hz1,hz2⟩:=info_parts Tryz.Z0;have hd3:AA.length<=3:=(As S.work).1;have hcn:c<b.AH.length:=by rw[S.AH];exact hc
 have hcv:c<nv.length:=by rw[h.ln];exact hcn
 have HM:Hid (Bs b c=Dw { b with AH:=b.AH.set c r } x.1.toNat x.2.1 x.2.2):=Lib.hid (by unfold Bs;rw[hz]);have hlr:r.length<=n:=by have:=S.nl c;rw[hz] at this;simp at this;omega
 have SL:=S.less c r hlr;obtain⟨vW,vP,vL,vN,vX,vS,vF,vR⟩:=v;obtain⟨aN,Ki,eN,hN⟩:=h.hN;rcases hN with h0|⟨gn,rfl,fU,dn⟩
 . exfalso;rw[h0] at hcn;simp at hcn
 simp only at eN;subst eN;have oq:=h.oN hcn;rw[hz] at oq
 obtain⟨gq,cq,hq,y8⟩:∃gq cq,nv.getD c AE = .slice (some ⟨gq,0,none⟩) (x::r).length cq/\gq<w.heap.size:=by
  have hlt:=World.ownsRow.lt oq;rcases oq.2 with ⟨_,hz'⟩|⟨g,cap,cur,e,_⟩
  . simp at hz'
  . exact⟨g,cap,e,(hlt g (by rw[e];rfl)).2⟩
 have kQ:(x::r).length<=cq:=by
  rcases oq.2 with ⟨_,hz'⟩|⟨g,cap,cur,e,_,_,hcap,_⟩
  . simp at hz'
  ·
   rw[hq] at e;simp only[Value.slice.injEq,true_and] at e;rw[e.2];exact hcap
 rw[hq] at oq;have HQ:=Lib.hid hq;have d3:=dn c hcn;rw[hq] at d3;have c3:w.cell? ⟨D,3,none⟩=some (.slice (some ⟨gn,0,none⟩) b.AH.length Ki):=h.cells.2.2.2.1;obtain⟨x0,x1,x2⟩:=x;have q0:w.cell? ⟨gq,0,none⟩=some (.int .i64 x0):=World.ownsRow.cellAt oq 0 (by simp);have q1:w.cell? ⟨gq,1,none⟩=some (.int .i64 x1):=World.ownsRow.cellAt oq 1 (by simp;omega);have q2:w.cell? ⟨gq,2,none⟩=some (.int .i64 x2):=World.ownsRow.cellAt oq 2 (by simp;omega);simp only at hx;obtain⟨p,rfl⟩:=Int.eq_ofNat_of_zero_le hx.1;have hp3:p<3:=by omega
 have hbase:=h.base;have i1:IntKind.i64.wrap (10+(c:Int)-10)=(c:Int):=by rw[IntKind.wrap_i64];omega
 have i2:(0:Int)<=(c:Int):=Int.natCast_nonneg _;have i3:(c:Int)<(b.AH.length:Int):=by omega
 have i4:(10:Int)<=10+(c:Int):=by omega
 have i5:((r.length+1:Nat):Int)=(r.length:Int)+1:=by omega
 have RC:=Lib.hid (Wl oq rfl);clear dn hq hz;go_enter Tryz.func67,Tryz.ntmps67
 go_upto_region 3 with fail
 obtain⟨wN,l9⟩:∃W:World,W=w.alloc (.cells #[.int .i64 (p:Int),.int .i64 x1,.int .i64 x2] 44):=⟨_,rfl⟩;have kN:AC w wN:=by rw[l9];exact (AC.refl w).alloc _
 have lN:w.heap.size<wN.heap.size:=by rw[l9,AD];omega
 have BX:Hid (∀W:World,AC wN W->W.cell? ⟨w.heap.size,0,none⟩=some (.int .i64 (p:Int))/\W.cell? ⟨w.heap.size,1,none⟩=some (.int .i64 x1)/\W.cell? ⟨w.heap.size,2,none⟩=some (.int .i64 x2)):=Lib.hid (by
  rw[l9]
  exact fun W k=>⟨AS k 0,AS k 1,AS k 2⟩)
 rw[<-l9];clear l9;have NB:¬BG D ⟨vW,vP,vL,.slice (some ⟨gn,0,none⟩) b.AH.length Ki,vX,vS,vF,vR⟩ nv rv w.heap.size:=fun hB=>by have:=(h.blk _ hB).2.1;omega
 have H1:=(h.keep kN).drew;have T1:=((Ak.refl w (BG D ⟨vW,vP,vL,.slice (some ⟨gn,0,none⟩) b.AH.length Ki,vX,vS,vF,vR⟩ nv rv)).keep kN).keep (AC.refl wN).drew;have kA:AC w (wN.drew.alloc (.cells #[] 44)):=((kN.drew).alloc _);have OE:(wN.drew.alloc (.cells #[] 44)).ownsRow m 44 3 (.slice (some ⟨wN.heap.size,0,none⟩) 0 0) 0 []:=World.ownsRow_lit wN.drew #[] 0 (by have:=H1.base;omega) (by decide) (by simp);have s3:m<=(wN.drew.alloc (.cells #[] 44)).heap.size:=by have:=(H1.keep ((AC.refl _).alloc (.cells #[] 44))).base;omega
 have NW:∀j u,(r.flatMap cN)[j]? = some u->(wN.drew.alloc (.cells #[] 44)).cell? ((⟨gq,3,none⟩:Addr).add j)=some u:=fun j u hj=>by
  have:=RC.out j u hj;have e:(⟨gq,3,none⟩:Addr).add j=⟨gq,3+j,none⟩:=by simp[Addr.add]
  rw[e] at this ⊢;exact (kA.cell y8).trans this
 have c4:wN.drew.cell? ⟨D,3,none⟩=some (.slice (some ⟨gn,0,none⟩) b.AH.length Ki):=(kN.cell hbase.2).trans c3;have c5:(wN.drew.alloc (.cells #[] 44)).cell? ⟨D,3,none⟩=some (.slice (some ⟨gn,0,none⟩) b.AH.length Ki):=(kA.cell hbase.2).trans c3;have xU:wN.cell? ⟨D,3,none⟩=some (.slice (some ⟨gn,0,none⟩) b.AH.length Ki):=c4;have xV:(wN.alloc (.cells #[] 44)).cell? ⟨D,3,none⟩=some (.slice (some ⟨gn,0,none⟩) b.AH.length Ki):=c5;have zD:D<wN.heap.size:=Nat.lt_of_lt_of_le hbase.2 kN.size
 have bA:Hid (∀(u:Value) (w5:World),w5.ownsRow m 44 3 u (0+r.length) ([]++r.flatMap cN)->World.grownBy (wN.drew.alloc (.cells #[] 44)) w5 (some wN.heap.size)->(u.ownBlock=some wN.heap.size\/u.ownBlock=some (wN.drew.alloc (.cells #[] 44)).heap.size) ->
   (∃a' c',u = .slice a' r.length c')/\w5.cell? ⟨D,3,none⟩=some (.slice (some ⟨gn,0,none⟩) b.AH.length Ki)/\w5.cell? ⟨gn,c,none⟩=some (.slice (some ⟨gq,0,none⟩) (r.length+1) cq)/\w5.frozen? ⟨gn,c,none⟩=false /\
   ∃nv',AR (w5.setCell ⟨gn,c,none⟩ u) m D ⟨vW,vP,vL,.slice (some ⟨gn,0,none⟩) b.AH.length Ki,vX,vS,vF,vR⟩ nv' rv bs N AA { b with AH:=b.AH.set c r }/\Ak w (w5.setCell ⟨gn,c,none⟩ u) (BG D ⟨vW,vP,vL,.slice (some ⟨gn,0,none⟩) b.AH.length Ki,vX,vS,vF,vR⟩ nv rv) (BG D ⟨vW,vP,vL,.slice (some ⟨gn,0,none⟩) b.AH.length Ki,vX,vS,vF,vR⟩ nv' rv) /\
    (w5.setCell ⟨gn,c,none⟩ u).cell? ⟨w.heap.size,0,none⟩=some (.int .i64 (p:Int))/\(w5.setCell ⟨gn,c,none⟩ u).cell? ⟨w.heap.size,1,none⟩=some (.int .i64 x1)/\(w5.setCell ⟨gn,c,none⟩ u).cell? ⟨w.heap.size,2,none⟩=some (.int .i64 x2)):=Lib.hid (fun u w5 hown hgrow hblk=>by
  rw[Nat.zero_add,List.nil_append] at hown;have kw:AC wN.drew w5:=((AC.refl wN.drew).alloc (.cells #[] 44)).grown hgrow (fun k hk=>by have:=Option.some.inj hk;show wN.heap.size<=k;omega)
  have hnew:∀k,u.ownBlock=some k->wN.drew.heap.size<=k:=fun k hk=>by
   rcases hblk with e|e
   . rw[e] at hk;have:=Option.some.inj hk;show wN.heap.size<=k;omega
   . rw[e,AD] at hk;have:=Option.some.inj hk;omega
  obtain⟨HO,hcell,hfr⟩:=H1.Y0 hcn (u:=u) (ns:=r) kw hnew hown rfl;rw[HQ.out] at hcell;obtain⟨a',c',e',-⟩:=BW.shape (show BW cN 44 3 w5 m u r from hown) |>.elim (fun a h=>h.elim (fun c e=>(⟨a,c,e,trivial⟩:∃a c,u = .slice a r.length c/\True)));have hb5:=H1.base.2;have mW:gn≠w.heap.size:=fun e=>NB ⟨.AH,trivial,by show some gn=_;rw[e]⟩
  have bx:=BX.out w5 (((AC.refl wN).drew).trans kw);have far:∀j,(w5.setCell ⟨gn,c,none⟩ u).cell? ⟨w.heap.size,j,none⟩=w5.cell? ⟨w.heap.size,j,none⟩:=fun j=>World.cell?_of_block (heap_setCell_other w5 ⟨gn,c,none⟩ w.heap.size _ (fun e=>mW e.symm))
  refine⟨⟨a',c',e'⟩,(kw.cell hb5).trans c4,hcell,hfr,nv.set c u,HO,?_,(far 0).trans bx.1,(far 1).trans bx.2.1,(far 2).trans bx.2.2⟩;refine ((T1.keep kw).grown (Ad _ gn c _) (fun g hg=>⟨.AH,trivial,hg⟩)).more (fun g hg=>?_);rcases LY hcv hg with h1|h1
  . exact .inl h1
  ·
   have:=hnew g h1;have:wN.heap.size<=g:=this
   right;omega)
 have m1:0+r.length<=maxLen:=by unfold maxLen;omega
 have m2:(0+r.length)*24<=140737488355328:=by omega
 have j1:(1:Int)<=(r.length:Int)+1:=by omega
 have j2:(1:Int)<=(cq:Int):=by simp at kQ;omega
 have xW:r.length+1<=cq:=by simpa using kQ
 have ONE:=ZD r;have NL:=ZC r;clear H1 T1 kA RC oq q0 q1 q2 c3 d3 h kN;by_cases hq1:cq=1
 ·
  have hr0:r.flatMap cN=[]:=by
   have:r.length=0:=by omega
   rw[List.eq_nil_of_length_eq_zero this];rfl
  replace NW:∀j u,(r.flatMap cN)[j]? = some u->(wN.drew.alloc (.cells #[] 44)).cell? ((⟨gq,0,none⟩:Addr).add j)=some u:=fun j u hj=>by rw[hr0] at hj;simp at hj
  clear hr0 j2;go_wp2_with fail
  go_region_law ((refine Ds rfl (.tmp 29) (.tmp 31) 42 rfl m 44 i0 (.agg #[.int .i64 0,.int .i64 0,.int .i64 0]) 3 24 Tryz.underlying42 hi hz0 hz1 hz2 rfl (by decide) (.slice (some ⟨wN.heap.size,0,none⟩) 0 0) 0 [] rfl OE ⟨gq,0,none⟩ r.length 0 (r.flatMap cN) rfl NL NW ONE m1 m2 s3 ?_;intro u w5 hown5 hgrow hblk;obtain⟨⟨a',c',rfl⟩,hc3,hcell,hfr,HO⟩:=bA.out u w5 hown5 hgrow hblk;have HO:=Lib.hid HO;clear hown5 hgrow hblk))
  all_goals
   clear bA;obtain⟨nv',H6,T6,b0,b1,b2⟩:=HO.out;clear HO hcell hfr hc3 c4 c5 xU xV;go_wp2_with fail
   refine (GY _ m D _ nv' rv bs N AA _ p x1 x2 H6 (by rw[SL.AM];exact hp3) (by rw[SL.AQ];exact hp3) (by rw[SL.rws];exact hp3) (by have:=SL.rl p;omega)).mono ?_;rintro e w7 ⟨rfl,rv',H7,T7⟩;go_wp2
   (try simp only[Exit.inBlock,Exit.then])
   refine bodyPost_ret (results_none rfl _ _ _) rfl ?_;exact⟨rfl,nv',rv',by rw[HM.out];exact H7,T6.trans T7⟩
 ·
  go_wp2_with fail
  go_region_law ((refine Ds rfl (.tmp 29) (.tmp 31) 42 rfl m 44 i0 (.agg #[.int .i64 0,.int .i64 0,.int .i64 0]) 3 24 Tryz.underlying42 hi hz0 hz1 hz2 rfl (by decide) (.slice (some ⟨wN.heap.size,0,none⟩) 0 0) 0 [] rfl OE ⟨gq,3,none⟩ r.length (cq-1) (r.flatMap cN) rfl NL NW ONE m1 m2 s3 ?_;intro u w5 hown5 hgrow hblk;obtain⟨⟨a',c',rfl⟩,hc3,hcell,hfr,HO⟩:=bA.out u w5 hown5 hgrow hblk;have HO:=Lib.hid HO;clear hown5 hgrow hblk))
  all_goals
   clear bA;obtain⟨nv',H6,T6,b0,b1,b2⟩:=HO.out;clear HO hcell hfr hc3 c4 c5 xU xV;go_wp2_with fail
   refine (GY _ m D _ nv' rv bs N AA _ p x1 x2 H6 (by rw[SL.AM];exact hp3) (by rw[SL.AQ];exact hp3) (by rw[SL.rws];exact hp3) (by have:=SL.rl p;omega)).mono ?_;rintro e w7 ⟨rfl,rv',H7,T7⟩;go_wp2
   (try simp only[Exit.inBlock,Exit.then])
   refine bodyPost_ret (results_none rfl _ _ _) rfl ?_;exact⟨rfl,nv',rv',by rw[HM.out];exact H7,T6.trans T7⟩
end Go.Proofs.YtgakfkjjkobpiaaGreat
