/- Gathered texts. -/
import Derived.Test.YtnmelakgmgenjaaGreatMJ
import Derived.BigRegion
import Derived.Deep.CutRange
import Derived.Lib.Hide
import Derived.Deep.QuietTactic
import Derived.BigQuiet
import Derived.Deep.Cut
import Derived.Maps.AppendAt
import Derived.Laws.AppendOwn
import Derived.RegionTactic
import Derived.Laws.OwnMore
import Derived.OwnWalk
import Derived.Deep.RegionHeld3
set_option maxRecDepth 100000
set_option maxHeartbeats 8000000
namespace Go.Proofs.YtnmelakgmgenjaaGreat
open Go.ChangeShapes Go.WideShapes Go.ChangeAt Go.RowKit
theorem PY {α:Type}(l:List α)(k:Nat)(z:α)(h:k<l.length):l.take (k+1)=l.take k++[l.getD k z]:=by
 rw[List.take_add_one,List.getElem?_eq_getElem h,List.getD_eq_getElem?_getD,List.getElem?_eq_getElem h];rfl
theorem RS {α:Type}{f:α->Bool}{l:List α}{k:Nat}(z:α)(h:k<l.length)(h1:(l.take k).all f=true)(h2:f (l.getD k z)=true):(l.take (k+1)).all f=true:=by
 rw[PY l k z h,List.all_append,h1];rw[List.all_cons,h2];rfl
theorem PH (d:List Dd):∀l:List (List Dd),C8 (l++[d])=C8 l+d.length
 | []=>by simp[C8]
 |x::r=>by rw[List.cons_append,C8,C8,PH d r];omega
theorem PZ {AA:List (List Dd)}{k:Nat}(hk:k<AA.length)(h:GI (AA.getD k [])=false):AQ AA=false:=by
 rw[AQ,Pl [] k hk h];simp
theorem DE (w:World)(v:Value)(AA:List (List Dd))(h:JJ w v AA)(hx:AA.length<=1048576)(hm:∀i,i<AA.length->(AA.getD i []).length<=1048576):
  Calls Tryz.prog 16 #[v] w fun e w'=>e = .returned (.bool (AQ AA))/\AC w w':=by
 have RW:=h;obtain⟨a,c,rfl,h⟩:=h;cases hb:Cj (AA.length:Int) 1 3
 ·
  have HE:Hid (AQ AA=false):=by
   refine Lib.hid ?_;simp[Cj] at hb;rw[AQ,decide_eq_false (by omega)];rfl
  go_enter Tryz.func16,Tryz.ntmps16
  go_wp2_with (go_at_call 44;refine (Dp _ _ _ _).mono ?_;rintro e w' ⟨rfl,rfl⟩)
  go_ret;exact⟨by rw[HE.out];rfl,AC.refl _⟩
 ·
  have h13:1<=AA.length/\AA.length<=3:=by simp[Cj] at hb;omega
  have wR:=Lib.hid h13;have h3:=h13.2;clear h13;go_enter Tryz.func16,Tryz.ntmps16
  go_wp2_with (go_at_call 44;refine (Dp _ _ _ _).mono ?_;rintro e w' ⟨rfl,rfl⟩)
  clear hb;go_loopw [3,4] (fun n i wr=>∃k m:Nat,k<=AA.length/\n = .int .i64 m/\i = .int .i64 k/\Hid (m=C8 (AA.take k)/\(AA.take k).all GI=true)/\m<=5*k/\AC w' wr) (fun _ i _=>AA.length-(intOf i).toNat)
  case atStart=>exact⟨0,0,Nat.zero_le _,rfl,rfl,Lib.hid (by simp[C8]),by omega,AC.refl _⟩
  case round=>
   obtain⟨k,m,hk,rfl,rfl,hM,m5,hK⟩:=hrel;by_cases hlt:k<AA.length
   ·
    rcases h with h|⟨b,o,rfl,hb,hc⟩
    . exfalso;rw[h] at hlt;simp at hlt
    obtain⟨u,e1,r1⟩:=hc k hlt;have hmk:=hm k hlt;clear hc hm RW;obtain⟨ds,hds⟩:∃ds,ds=AA.getD k []:=⟨_,rfl⟩;have MB:=Lib.hid hds;rw[<-hds] at r1 hmk;clear hds;obtain⟨ai,ci,rfl,r1⟩:=r1;have d1:=(hK.cell hb).trans e1;have i1:(0:Int)<=(k:Int):=Int.natCast_nonneg _;have i2:(k:Int)<(AA.length:Int):=by omega
    go_wp2;go_loopw [5] (fun i wq=>∃q:Nat,q<=ds.length/\i = .int .i64 q/\Hid ((ds.take q).all Fm=true)/\AC w' wq) (fun i _=>ds.length-(intOf i).toNat)
    case atStart=>exact⟨0,Nat.zero_le _,rfl,Lib.hid (by simp),hK⟩
    case round=>
     obtain⟨q,hq,rfl,hQ,hL⟩:=hrel;have d1:=(hL.cell hb).trans e1;by_cases hlq:q<ds.length
     ·
      rcases r1 with h|⟨b2,o2,rfl,hb2,hc2⟩
      . exfalso;rw[h] at hlq;simp at hlq
      have AT:=(hc2 q hlq).keep hb2 hL;clear hc2;have hbq:b<wr.heap.size:=Nat.lt_of_lt_of_le hb hL.size;have hb3:b2<wr.heap.size:=Nat.lt_of_lt_of_le hb2 hL.size;have j1:(0:Int)<=(q:Int):=Int.natCast_nonneg _;have j2:(q:Int)<(ds.length:Int):=by omega
      have HT:Fm (ds.getD q zD)=true->Hid ((ds.take (q+1)).all Fm=true):=fun e=>Lib.hid (RS zD hlq hQ.out e)
      have HF:Fm (ds.getD q zD)=false->Hid (AQ AA=false):=fun e=>Lib.hid (PZ hlt (by rw[<-MB.out,GI,Pl zD q hlq e];rfl))
      clear hQ;obtain⟨d,hd⟩:∃d,d=ds.getD q zD:=⟨_,rfl⟩;rw[<-hd] at AT HT HF;clear hd;obtain⟨x0,x1,x2,x3⟩:=d;obtain⟨A0,A1,A2,A3⟩:=AT;simp only at A0 A1 A2 A3;unfold Fm at HT HF;simp only at HT HF;cases hd:D8 x0 x1 x2 x3
      ·
       have HE:=HF hd;clear HT HF;go_wp2_with fail
       refine (IX _ _ _ _ _).mono ?_;rintro e wz ⟨rfl,kk⟩;go_wp2;go_ret;exact⟨by rw[HE.out];rfl,hL.trans kk⟩
      ·
       have HE:=HT hd;clear HT HF;go_wp2_with fail
       refine (IX _ _ _ _ _).mono ?_;rintro e wz ⟨rfl,kk⟩;go_wp2;go_roundw;case rel=>exact⟨q+1,by omega,by go_num,HE,hL.trans kk⟩
       case measure=>simp[intOf];omega
     ·
      obtain rfl:q=ds.length:=by omega
      rw[List.take_length] at hQ;by_cases h5:ds.length<=5
      ·
       have HE:Hid (m+ds.length=C8 (AA.take (k+1))/\(AA.take (k+1)).all GI=true):=by
        refine Lib.hid ⟨?_,RS [] hlt hM.out.2 (by rw[<-MB.out,GI,hQ.out];simp[h5])⟩;rw[PY AA k [] hlt,PH,<-MB.out,hM.out.1]
       go_wp2;go_roundw;case rel=>exact⟨k+1,m+ds.length,by omega,by go_num,by go_num,HE,by omega,hL⟩
       case measure=>simp[intOf];omega
      ·
       have HE:Hid (AQ AA=false):=Lib.hid (PZ hlt (by rw[<-MB.out,GI];simp;omega));go_wp2;go_ret;exact⟨by rw[HE.out];rfl,hL⟩
   ·
    obtain rfl:k=AA.length:=by omega
    rw[List.take_length] at hM;have wu:∀i,i<AA.length->GI (AA.getD i [])=true:=fun i hi=>Bo [] hM.out.2 i hi
    have HW:Hid (AQ AA=(decide (m<=12)&&decide (Ro AA AA.length<=6)&&KE AA)):=by
     refine Lib.hid ?_;rw[AQ,decide_eq_true wR.out,hM.out.2,hM.out.1];rfl
    have rw1:=RW.keep hK;clear hM RW h hm;by_cases h12:m<=12
    ·
     have e12:decide ((m:Int)<=12)=true:=by simp;omega
     by_cases h6:Ro AA AA.length<=6
     ·
      have HE:Hid (AQ AA=KE AA):=Lib.hid (by rw[HW.out];simp[h12,h6]);go_wp2_with fail
      refine (KP _ _ _ rw1 h3 wu).mono ?_;rintro e wz ⟨rfl,kk⟩;have rw2:=rw1.keep kk;go_wp2_with fail
      refine (QO _ _ _ rw2 h3 wu).mono ?_;rintro e wy ⟨rfl,k2⟩;go_wp2;go_ret;exact⟨by rw[HE.out];rfl,(hK.trans kk).trans k2⟩
     ·
      have HE:Hid (AQ AA=false):=Lib.hid (by rw[HW.out];simp[h6]);go_wp2_with fail
      refine (KP _ _ _ rw1 h3 wu).mono ?_;rintro e wz ⟨rfl,kk⟩;go_wp2;go_ret;exact⟨by rw[HE.out];rfl,hK.trans kk⟩
    ·
     have HE:Hid (AQ AA=false):=Lib.hid (by rw[HW.out];simp[h12]);go_wp2;go_ret;exact⟨by rw[HE.out];rfl,hK⟩
section
abbrev dC (k p v g:Int):Obj:= .cells #[.int .i64 k,.int .i64 p,.int .i64 v,.int .i64 g] 65
abbrev eC (i k:Int)(r:Bool)(p v c:Int):Obj:= .cells #[.int .i64 i,.int .i64 k,.bool r,.int .i64 p,.int .i64 v,.int .i64 c] 128
structure jJ (w wr:World)(F:Nat)(out:Value)(es:List Ev)(f:List Int):Prop where
 app:JD wr w.heap.size out es
 row:DN wr F f
 keep:AC w wr
 hF:w.heap.size<=F
 oF:out.ownBlock≠some F
structure G8 (w wr:World)(F D X:Nat)(out:Value)(es:List Ev)(f:List Int)(k p v g:Int)(i q:Int)(r:Bool)(pl vl c:Int):Prop where
 l:jJ w wr F out es f
 box:wr.heap[D]? = some (dC k p v g)
 ev:wr.heap[X]? = some (eC i q r pl vl c)
 hD:w.heap.size<=D
 hX:w.heap.size<=X
 DX:D≠X
 FD:F≠D
 FX:F≠X
 oD:out.ownBlock≠some D
 oX:out.ownBlock≠some X
theorem jJ.more {w wr wr':World}{F:Nat}{out:Value}{es:List Ev}{f:List Int}(h:jJ w wr F out es f)(k:AC wr wr'):jJ w wr' F out es f:=
 ⟨h.app.keep k,h.row.keep k,h.keep.trans k,h.hF,h.oF⟩
theorem jJ.boxes {w wr:World}{F:Nat}{out:Value}{es:List Ev}{f:List Int}(h:jJ w wr F out es f)(k p v g i q:Int)(r:Bool)(pl vl c:Int):
  G8 w ((wr.alloc (dC k p v g)).alloc (eC i q r pl vl c)) F wr.heap.size (wr.heap.size+1) out es f k p v g i q r pl vl c:=by
 have hs:=h.keep.size;have hR:=h.row.lt;have hl:=h.app.lt;have z:(wr.alloc (dC k p v g)).heap.size=wr.heap.size+1:=AD wr _;refine⟨h.more (((AC.refl wr).alloc _).alloc _),?_,?_,hs,by omega,by omega,by omega,by omega,fun e=>?_,fun e=>?_⟩
 . rw[Bw,if_neg (by rw[z];omega),Bw,if_pos rfl]
 . rw[Bw,if_pos z.symm]
 . have:=(hl _ e).2;omega
 . have:=(hl _ e).2;omega
variable {w wr:World} {F D X:Nat} {out:Value} {es:List Ev} {f:List Int} {k p v g i q pl vl c:Int} {r:Bool}
theorem G8.more {wr':World}(h:G8 w wr F D X out es f k p v g i q r pl vl c)(kk:AC wr wr'):G8 w wr' F D X out es f k p v g i q r pl vl c:=
 ⟨h.l.more kk,(Below.block kk D (Array.getElem?_eq_some_iff.1 h.box).1).trans h.box,(Below.block kk X (Array.getElem?_eq_some_iff.1 h.ev).1).trans h.ev,h.hD,h.hX,h.DX,h.FD,h.FX,h.oD,h.oX⟩
theorem G8.lt (h:G8 w wr F D X out es f k p v g i q r pl vl c):D<wr.heap.size/\X<wr.heap.size/\F<wr.heap.size:=
 ⟨(Array.getElem?_eq_some_iff.1 h.box).1,(Array.getElem?_eq_some_iff.1 h.ev).1,h.l.row.lt⟩
theorem G8.deed (h:G8 w wr F D X out es f k p v g i q r pl vl c):
  wr.cell? ⟨D,0,none⟩=some (.int .i64 k)/\wr.cell? ⟨D,1,none⟩=some (.int .i64 p)/\wr.cell? ⟨D,2,none⟩=some (.int .i64 v)/\wr.cell? ⟨D,3,none⟩=some (.int .i64 g):=
 ⟨cell_of_row wr D 0 _ _ (0,0) h.box,cell_of_row wr D 1 _ _ (0,0) h.box,cell_of_row wr D 2 _ _ (0,0) h.box,cell_of_row wr D 3 _ _ (0,0) h.box⟩
theorem G8.event (h:G8 w wr F D X out es f k p v g i q r pl vl c):
  wr.cell? ⟨X,0,none⟩=some (.int .i64 i)/\wr.cell? ⟨X,1,none⟩=some (.int .i64 q)/\wr.cell? ⟨X,2,none⟩=some (.bool r)/\wr.cell? ⟨X,3,none⟩=some (.int .i64 pl)/\wr.cell? ⟨X,4,none⟩=some (.int .i64 vl)/\wr.cell? ⟨X,5,none⟩=some (.int .i64 c):=
 ⟨cell_of_row wr X 0 _ _ (0,0) h.ev,cell_of_row wr X 1 _ _ (0,0) h.ev,cell_of_row wr X 2 _ _ (0,0) h.ev,cell_of_row wr X 3 _ _ (0,0) h.ev,cell_of_row wr X 4 _ _ (0,0) h.ev,cell_of_row wr X 5 _ _ (0,0) h.ev⟩
theorem G8.free (h:G8 w wr F D X out es f k p v g i q r pl vl c)(j:Nat):wr.frozen? ⟨X,j,none⟩=false:=frozen_of_row wr X j _ _ h.ev
theorem G8.nK (h:G8 w wr F D X out es f k p v g i q r pl vl c)(j:Nat)(x:Value){r':Bool}{pl' vl' c':Int}
  (he:(wr.setCell ⟨X,j,none⟩ x).heap[X]? = some (eC i q r' pl' vl' c')):G8 w (wr.setCell ⟨X,j,none⟩ x) F D X out es f k p v g i q r' pl' vl' c':=by
 have hg:=Ae wr X j x;have a:=h.l;refine⟨⟨a.app.kept hg (.inr h.oX),a.row.kept hg (by simp;exact fun e=>h.FX e.symm),a.keep.grown hg (by simp;exact h.hX),a.hF,a.oF⟩,(hg.block D h.lt.1 (by simp;exact h.DX)).trans h.box,he,h.hD,h.hX,h.DX,h.FD,h.FX,h.oD,h.oX⟩
theorem G8.set2 (h:G8 w wr F D X out es f k p v g i q r pl vl c)(x:Bool):G8 w (wr.setCell ⟨X,2,none⟩ (.bool x)) F D X out es f k p v g i q x pl vl c:=
 h.nK 2 _ (by rw[heap_setCell_same wr X 2 _ _ _ h.ev];rfl)
theorem G8.set4 (h:G8 w wr F D X out es f k p v g i q r pl vl c)(x:Int):G8 w (wr.setCell ⟨X,4,none⟩ (.int .i64 x)) F D X out es f k p v g i q r pl x c:=
 h.nK 4 _ (by rw[heap_setCell_same wr X 4 _ _ _ h.ev];rfl)
theorem G8.set5 (h:G8 w wr F D X out es f k p v g i q r pl vl c)(x:Int):G8 w (wr.setCell ⟨X,5,none⟩ (.int .i64 x)) F D X out es f k p v g i q r pl vl x:=
 h.nK 5 _ (by rw[heap_setCell_same wr X 5 _ _ _ h.ev];rfl)
theorem G8.tV (h:G8 w wr F D X out es f k p v g i q r pl vl c)(j:Nat)(x:Int):G8 w (wr.setCell ⟨F,j,none⟩ (.int .i64 x)) F D X out es (f.set j x) k p v g i q r pl vl c:=by
 have hg:=Ae wr F j (.int .i64 x);have a:=h.l;exact⟨⟨a.app.kept hg (.inr a.oF),a.row.set j x,a.keep.grown hg (by simp;exact a.hF),a.hF,a.oF⟩,(hg.block D h.lt.1 (by simp;exact fun e=>h.FD e.symm)).trans h.box,(hg.block X h.lt.2.1 (by simp;exact fun e=>h.FX e.symm)).trans h.ev,h.hD,h.hX,h.DX,h.FD,h.FX,h.oD,h.oX⟩
theorem G8.hit (h:G8 w wr F D X out es f k p v g i q r pl vl c){o:Obj}{v':Value}{w':World}(e:Ev)
  (ho:w'.ownsRow w.heap.size 128 6 v' (es.length+1) (es.flatMap cE++cE e)) (hg:(wr.alloc o).grownBy w' out.ownBlock) (hb:v'.ownBlock=out.ownBlock\/v'.ownBlock=some (wr.heap.size+1)):
  G8 w w' F D X v' (es++[e]) f k p v g i q r pl vl c:=by
 have h1:=h.more ((AC.refl wr).alloc o);obtain⟨a1,a2,a3⟩:=h1.lt
 have apart:∀n,n<(wr.alloc o).heap.size->out.ownBlock≠some n->v'.ownBlock≠some n:=fun n hn hne e=>by
  rcases hb with hb|hb
  . exact hne (hb ▸ e)
  . rw[hb] at e;have:=Option.some.inj e;rw[AD] at hn;omega
 exact⟨⟨Ju ho,h1.l.row.kept hg h1.l.oF,h1.l.keep.grown hg h1.l.app.ge,h1.l.hF,apart F a3 h1.l.oF⟩,(hg.block D a1 (fun e=>h1.oD e.symm)).trans h1.box,(hg.block X a2 (fun e=>h1.oX e.symm)).trans h1.ev,h1.hD,h1.hX,h1.DX,h1.FD,h1.FX,apart D a1 h1.oD,apart X a2 h1.oX⟩
theorem Mg (e:Ev):∀u∈cE e,u.oneCell'=true:=by
 intro u hu;simp only[cE,List.mem_cons,List.not_mem_nil,or_false] at hu;rcases hu with rfl|rfl|rfl|rfl|rfl|rfl<;>rfl
theorem Mf (w:World)(i q:Int)(r:Bool)(pl vl c:Int):∀j u,(cE (i,q,r,pl,vl,c))[j]? = some u->(w.alloc (eC i q r pl vl c)).cell? ((⟨w.heap.size,0,none⟩:Addr).add j)=some u:=by
 intro j u hj
 match j,hj with
 | 0,hj=>simp[cE] at hj;subst hj;simp[Addr.add]
 | 1,hj=>simp[cE] at hj;subst hj;simp[Addr.add]
 | 2,hj=>simp[cE] at hj;subst hj;simp[Addr.add]
 | 3,hj=>simp[cE] at hj;subst hj;simp[Addr.add]
 | 4,hj=>simp[cE] at hj;subst hj;simp[Addr.add]
 | 5,hj=>simp[cE] at hj;subst hj;simp[Addr.add]
theorem Ya (w:World)(n:Nat)(hn:w.heap.size=n)(i q:Int)(r:Bool)(pl vl c:Int):∀j u,(cE (i,q,r,pl,vl,c))[j]? = some u->(w.alloc (eC i q r pl vl c)).cell? ((⟨n,0,none⟩:Addr).add j)=some u:=by
 subst hn;exact Mf w i q r pl vl c
end
theorem Ms (g:Int)(n:Nat)(f:List Int):(DH g n f).length=f.length:=by unfold DH;split<;>simp
theorem Gx (w:World)(v:Value)(AA:List (List Dd))(h:JJ w v AA)(hx:AA.length<=3)(hok:∀i,i<AA.length->GI (AA.getD i [])=true):
  Calls Tryz.prog 82 #[v] w fun e w'=>∃v',e = .returned v'/\JD w' w.heap.size v' (BA AA AA.length)/\AC w w':=by
 obtain⟨a,c,rfl,h⟩:=h;obtain⟨i0,hi,hz0,hz1,hz2⟩:=info_parts Tryz.GU;obtain⟨j0,hj,hy0,hy1,hy2⟩:=info_parts Tryz.ZF;have A0:JD (w.alloc (.cells #[] 128)) w.heap.size (.slice (some ⟨w.heap.size,0,none⟩) 0 0) []:=Ma w;go_enter Tryz.func82,Tryz.ntmps82
 go_wp2;go_loopw [3,4] (fun v i wr=>∃k:Nat,∃m:Int,∃es:List Ev,k<=3/\i = .int .i64 m/\m=(k:Int)/\Hid (es=CZ.take k)/\es.length<=k/\JD wr w.heap.size v es/\AC w wr) (fun _ i _=>3-(intOf i).toNat)
 case atStart=>exact⟨0,0,[],Nat.zero_le _,rfl,rfl,Lib.hid rfl,Nat.le_refl _,A0,(AC.refl _).alloc _⟩
 case round=>
  obtain⟨k,m,es,hk,rfl,hm,hE,hel,ho,hK⟩:=hrel;clear A0;have hsz:=hK.size;by_cases hlt:k<3
  ·
   subst hm
   have HM:Hid (es++[((-1:Int),(-1:Int),false,(k:Int),0,(k:Int))]=CZ.take (k+1)):=Lib.hid (by
    rw[hE.out];have:k=0\/k=1\/k=2:=by omega
    rcases this with rfl|rfl|rfl<;>rfl)
   clear hE;go_wp2_with (at_builtin;refine wpList_append_own_at _ rfl _ _ 98 rfl w.heap.size 128 j0 (.agg #[.int .i64 0,.int .i64 0,.bool false,.int .i64 0,.int .i64 0,.int .i64 0]) 6 48 Tryz.underlying98 hj hy0 hy1 hy2 rfl (by decide) _ _ _ rfl (ho.keep ((AC.refl _).alloc _)) ⟨_,0,none⟩ 1 1 (cE ((-1:Int),(-1:Int),false,(k:Int),0,(k:Int))) rfl rfl ?c1 ?c2 ?c3 ?c4 ?c5 ?_)
   case c1=>exact Mf _ _ _ _ _ _ _
   case c2=>exact Mg _
   case c3=>unfold maxLen;omega
   case c4=>omega
   case c5=>simp;omega
   intro v' w1 hown' hgrow _ _;have hK1:AC w w1:=(hK.alloc _).grown hgrow ho.ge;have hA:=Ju hown';clear hgrow hown';go_wp2;go_roundw;case rel=>exact⟨k+1,_,_,by omega,rfl,by omega,HM,by simp;omega,hA,hK1⟩
   case measure=>simp[intOf];omega
  obtain rfl:m=3:=by omega
  have HB:Hid (es=BA AA 0):=Lib.hid (by rw[hE.out,show k=3 by omega];rfl);clear hE hm;go_wp2;go_loopw [3,5] (fun v i wr=>∃k:Nat,∃es:List Ev,k<=AA.length/\i = .int .i64 k/\Hid (es=BA AA k)/\es.length<=3+10*k/\JD wr w.heap.size v es/\AC w wr) (fun _ i _=>AA.length-(intOf i).toNat)
  case atStart=>exact⟨0,es,Nat.zero_le _,rfl,HB,by omega,ho,hK⟩
  case round=>
   clear HB hel ho hK hsz hlt hk;obtain⟨k,es,hk,rfl,hE,hel,ho,hK⟩:=hrel;have hsz:=hK.size;by_cases hlt:k<AA.length
   ·
    rcases h with h|⟨b,o,rfl,hb,hc⟩
    . exfalso;rw[h] at hlt;simp at hlt
    obtain⟨u,e1,r1⟩:=hc k hlt;have MS:=hok k hlt;clear hc hok;obtain⟨ds,hds⟩:∃ds,ds=AA.getD k []:=⟨_,rfl⟩;have MB:=Lib.hid hds;rw[<-hds] at r1 MS;clear hds;obtain⟨ai,ci,rfl,r1⟩:=r1;have d1:=(hK.cell hb).trans e1;have i1:(0:Int)<=(k:Int):=Int.natCast_nonneg _;have i2:(k:Int)<(AA.length:Int):=by omega
    have hl5:ds.length<=5:=by simp[GI] at MS;omega
    obtain⟨wo,hwo⟩:∃wo:World,wo=wr:=⟨_,rfl⟩;subst hwo;go_wp2_with (at_make;refine wpList_make_full _ rfl _ _ 28 rfl wo.heap.size 2 i0 (.int .i64 0) 1 Tryz.underlying28 hi hz0 hz1 .i64 .i64 _ _ 10 rfl rfl rfl rfl (by rw[hz2];omega) (by unfold maxLen;omega) (Nat.le_refl _) ?_;intro w1 hown hgrow)
    have k1:AC wo w1:=(AC.refl wo).grown hgrow (by simp)
    have rb:DN w1 wo.heap.size (List.replicate 10 0):=by
     have o:BM w1 wo.heap.size (.slice (some ⟨wo.heap.size,0,none⟩) 10 10) (List.replicate 10 0):=by
      rw[SH] at hown;unfold BM;simpa using hown
     rcases o.row with ⟨e,_⟩|⟨g,cap,e,_,hr⟩
     . cases e
     ·
      have e1:=congrArg Value.ownBlock e;simp[Value.ownBlock] at e1;rw[e1];exact hr
    clear hgrow hown;have L0:jJ w w1 wo.heap.size _ es (List.replicate 10 0):=⟨ho.keep k1,rb,hK.trans k1,hsz,fun e=>by have:=(ho.lt _ e).2;omega⟩;go_loopw [3,7] (fun v i wq=>∃q:Nat,∃evs:List Ev,∃f:List Int,q<=ds.length/\i = .int .i64 q/\Hid (Bg k ds es q=(evs,f))/\Hid (f.length=10)/\evs.length<=3+10*k+2*q/\jJ w wq wo.heap.size v evs f) (fun _ i _=>ds.length-(intOf i).toNat)
    case atStart=>exact⟨0,es,_,Nat.zero_le _,rfl,Lib.hid rfl,Lib.hid rfl,by omega,L0⟩
    case round=>
     clear L0 rb k1 w1 d1;obtain⟨q,evs,f,hq,rfl,hC,hfl,hev,hI⟩:=hrel;have d1:=(hI.keep.cell hb).trans e1;have hbq:b<wr.heap.size:=Nat.lt_of_lt_of_le hb hI.keep.size;by_cases hlq:q<ds.length
     ·
      rcases r1 with h|⟨b2,o2,rfl,hb2,hc2⟩
      . exfalso;rw[h] at hlq;simp at hlq
      have AT:=(hc2 q hlq).keep hb2 hI.keep
      have VD:Fm (ds.getD q zD)=true:=by
       simp only[GI,Bool.and_eq_true] at MS;exact Bo zD MS.1 q hlq
      clear hc2 MS;have hb3:b2<wr.heap.size:=Nat.lt_of_lt_of_le hb2 hI.keep.size;have HST:Hid (Bg k ds es (q+1)=Ec k q (ds.getD q zD) (evs,f)):=Lib.hid (by rw[Bg,hC.out]);clear hC;obtain⟨d,hd⟩:∃d,d=ds.getD q zD:=⟨_,rfl⟩;rw[<-hd] at AT VD HST;clear hd;have KD:=CM VD;have RD:=Ch VD;obtain⟨x0,x1,x2,x3⟩:=d;obtain⟨A0,A1,A2,A3⟩:=AT;simp only at A0 A1 A2 A3 KD RD;obtain⟨-,-,r2,r3,r4⟩:=RD;obtain⟨g,rfl⟩:=Int.eq_ofNat_of_zero_le r2;have j1:(0:Int)<=(q:Int):=Int.natCast_nonneg _;have j2:(q:Int)<(ds.length:Int):=by omega
      have j3:(0:Int)<=(g:Int):=Int.natCast_nonneg _;have j4:(g:Int)<10:=by omega
      have hg9:g<10:=by omega
      clear r2 r3 VD;obtain⟨av,cv,rfl⟩:=hI.app.shape;rcases KD with rfl|rfl|rfl|rfl
      ·
       obtain⟨f',hf'⟩:∃f',f'=DH (g:Int) evs.length f:=⟨_,rfl⟩;obtain⟨cl,hcl⟩:∃cl,cl=Cw (g:Int) evs.length f:=⟨_,rfl⟩;have HS:Hid (Bg k ds es (q+1)=(evs++[((k:Int),(q:Int),true,x1,0,cl)],f')):=Lib.hid (by rw[HST.out,hf',hcl];rfl);have hfl':Hid (f'.length=10):=Lib.hid (by rw[hf',Ms];exact hfl.out);have HF:=Lib.hid hf';have HC:=Lib.hid hcl;clear HST hf' hcl;clear r4;go_upto_if 61 with fail
       have I1:=hI.boxes 1 x1 x2 (g:Int) (k:Int) (q:Int) true x1 0 (evs.length:Int);go_cut [] from 29 to 99 (fun wx=>G8 w wx wo.heap.size wr.heap.size (wr.heap.size+1) (.slice av evs.length cv) evs f 1 x1 x2 g k q true x1 0 evs.length)
       case first=>
        go_wp2;go_meet;case rel=>exact I1
       case rest=>
        clear I1 A0 A1 A2 A3 d1;have IH:=hcut;clear hcut;obtain⟨t0,t1,t2,t3⟩:=IH.deed;obtain⟨s0,s1,s2,s3,s4,s5⟩:=IH.event;have F2:=IH.free 2;have F4:=IH.free 4;have F5:=IH.free 5;obtain⟨z1,z2,z3⟩:=IH.lt;go_upto_if 67 with fail
        go_cut [] from 29 to 99 (fun wx=>G8 w wx wo.heap.size wr.heap.size (wr.heap.size+1) (.slice av evs.length cv) evs f' 1 x1 x2 g k q true x1 0 cl)
        case first=>
         by_cases g0:g=0
         ·
          have n0:(g:Int)<=0:=by omega
          have E1:Hid (f'=f):=Lib.hid (by rw[HF.out,DH,if_neg (by omega)]);have E2:Hid (cl=(evs.length:Int)):=Lib.hid (by rw[HC.out,Cw,if_neg (by omega)]);go_wp2;go_meet;case rel=>rw[E1.out,E2.out];exact IH
         ·
          have n0:(0:Int)<(g:Int):=by omega
          have gg:Hid (f'.getD g 0=cl):=Lib.hid (by rw[HC.out,HF.out,Cw,if_pos n0,Int.toNat_natCast]);have Y7:=IH.l.row.cell (j:=g) (by rw[hfl.out];exact hg9);obtain⟨y,hy⟩:∃y,y=f.getD g 0:=⟨_,rfl⟩;rw[<-hy] at Y7;have HY:=Lib.hid hy;have FG:=IH.l.row.free g;clear hy g0;go_upto_if 73 with fail
          go_cut [] from 29 to 99 (fun wx=>G8 w wx wo.heap.size wr.heap.size (wr.heap.size+1) (.slice av evs.length cv) evs f' 1 x1 x2 g k q true x1 0 evs.length)
          case first=>
           by_cases y0:y=0
           ·
            have E1:Hid (f'=f.set g (evs.length:Int)):=Lib.hid (by rw[HF.out,DH,Int.toNat_natCast,if_pos ⟨n0,by rw[<-HY.out];exact y0⟩]);subst y0;go_wp2;go_meet;case rel=>rw[E1.out];exact IH.tV g _
           ·
            have E1:Hid (f'=f):=Lib.hid (by rw[HF.out,DH,Int.toNat_natCast,if_neg (fun e=>y0 (HY.out.trans e.2))]);have ey:(y==0)=false:=by simp[y0]
            clear y0;go_wp2;go_meet;case rel=>rw[E1.out];exact IH
          case rest=>
           clear t0 t1 t2 t3 s0 s1 s2 s3 s4 s5 F2 F4 F5 z1 z2 z3;clear Y7 FG IH;have Y7:=hcut.l.row.cell (j:=g) (by rw[hfl'.out];exact hg9);rw[gg.out] at Y7;obtain⟨t0,t1,t2,t3⟩:=hcut.deed;obtain⟨s0,s1,s2,s3,s4,s5⟩:=hcut.event;have F2:=hcut.free 2;have F4:=hcut.free 4;have F5:=hcut.free 5;obtain⟨z1,z2,z3⟩:=hcut.lt;go_wp2;go_meet;case rel=>exact hcut.set5 _
        case rest=>
         clear t0 t1 t2 t3 s0 s1 s2 s3 s4 s5 F2 F4 F5 z1 z2 z3;clear IH hI;obtain⟨t0,t1,t2,t3⟩:=hcut.deed;obtain⟨s0,s1,s2,s3,s4,s5⟩:=hcut.event;have F2:=hcut.free 2;have F4:=hcut.free 4;have F5:=hcut.free 5;obtain⟨z1,z2,z3⟩:=hcut.lt;go_wp2_with (at_builtin;refine wpList_append_own_at _ rfl _ _ 98 rfl w.heap.size 128 j0 (.agg #[.int .i64 0,.int .i64 0,.bool false,.int .i64 0,.int .i64 0,.int .i64 0]) 6 48 Tryz.underlying98 hj hy0 hy1 hy2 rfl (by decide) _ _ _ rfl (hcut.l.app.keep ((AC.refl _).alloc _)) ⟨_,0,none⟩ 1 1 (cE ((k:Int),(q:Int),true,x1,0,cl)) rfl rfl ?a1 ?a2 ?a3 ?a4 ?a5 ?_)
         case a1=>exact Mf _ _ _ _ _ _ _
         case a2=>exact Mg _
         case a3=>unfold maxLen;omega
         case a4=>omega
         case a5=>simp;omega
         intro v' w5 hown' hgrow _ hbl;have I5:=hcut.hit ((k:Int),(q:Int),true,x1,0,cl) hown' hgrow hbl;clear hown' hgrow hbl;obtain⟨es1,h1⟩:∃es1,es1=evs++[((k:Int),(q:Int),true,x1,0,cl)]:=⟨_,rfl⟩;have l1:es1.length<=evs.length+1:=by rw[h1];simp
         rw[<-h1] at I5;clear t0 t1 t2 t3 s0 s1 s2 s3 s4 s5 F2 F4 F5 z1 z2 z3;clear hcut;obtain⟨t0,t1,t2,t3⟩:=I5.deed;obtain⟨s0,s1,s2,s3,s4,s5⟩:=I5.event;have F2:=I5.free 2;have F4:=I5.free 4;have F5:=I5.free 5;obtain⟨z1,z2,z3⟩:=I5.lt;have HS1:Hid (Bg k ds es (q+1)=(es1,f')):=Lib.hid (by rw[HS.out,h1]);clear h1 HS;go_wp2;go_roundw;case rel=>exact⟨q+1,es1,f',by omega,by go_num,HS1,hfl',by omega,I5.l⟩
         case measure=>simp[intOf];omega
      ·
       obtain⟨f',hf'⟩:∃f',f'=DH (g:Int) evs.length f:=⟨_,rfl⟩;obtain⟨cl,hcl⟩:∃cl,cl=Cw (g:Int) evs.length f:=⟨_,rfl⟩;have HS:Hid (Bg k ds es (q+1)=(evs++[((k:Int),(q:Int),false,x1,x2,cl)],f')):=Lib.hid (by rw[HST.out,hf',hcl];rfl);have hfl':Hid (f'.length=10):=Lib.hid (by rw[hf',Ms];exact hfl.out);have HF:=Lib.hid hf';have HC:=Lib.hid hcl;clear HST hf' hcl;clear r4;go_upto_if 61 with fail
       have I1:=hI.boxes 2 x1 x2 (g:Int) (k:Int) (q:Int) false x1 x2 (evs.length:Int);go_cut [] from 29 to 99 (fun wx=>G8 w wx wo.heap.size wr.heap.size (wr.heap.size+1) (.slice av evs.length cv) evs f 2 x1 x2 g k q false x1 x2 evs.length)
       case first=>
        go_wp2;go_meet;case rel=>exact I1
       case rest=>
        clear I1 A0 A1 A2 A3 d1;have IH:=hcut;clear hcut;obtain⟨t0,t1,t2,t3⟩:=IH.deed;obtain⟨s0,s1,s2,s3,s4,s5⟩:=IH.event;have F2:=IH.free 2;have F4:=IH.free 4;have F5:=IH.free 5;obtain⟨z1,z2,z3⟩:=IH.lt;go_upto_if 67 with fail
        go_cut [] from 29 to 99 (fun wx=>G8 w wx wo.heap.size wr.heap.size (wr.heap.size+1) (.slice av evs.length cv) evs f' 2 x1 x2 g k q false x1 x2 cl)
        case first=>
         by_cases g0:g=0
         ·
          have n0:(g:Int)<=0:=by omega
          have E1:Hid (f'=f):=Lib.hid (by rw[HF.out,DH,if_neg (by omega)]);have E2:Hid (cl=(evs.length:Int)):=Lib.hid (by rw[HC.out,Cw,if_neg (by omega)]);go_wp2;go_meet;case rel=>rw[E1.out,E2.out];exact IH
         ·
          have n0:(0:Int)<(g:Int):=by omega
          have gg:Hid (f'.getD g 0=cl):=Lib.hid (by rw[HC.out,HF.out,Cw,if_pos n0,Int.toNat_natCast]);have Y7:=IH.l.row.cell (j:=g) (by rw[hfl.out];exact hg9);obtain⟨y,hy⟩:∃y,y=f.getD g 0:=⟨_,rfl⟩;rw[<-hy] at Y7;have HY:=Lib.hid hy;have FG:=IH.l.row.free g;clear hy g0;go_upto_if 73 with fail
          go_cut [] from 29 to 99 (fun wx=>G8 w wx wo.heap.size wr.heap.size (wr.heap.size+1) (.slice av evs.length cv) evs f' 2 x1 x2 g k q false x1 x2 evs.length)
          case first=>
           by_cases y0:y=0
           ·
            have E1:Hid (f'=f.set g (evs.length:Int)):=Lib.hid (by rw[HF.out,DH,Int.toNat_natCast,if_pos ⟨n0,by rw[<-HY.out];exact y0⟩]);subst y0;go_wp2;go_meet;case rel=>rw[E1.out];exact IH.tV g _
           ·
            have E1:Hid (f'=f):=Lib.hid (by rw[HF.out,DH,Int.toNat_natCast,if_neg (fun e=>y0 (HY.out.trans e.2))]);have ey:(y==0)=false:=by simp[y0]
            clear y0;go_wp2;go_meet;case rel=>rw[E1.out];exact IH
          case rest=>
           clear t0 t1 t2 t3 s0 s1 s2 s3 s4 s5 F2 F4 F5 z1 z2 z3;clear Y7 FG IH;have Y7:=hcut.l.row.cell (j:=g) (by rw[hfl'.out];exact hg9);rw[gg.out] at Y7;obtain⟨t0,t1,t2,t3⟩:=hcut.deed;obtain⟨s0,s1,s2,s3,s4,s5⟩:=hcut.event;have F2:=hcut.free 2;have F4:=hcut.free 4;have F5:=hcut.free 5;obtain⟨z1,z2,z3⟩:=hcut.lt;go_wp2;go_meet;case rel=>exact hcut.set5 _
        case rest=>
         clear t0 t1 t2 t3 s0 s1 s2 s3 s4 s5 F2 F4 F5 z1 z2 z3;clear IH hI;obtain⟨t0,t1,t2,t3⟩:=hcut.deed;obtain⟨s0,s1,s2,s3,s4,s5⟩:=hcut.event;have F2:=hcut.free 2;have F4:=hcut.free 4;have F5:=hcut.free 5;obtain⟨z1,z2,z3⟩:=hcut.lt;go_wp2_with (at_builtin;refine wpList_append_own_at _ rfl _ _ 98 rfl w.heap.size 128 j0 (.agg #[.int .i64 0,.int .i64 0,.bool false,.int .i64 0,.int .i64 0,.int .i64 0]) 6 48 Tryz.underlying98 hj hy0 hy1 hy2 rfl (by decide) _ _ _ rfl (hcut.l.app.keep ((AC.refl _).alloc _)) ⟨_,0,none⟩ 1 1 (cE ((k:Int),(q:Int),false,x1,x2,cl)) rfl rfl ?a1 ?a2 ?a3 ?a4 ?a5 ?_)
         case a1=>exact Mf _ _ _ _ _ _ _
         case a2=>exact Mg _
         case a3=>unfold maxLen;omega
         case a4=>omega
         case a5=>simp;omega
         intro v' w5 hown' hgrow _ hbl;have I5:=hcut.hit ((k:Int),(q:Int),false,x1,x2,cl) hown' hgrow hbl;clear hown' hgrow hbl;obtain⟨es1,h1⟩:∃es1,es1=evs++[((k:Int),(q:Int),false,x1,x2,cl)]:=⟨_,rfl⟩;have l1:es1.length<=evs.length+1:=by rw[h1];simp
         rw[<-h1] at I5;clear t0 t1 t2 t3 s0 s1 s2 s3 s4 s5 F2 F4 F5 z1 z2 z3;clear hcut;obtain⟨t0,t1,t2,t3⟩:=I5.deed;obtain⟨s0,s1,s2,s3,s4,s5⟩:=I5.event;have F2:=I5.free 2;have F4:=I5.free 4;have F5:=I5.free 5;obtain⟨z1,z2,z3⟩:=I5.lt;have HS1:Hid (Bg k ds es (q+1)=(es1,f')):=Lib.hid (by rw[HS.out,h1]);clear h1 HS;go_wp2;go_roundw;case rel=>exact⟨q+1,es1,f',by omega,by go_num,HS1,hfl',by omega,I5.l⟩
         case measure=>simp[intOf];omega
      ·
       obtain⟨f',hf'⟩:∃f',f'=DH (g:Int) evs.length f:=⟨_,rfl⟩;obtain⟨cl,hcl⟩:∃cl,cl=Cw (g:Int) evs.length f:=⟨_,rfl⟩;have HS:Hid (Bg k ds es (q+1)=(evs++[((k:Int),(q:Int),true,x1,0,cl),((k:Int),(q:Int),false,x1,x2,cl)],f')):=Lib.hid (by rw[HST.out,hf',hcl];rfl);have hfl':Hid (f'.length=10):=Lib.hid (by rw[hf',Ms];exact hfl.out);have HF:=Lib.hid hf';have HC:=Lib.hid hcl;clear HST hf' hcl;have n0:(g:Int)<=0:=by have:=r4 (by omega);omega
       clear r4;go_upto_if 61 with fail
       have I1:=hI.boxes 3 x1 x2 (g:Int) (k:Int) (q:Int) true x1 0 (evs.length:Int);go_cut [] from 29 to 99 (fun wx=>G8 w wx wo.heap.size wr.heap.size (wr.heap.size+1) (.slice av evs.length cv) evs f 3 x1 x2 g k q true x1 0 evs.length)
       case first=>
        go_wp2;go_meet;case rel=>exact I1
       case rest=>
        clear I1 A0 A1 A2 A3 d1;have IH:=hcut;clear hcut;obtain⟨t0,t1,t2,t3⟩:=IH.deed;obtain⟨s0,s1,s2,s3,s4,s5⟩:=IH.event;have F2:=IH.free 2;have F4:=IH.free 4;have F5:=IH.free 5;obtain⟨z1,z2,z3⟩:=IH.lt;go_upto_if 67 with fail
        go_cut [] from 29 to 99 (fun wx=>G8 w wx wo.heap.size wr.heap.size (wr.heap.size+1) (.slice av evs.length cv) evs f' 3 x1 x2 g k q true x1 0 cl)
        case first=>
         have E1:Hid (f'=f):=Lib.hid (by rw[HF.out,DH,if_neg (by omega)]);have E2:Hid (cl=(evs.length:Int)):=Lib.hid (by rw[HC.out,Cw,if_neg (by omega)]);go_wp2;go_meet;case rel=>rw[E1.out,E2.out];exact IH
        case rest=>
         clear t0 t1 t2 t3 s0 s1 s2 s3 s4 s5 F2 F4 F5 z1 z2 z3;clear IH hI;obtain⟨t0,t1,t2,t3⟩:=hcut.deed;obtain⟨s0,s1,s2,s3,s4,s5⟩:=hcut.event;have F2:=hcut.free 2;have F4:=hcut.free 4;have F5:=hcut.free 5;obtain⟨z1,z2,z3⟩:=hcut.lt;go_wp2_with (at_builtin;refine wpList_append_own_at _ rfl _ _ 98 rfl w.heap.size 128 j0 (.agg #[.int .i64 0,.int .i64 0,.bool false,.int .i64 0,.int .i64 0,.int .i64 0]) 6 48 Tryz.underlying98 hj hy0 hy1 hy2 rfl (by decide) _ _ _ rfl (hcut.l.app.keep ((AC.refl _).alloc _)) ⟨_,0,none⟩ 1 1 (cE ((k:Int),(q:Int),true,x1,0,cl)) rfl rfl ?a1 ?a2 ?a3 ?a4 ?a5 ?_)
         case a1=>exact Mf _ _ _ _ _ _ _
         case a2=>exact Mg _
         case a3=>unfold maxLen;omega
         case a4=>omega
         case a5=>simp;omega
         intro v' w5 hown' hgrow _ hbl;have I5:=hcut.hit ((k:Int),(q:Int),true,x1,0,cl) hown' hgrow hbl;clear hown' hgrow hbl;obtain⟨es1,h1⟩:∃es1,es1=evs++[((k:Int),(q:Int),true,x1,0,cl)]:=⟨_,rfl⟩;have l1:es1.length<=evs.length+1:=by rw[h1];simp
         rw[<-h1] at I5;clear t0 t1 t2 t3 s0 s1 s2 s3 s4 s5 F2 F4 F5 z1 z2 z3;clear hcut;obtain⟨t0,t1,t2,t3⟩:=I5.deed;obtain⟨s0,s1,s2,s3,s4,s5⟩:=I5.event;have F2:=I5.free 2;have F4:=I5.free 4;have F5:=I5.free 5;obtain⟨z1,z2,z3⟩:=I5.lt;have HS1:Hid (Bg k ds es (q+1)=(es1++[((k:Int),(q:Int),false,x1,x2,cl)],f')):=Lib.hid (by rw[HS.out,h1,List.append_assoc];rfl);clear h1 HS;go_upto_region 26 with fail
         have zz:w.heap.size<=w5.heap.size:=I5.l.keep.size;have I6:=I5.set2 false;clear t0 t1 t2 t3 s0 s1 s2 s3 s4 s5 F2 F4 F5 z1 z2 z3;obtain⟨t0,t1,t2,t3⟩:=I6.deed;obtain⟨s0,s1,s2,s3,s4,s5⟩:=I6.event;have F2:=I6.free 2;have F4:=I6.free 4;have F5:=I6.free 5;obtain⟨z1,z2,z3⟩:=I6.lt;go_upto_region 27 with fail
         have I7:=I6.set4 x2;clear t0 t1 t2 t3 s0 s1 s2 s3 s4 s5 F2 F4 F5 z1 z2 z3;obtain⟨t0,t1,t2,t3⟩:=I7.deed;obtain⟨s0,s1,s2,s3,s4,s5⟩:=I7.event;have F2:=I7.free 2;have F4:=I7.free 4;have F5:=I7.free 5;obtain⟨z1,z2,z3⟩:=I7.lt;go_wp2_with (at_builtin;refine wpList_append_own_at _ rfl _ _ 98 rfl w.heap.size 128 j0 (.agg #[.int .i64 0,.int .i64 0,.bool false,.int .i64 0,.int .i64 0,.int .i64 0]) 6 48 Tryz.underlying98 hj hy0 hy1 hy2 rfl (by decide) _ _ _ rfl (I7.l.app.keep ((AC.refl _).alloc _)) ⟨_,0,none⟩ 1 1 (cE ((k:Int),(q:Int),false,x1,x2,cl)) rfl rfl ?b1 ?b2 ?b3 ?b4 ?b5 ?_)
         case b1=>exact Ya _ _ (by simp) _ _ _ _ _ _
         case b2=>exact Mg _
         case b3=>unfold maxLen;omega
         case b4=>omega
         case b5=>simp;omega
         intro v' w5 hown' hgrow _ hbl;have I8:=I7.hit ((k:Int),(q:Int),false,x1,x2,cl) hown' hgrow (by simpa using hbl);clear hown' hgrow hbl;clear t0 t1 t2 t3 s0 s1 s2 s3 s4 s5 F2 F4 F5 z1 z2 z3;clear I5 I6 I7;go_wp2;go_roundw;case rel=>exact⟨q+1,_,f',by omega,by go_num,HS1,hfl',by simp;omega,I8.l⟩
         case measure=>simp[intOf];omega
      ·
       have HS:Hid (Bg k ds es (q+1)=(evs,f)):=Lib.hid (by rw[HST.out];rfl);clear HST r4;go_wp2;go_roundw;case rel=>exact⟨q+1,evs,f,by omega,by go_num,HS,hfl,by omega,hI.more ((AC.refl _).alloc _)⟩
       case measure=>simp[intOf];omega
     ·
      obtain rfl:q=ds.length:=by omega
      go_wp2;go_roundw;case rel=>exact⟨k+1,evs,by omega,by go_num,Lib.hid (by rw[BA,<-MB.out,<-hE.out,hC.out]),by omega,hI.app,hI.keep⟩
      case measure=>simp[intOf];omega
   ·
    obtain rfl:k=AA.length:=by omega
    go_wp2;go_ret;exact⟨_,rfl,by rw[<-hE.out];exact ho,hK⟩
theorem Eo (w:World)(v:Value)(es:List Ev)(h:bA w v es)(hx:es.length<=1048576):
  Calls Tryz.prog 81 #[v] w fun e w'=>∃v',e = .returned v'/\BM w' w.heap.size v' (AX Ah es)/\AC w w':=by
 have hown0:BM (w.alloc (.cells #[] 2)) w.heap.size (.slice (some ⟨w.heap.size,0,none⟩) 0 0) []:=World.ownsRow_lit w #[] 0 (Nat.le_refl _) (by decide) rfl;obtain⟨a,cap,rfl,h⟩:=h;by_cases hl:12<es.length
 ·
  have HE:Hid (AX Ah es=[]):=Lib.hid (by unfold AX;rw[if_neg (by omega)]);have l1:(12:Int)<(es.length:Int):=by omega
  go_enter Tryz.func81,Tryz.ntmps81
  go_wp2;refine wp_loop_rounds 1 ?_;rw[rounds_succ];go_wp2;go_ret;exact⟨_,rfl,by rw[HE.out];exact hown0,(AC.refl _).alloc _⟩
 have l1:es.length<=12:=by omega
 clear hl;have HE:Hid (AX Ah es=Bi Ah es es.length):=Lib.hid (by unfold AX;rw[if_pos l1]);obtain⟨i0,hi,hz0,hz1,hz2⟩:=info_parts Tryz.GU;go_enter Tryz.func81,Tryz.ntmps81
 go_wp2;go_loopw [3,4] (fun v i wr=>∃k:Nat,k<=es.length/\i = .int .i64 k/\BM wr w.heap.size v (Bi Ah es k)/\AC w wr) (fun _ i _=>es.length-(intOf i).toNat)
 case atStart=>exact⟨0,Nat.zero_le _,rfl,hown0,(AC.refl _).alloc _⟩
 case round=>
  obtain⟨k,hk,rfl,ho,hK⟩:=hrel;clear hown0;by_cases hlt:k<es.length
  ·
   rcases h with h|⟨b,off,rfl,hb,hc⟩
   . exfalso;rw[h] at hlt;simp at hlt
   have AT:=(hc k _ (MO hlt)).keep hb hK;have hbw:b<wr.heap.size:=Nat.lt_of_lt_of_le hb hK.size;clear hc;have hml:(Bi Ah es k).length<=k:=DP Ah es k;have hsz:=hK.size;have i1:(0:Int)<=(k:Int):=Int.natCast_nonneg _;have i2:(k:Int)<(es.length:Int):=by omega
   have l2:(es.length:Int)<=12:=by omega
   have HP:Hid (Bi Ah es (k+1)=if Ah (es.getD k zE)=true then Bi Ah es k++[(k:Int)] else Bi Ah es k):=Lib.hid rfl;obtain⟨e,he⟩:∃e,e=es.getD k zE:=⟨_,rfl⟩;rw[<-he] at AT HP;clear he;obtain⟨x0,x1,x2,x3,x4,x5⟩:=e;obtain⟨-,-,A2,-,-,-⟩:=oK AT;clear AT;cases x2
   ·
    have HM:Hid (Bi Ah es (k+1)=Bi Ah es k):=Lib.hid (by rw[HP.out];rfl);clear HP;go_wp2;go_roundw;case rel=>exact⟨k+1,by omega,by go_num,by rw[HM.out];exact ho,hK⟩
    case measure=>simp[intOf];omega
   ·
    have HM:Hid (Bi Ah es (k+1)=Bi Ah es k++[(k:Int)]):=Lib.hid (by rw[HP.out];rfl);clear HP;go_wp2_with (at_builtin;refine wpList_append_own _ rfl _ _ 28 rfl w.heap.size 2 i0 (.int .i64 0) 1 8 Tryz.underlying28 hi hz0 hz1 hz2 rfl (by decide) _ _ _ rfl (World.ownsRow.alloc ho _) ⟨_,0,none⟩ 1 1 [.int .i64 k] rfl rfl ?c1 ?c2 ?c3 ?c4 ?c5 ?_)
    case c1=>
     intro j u hj
     match j,hj with
     | 0,hj=>simp at hj;subst hj;simp[Addr.add]
    case c2=>intro u hu;simp at hu;subst hu;rfl
    case c3=>unfold maxLen;omega
    case c4=>omega
    case c5=>simp;omega
    intro v' w1 hown' hgrow _;have hK1:AC w w1:=(hK.alloc _).grown hgrow ho.ge;clear hgrow;go_wp2;go_roundw;case rel=>exact⟨k+1,by omega,by go_num,by rw[HM.out];exact ES hown',hK1⟩
    case measure=>simp[intOf];omega
  ·
   obtain rfl:k=es.length:=by omega
   go_wp2;go_ret;exact⟨_,rfl,by rw[HE.out];exact ho,hK⟩
theorem En (w:World)(v:BV)(AA:List (List Dd))(b:Bd)(h:CV w v AA b)(hz:Gi AA b):
  Calls Tryz.prog 49 #[v.agg] w fun e w'=>e = .returned (.bool (AW AA b))/\AC w w':=by
 obtain⟨aW,aP,aL,aN,aX,aS,aF,aR,cW,cP,cL,cN,cX,cS,cF,cR,rfl⟩:=h.shapes;have HZ:=Lib.hid hz;have HH:=Lib.hid h;have HB:Hid (AW AA b=(C1 AA b&&(EU ((AB AA).length:Int) (AX Ah (AB AA)).length b&&(EN ((AB AA).length:Int) b&&(List.range AA.length).all (fun i=>Ln AA ((AB AA).length:Int) b i))))):=Lib.hid rfl;have CW:=fun (W:World) (kW:AC w W)=>DE W _ AA (h.W.keep kW) hz.w1 hz.w2
 clear h hz;go_enter Tryz.func49,Tryz.ntmps49
 go_wp2_with fail
 refine (CW _ ((AC.refl w).alloc _)).mono ?_;rintro e w1 ⟨rfl,k1⟩;have K1:=((AC.refl w).alloc _).trans k1;have c0:=AU k1 0;have c1:=AU k1 1;have c2:=AU k1 2;have c3:=AU k1 3;have c4:=AU k1 4;have c5:=AU k1 5;have c6:=AU k1 6;have c7:=AU k1 7;simp at c0 c1 c2 c3 c4 c5 c6 c7;have z1:=FM k1;clear CW;cases hb:AQ AA
 ·
  have HE:Hid (AW AA b=false):=Lib.hid (by rw[HB.out,C1,hb];rfl);go_wp2;go_ret;exact⟨by rw[HE.out];rfl,K1⟩
 by_cases qP:b.AM.length=3;rotate_left
 ·
  have HE:Hid (AW AA b=false):=Lib.hid (by rw[HB.out,C1,decide_eq_false qP];simp);have tP:((b.AM.length:Int) != (3:Int))=true:=by simp;omega
  clear qP;go_wp2;go_ret;exact⟨by rw[HE.out];rfl,K1⟩
 have tP:((b.AM.length:Int) != (3:Int))=false:=by simp[qP]
 have QP:=Lib.hid qP;clear qP;by_cases qL:b.AO.length=3;rotate_left
 ·
  have HE:Hid (AW AA b=false):=Lib.hid (by rw[HB.out,C1,decide_eq_false qL];simp);have tL:((b.AO.length:Int) != (3:Int))=true:=by simp;omega
  clear qL;go_wp2;go_ret;exact⟨by rw[HE.out];rfl,K1⟩
 have tL:((b.AO.length:Int) != (3:Int))=false:=by simp[qL]
 have QL:=Lib.hid qL;clear qL;by_cases qR:b.rws.length=3;rotate_left
 ·
  have HE:Hid (AW AA b=false):=Lib.hid (by rw[HB.out,C1,decide_eq_false qR];simp);have tR:((b.rws.length:Int) != (3:Int))=true:=by simp;omega
  clear qR;go_wp2;go_ret;exact⟨by rw[HE.out];rfl,K1⟩
 have tR:((b.rws.length:Int) != (3:Int))=false:=by simp[qR]
 have QR:=Lib.hid qR;clear qR;by_cases qN:b.AG.length=AA.length;rotate_left
 ·
  have HE:Hid (AW AA b=false):=Lib.hid (by rw[HB.out,C1,decide_eq_false qN];simp);have tN:((b.AG.length:Int) != (AA.length:Int))=true:=by simp;omega
  clear qN;go_wp2;go_ret;exact⟨by rw[HE.out];rfl,K1⟩
 have tN:((b.AG.length:Int) != (AA.length:Int))=false:=by simp[qN]
 have QN:=Lib.hid qN;clear qN;by_cases qX:b.AL.length=AA.length;rotate_left
 ·
  have HE:Hid (AW AA b=false):=Lib.hid (by rw[HB.out,C1,decide_eq_false qX];simp);have tX:((b.AL.length:Int) != (AA.length:Int))=true:=by simp;omega
  clear qX;go_wp2;go_ret;exact⟨by rw[HE.out];rfl,K1⟩
 have tX:((b.AL.length:Int) != (AA.length:Int))=false:=by simp[qX]
 have QX:=Lib.hid qX;clear qX
 have HB2:Hid (AW AA b=(EU ((BA AA AA.length).length:Int) (AX Ah (BA AA AA.length)).length b&&(EN ((BA AA AA.length).length:Int) b&&(List.range AA.length).all (fun i=>Ln AA ((BA AA AA.length).length:Int) b i)))):=Lib.hid (by
  have e1:AB AA=BA AA AA.length:=by rw[AB,if_pos hb]
  rw[HB.out,C1,hb,decide_eq_true QP.out,decide_eq_true QL.out,decide_eq_true QR.out,decide_eq_true QN.out,decide_eq_true QX.out,e1];rfl)
 obtain⟨u1,u2⟩:=Ay hb;have L9:=lM hb;clear HB;go_wp2_with fail
 refine (Gx _ _ AA (HH.out.W.keep K1) u1 u2).mono ?_;rintro e w2 ⟨ve,rfl,ae,k2⟩;have re:=ae.rd;generalize BA AA AA.length=es at *;obtain⟨aE,cE',rfl,-⟩:=id re;have K2:=K1.trans k2;go_wp2_with fail
 refine (Eo _ _ es re (by omega)).mono ?_;rintro e w3 ⟨vr,rfl,or3,k3⟩;have K3:=K2.trans k3
 have hrl:(AX Ah es).length<=12:=by
  unfold AX;rw[if_pos (by omega)];have:=DP Ah es es.length;omega
 obtain⟨ar,cr,rfl,-⟩:=id or3.rd;generalize (AX Ah es).length=rn at *;have k13:=k2.trans k3;replace c0:=(k13.cell z1).trans c0;replace c1:=(k13.cell z1).trans c1;replace c2:=(k13.cell z1).trans c2;replace c3:=(k13.cell z1).trans c3;replace c4:=(k13.cell z1).trans c4;replace c5:=(k13.cell z1).trans c5;replace c6:=(k13.cell z1).trans c6;replace c7:=(k13.cell z1).trans c7;replace z1:=Nat.lt_of_lt_of_le z1 k13.size;clear k1 k2 k3 k13 K1 K2 ae re or3 tP tL tR tN tX;by_cases qS:b.sn.length=rn;rotate_left
 ·
  have HE:Hid (AW AA b=false):=Lib.hid (by rw[HB2.out,EU,decide_eq_false qS];simp);have tS:((b.sn.length:Int) != (rn:Int))=true:=by simp;omega
  clear qS;go_wp2;go_ret;exact⟨by rw[HE.out];rfl,K3⟩
 have tS:((b.sn.length:Int) != (rn:Int))=false:=by simp[qS]
 have QS:=Lib.hid qS;clear qS;by_cases qF:b.fr.length=rn;rotate_left
 ·
  have HE:Hid (AW AA b=false):=Lib.hid (by rw[HB2.out,EU,decide_eq_false qF];simp);have tF:((b.fr.length:Int) != (rn:Int))=true:=by simp;omega
  clear qF;go_wp2;go_ret;exact⟨by rw[HE.out];rfl,K3⟩
 have tF:((b.fr.length:Int) != (rn:Int))=false:=by simp[qF]
 have QF:=Lib.hid qF;clear qF;have i1:IntKind.i64.wrap ((es.length:Int)-1)=(es.length:Int)-1:=by rw[IntKind.wrap_i64];omega
 have CP:=FU _ _ b.AM 0 9 3 (HH.out.P.keep K3) HZ.out.AM;have CL:=FU _ _ b.AO 0 ((es.length:Int)-1) 3 (HH.out.L.keep K3) HZ.out.AO;have CS:=FU _ _ b.sn (-1) 9 12 (HH.out.S.keep K3) HZ.out.sn;have CF:=FU _ _ b.fr (-1) ((es.length:Int)-1) 12 (HH.out.F.keep K3) HZ.out.fr;cases qP:DW b.AM 0 9 3
 ·
  have HE:Hid (AW AA b=false):=Lib.hid (by rw[HB2.out,EU,qP];simp);rw[qP] at CP;go_wp2_with fail
  refine CP.mono ?_;rintro e w4 ⟨rfl,rfl⟩;go_wp2;go_ret;exact⟨by rw[HE.out];rfl,K3⟩
 rw[qP] at CP;cases qL:DW b.AO 0 ((es.length:Int)-1) 3
 ·
  have HE:Hid (AW AA b=false):=Lib.hid (by rw[HB2.out,EU,qL];simp);rw[qL] at CL;go_wp2_with fail
  refine CP.mono ?_;rintro e w4 ⟨rfl,rfl⟩;go_wp2_with fail
  refine CL.mono ?_;rintro e w5 ⟨rfl,rfl⟩;go_wp2;go_ret;exact⟨by rw[HE.out];rfl,K3⟩
 rw[qL] at CL;cases qS:DW b.sn (-1) 9 12
 ·
  have HE:Hid (AW AA b=false):=Lib.hid (by rw[HB2.out,EU,qS];simp);rw[qS] at CS;go_wp2_with fail
  refine CP.mono ?_;rintro e w4 ⟨rfl,rfl⟩;go_wp2_with fail
  refine CL.mono ?_;rintro e w5 ⟨rfl,rfl⟩;go_wp2_with fail
  refine CS.mono ?_;rintro e w6 ⟨rfl,rfl⟩;go_wp2;go_ret;exact⟨by rw[HE.out];rfl,K3⟩
 rw[qS] at CS;cases qF:DW b.fr (-1) ((es.length:Int)-1) 12
 ·
  have HE:Hid (AW AA b=false):=Lib.hid (by rw[HB2.out,EU,qF];simp);rw[qF] at CF;go_wp2_with fail
  refine CP.mono ?_;rintro e w4 ⟨rfl,rfl⟩;go_wp2_with fail
  refine CL.mono ?_;rintro e w5 ⟨rfl,rfl⟩;go_wp2_with fail
  refine CS.mono ?_;rintro e w6 ⟨rfl,rfl⟩;go_wp2_with fail
  refine CF.mono ?_;rintro e w7 ⟨rfl,rfl⟩;go_wp2;go_ret;exact⟨by rw[HE.out];rfl,K3⟩
 rw[qF] at CF;have HB3:Hid (AW AA b=(EN (es.length:Int) b&&(List.range AA.length).all (fun i=>Ln AA (es.length:Int) b i))):=Lib.hid (by rw[HB2.out,EU,decide_eq_true QS.out,decide_eq_true QF.out,qP,qL,qS,qF];rfl);clear HB2;go_wp2_with fail
 refine CP.mono ?_;rintro e w4 ⟨rfl,rfl⟩;go_wp2_with fail
 refine CL.mono ?_;rintro e w5 ⟨rfl,rfl⟩;go_wp2_with fail
 refine CS.mono ?_;rintro e w6 ⟨rfl,rfl⟩;go_wp2_with fail
 refine CF.mono ?_;rintro e w7 ⟨rfl,rfl⟩;clear CP CL CS CF qP qL qS qF tS tF;go_wp2;go_loop [6] (fun i=>∃k:Nat,k<=3/\i = .int .i64 k/\Hid (∀j,j<k->DW (b.rws.getD j []) 0 ((es.length:Int)-1) 20=true)) (fun i=>3-(intOf i).toNat)
 case atStart=>exact⟨0,Nat.zero_le _,rfl,Lib.hid (fun j hj=>absurd hj (Nat.not_lt_zero _))⟩
 case round=>
  obtain⟨k,hk,rfl,hno⟩:=hrel;by_cases hlt:k<3
  ·
   obtain⟨a',c',he',hR⟩:=HH.out.R.keep K3;simp only[Value.slice.injEq,true_and] at he';obtain⟨rfl,rfl⟩:=he';rcases hR with h0|⟨bb,o,rfl,hbb,hc⟩
   . exfalso;have:=QR.out;rw[h0] at this;simp at this
   obtain⟨vi,d1,r1⟩:=hc k (by rw[QR.out];exact hlt);have CA:=FU _ _ (b.rws.getD k []) 0 ((es.length:Int)-1) 20 r1 (HZ.out.r2 k (by rw[QR.out];exact hlt));obtain⟨ai,ci,vY,-⟩:=id r1;have j1:(0:Int)<=(k:Int):=Int.natCast_nonneg _;have j2:(k:Int)<3:=by omega
   have j3:(k:Int)<(b.rws.length:Int):=by have:=QR.out;omega
   clear hc r1;cases qA:DW (b.rws.getD k []) 0 ((es.length:Int)-1) 20
   ·
    have HE:Hid (AW AA b=false):=Lib.hid (by rw[HB3.out,EN,Cv hlt qA];rfl);rw[qA] at CA;clear qA;generalize (b.rws.getD k []).length=nk at vY;subst vY;go_wp2_with fail
    refine CA.mono ?_;rintro e w4 ⟨rfl,rfl⟩;go_wp2;go_ret;exact⟨by rw[HE.out];rfl,K3⟩
   ·
    have HN:Hid (∀j,j<k+1->DW (b.rws.getD j []) 0 ((es.length:Int)-1) 20=true):=Lib.hid (fun j hj=>by
     by_cases e':j=k
     . rw[e'];exact qA
     . exact hno.out j (by omega))
    rw[qA] at CA;clear qA;generalize (b.rws.getD k []).length=nk at vY;subst vY;go_wp2_with fail
    refine CA.mono ?_;rintro e w4 ⟨rfl,rfl⟩;go_wp2;go_round
    case rel=>exact⟨k+1,by omega,by go_num,HN⟩
    case measure=>simp[intOf];omega
  ·
   obtain rfl:k=3:=by omega
   have HB4:Hid (AW AA b=(List.range AA.length).all (fun i=>Ln AA (es.length:Int) b i)):=Lib.hid (by
    have e:EN (es.length:Int) b=true:=C5 hno.out
    rw[HB3.out,e];rfl)
   clear HB3 hno hk hlt;have K0:=AC.refl w7;go_wp2;go_loopw [7] (fun i wr=>∃k:Nat,k<=AA.length/\i = .int .i64 k/\Hid (∀j,j<k->Ln AA (es.length:Int) b j=true)/\AC w7 wr) (fun i _=>AA.length-(intOf i).toNat)
   case atStart=>exact⟨0,Nat.zero_le _,rfl,Lib.hid (fun j hj=>absurd hj (Nat.not_lt_zero _)),K0⟩
   case round=>
    obtain⟨k,hk,rfl,hno,hK⟩:=hrel;clear K0;have e0:=(hK.cell z1).trans c0;have e3:=(hK.cell z1).trans c3;have e4:=(hK.cell z1).trans c4;have KR:=K3.trans hK;by_cases hlt:k<AA.length
    ·
     have lX:k<b.AL.length:=by rw[QX.out];exact hlt
     have lN:k<b.AG.length:=by rw[QN.out];exact hlt
     obtain⟨a',c',he',hX⟩:=HH.out.X.keep KR;simp only[Value.slice.injEq,true_and] at he';obtain⟨rfl,rfl⟩:=he';rcases hX with h0|⟨bx,ox,rfl,hbx,hcx⟩
     . exfalso;rw[h0] at lX;simp at lX
     obtain⟨a',c',he',hW⟩:=HH.out.W.keep KR;simp only[Value.slice.injEq,true_and] at he';obtain⟨rfl,rfl⟩:=he';rcases hW with h0|⟨bw,ow,rfl,hbw,hcw⟩
     . exfalso;rw[h0] at hlt;simp at hlt
     obtain⟨a',c',he',hN⟩:=HH.out.N.keep K3;simp only[Value.slice.injEq,true_and] at he';obtain⟨rfl,rfl⟩:=he';rcases hN with h0|⟨bn,on,rfl,hbn,hcn⟩
     . exfalso;rw[h0] at lN;simp at lN
     have d1:=hcx k lX;obtain⟨vw,d2,r2⟩:=hcw k hlt;obtain⟨vn,D3,r3⟩:=hcn k lN;have d3:=(hK.cell hbn (o:=on+k)).trans D3;have HF:Ln AA (es.length:Int) b k=false->Hid (AW AA b=false):=fun e=>Lib.hid (by rw[HB4.out,Cv hlt e])
     have HT:Ln AA (es.length:Int) b k=true->Hid (∀j,j<k+1->Ln AA (es.length:Int) b j=true):=fun e=>Lib.hid (fun j hj=>by
      by_cases e':j=k
      . rw[e'];exact e
      . exact hno.out j (by omega))
     have HC:Hid (Ln AA (es.length:Int) b k=(Cj (b.AL.getD k 0) 0 ((AA.getD k []).length:Int)&&(decide ((b.AG.getD k []).length<=8)&&MH (es.length:Int) (b.AG.getD k [])))):=Lib.hid (by
      have:Cj (b.AL.getD k 0) 0 ((AA.getD k []).length:Int)=(decide (0<=b.AL.getD k 0)&&decide (b.AL.getD k 0<=((AA.getD k []).length:Int))):=by unfold Cj;rw[Bool.eq_iff_iff];simp
      rw[Ln,this])
     have nlen:=HZ.out.n2 k lN;have hwl:=HZ.out.w2 k hlt;obtain⟨aw,cw,rfl,-⟩:=r2;have RN:=Lib.hid r3;obtain⟨an,cn,rfl,r3⟩:=r3;generalize b.AL.getD k 0=x at d1 HC;generalize (AA.getD k []).length=wl at d2 HC hwl;generalize b.AG.getD k []=ns at *;have j1:(0:Int)<=(k:Int):=Int.natCast_nonneg _;have j2:(k:Int)<(AA.length:Int):=by omega
     have j3:(k:Int)<(b.AL.length:Int):=by omega
     have j4:(k:Int)<(b.AG.length:Int):=by omega
     clear hcx hcw hcn hno;cases qI:Cj x 0 (wl:Int)
     ·
      have HE:=HF (by rw[HC.out,qI];rfl);clear HF HT HC;have CI:=fun W:World=>Dp x 0 (wl:Int) W
      rw[qI] at CI;go_wp2;go_quiet ((go_at_call 44;exact Calls.quiet_of_same (CI _)))
      go_wp2;go_ret;exact⟨by rw[HE.out];rfl,KR.drewN _⟩
     have CI:=fun W:World=>Dp x 0 (wl:Int) W
     rw[qI] at CI;by_cases q8:ns.length<=8;rotate_left
     ·
      have HE:=HF (by rw[HC.out,decide_eq_false q8];simp);have t8:(8:Int)<(ns.length:Int):=by omega
      clear HF HT HC q8;go_wp2;go_quiet ((go_at_call 44;exact Calls.quiet_of_same (CI _)))
      go_wp2;go_ret;exact⟨by rw[HE.out];rfl,KR.drewN _⟩
     have t8:decide ((8:Int)<(ns.length:Int))=false:=by simp;omega
     have HC2:Hid (Ln AA (es.length:Int) b k=MH (es.length:Int) ns):=Lib.hid (by rw[HC.out,qI,decide_eq_true q8];rfl);clear HC;go_wp2;go_quiet ((go_at_call 44;exact Calls.quiet_of_same (CI _)))
     have KD:AC w7 (wr.drewN nq):=hK.drewN _;clear CI qI d1 d2 d3 e0 e3 e4 hK KR q8 t8;go_wp2;go_loopw [8] (fun i wz=>∃m:Nat,m<=ns.length/\i = .int .i64 m/\Hid (∀j,j<m->Tv (es.length:Int) (ns.getD j (0,0,0))=true)/\AC w7 wz) (fun i _=>ns.length-(intOf i).toNat)
     case atStart=>exact⟨0,Nat.zero_le _,rfl,Lib.hid (fun j hj=>absurd hj (Nat.not_lt_zero _)),KD⟩
     case round=>
      clear KD;obtain⟨m,hm,rfl,hnt,hK2⟩:=hrel;have f3:=(hK2.cell z1).trans c3;have n3:=(hK2.cell hbn (o:=on+k)).trans D3;by_cases hml:m<ns.length
      ·
       obtain⟨a',c',he',hA⟩:=RN.out.keep hK2;simp only[Value.slice.injEq,Nat.add_left_cancel_iff,true_and] at he';obtain⟨rfl,rfl⟩:=he';rcases hA with h0|⟨bq,oq,rfl,hbq,hcq⟩
       . exfalso;rw[h0] at hml;simp at hml
       obtain⟨g0,g1,g2⟩:=qQ (hcq m _ (Ir hml));have NF:Tv (es.length:Int) (ns.getD m (0,0,0))=false->Hid (AW AA b=false):=fun e=>HF (by rw[HC2.out];exact Tw hml e)
       have NT:Tv (es.length:Int) (ns.getD m (0,0,0))=true->Hid (∀j,j<m+1->Tv (es.length:Int) (ns.getD j (0,0,0))=true):=fun e=>Lib.hid (fun j hj=>by
        by_cases e':j=m
        . rw[e'];exact e
        . exact hnt.out j (by omega))
       have dG:Hid (∀y:Nt,Tv (es.length:Int) y=(Cj y.1 0 2&&(Cj y.2.1 0 9&&Cj y.2.2 0 ((es.length:Int)-1)))):=Lib.hid (fun y=>by
        unfold Tv Cj;rw[Bool.eq_iff_iff]
        simp[and_assoc])
       rw[dG.out] at NF NT;generalize ns.getD m (0,0,0)=y at g0 g1 g2 NF NT;obtain⟨y0,y1,y2⟩:=y;simp only at g0 g1 g2 NF NT;have I0:=fun W:World=>Dp y0 0 2 W
       have I1:=fun W:World=>Dp y1 0 9 W
       have I2:=fun W:World=>Dp y2 0 ((es.length:Int)-1) W
       have m1:(0:Int)<=(m:Int):=Int.natCast_nonneg _;have m2:(m:Int)<(ns.length:Int):=by omega
       have KZ:=(K3.trans hK2).alloc (.cells #[.int .i64 y0,.int .i64 y1,.int .i64 y2] 104);clear hcq dG hnt;cases t0:Cj y0 0 2
       ·
        have HE:=NF (by rw[t0];rfl);rw[t0] at I0;clear NF NT I1 I2 t0;go_wp2_with fail
        refine (I0 _).mono ?_;rintro e w8 ⟨rfl,rfl⟩;go_wp2;go_ret;exact⟨by rw[HE.out];rfl,KZ⟩
       rw[t0] at I0;cases t1:Cj y1 0 9
       ·
        have HE:=NF (by rw[t1];simp);rw[t1] at I1;clear NF NT I2 t0 t1;go_wp2_with fail
        refine (I0 _).mono ?_;rintro e w8 ⟨rfl,rfl⟩;go_wp2_with fail
        refine (I1 _).mono ?_;rintro e w8 ⟨rfl,rfl⟩;go_wp2;go_ret;exact⟨by rw[HE.out];rfl,KZ⟩
       rw[t1] at I1;cases t2:Cj y2 0 ((es.length:Int)-1)
       ·
        have HE:=NF (by rw[t2];simp);rw[t2] at I2;clear NF NT t0 t1 t2;go_wp2_with fail
        refine (I0 _).mono ?_;rintro e w8 ⟨rfl,rfl⟩;go_wp2_with fail
        refine (I1 _).mono ?_;rintro e w8 ⟨rfl,rfl⟩;go_wp2_with fail
        refine (I2 _).mono ?_;rintro e w8 ⟨rfl,rfl⟩;go_wp2;go_ret;exact⟨by rw[HE.out];rfl,KZ⟩
       ·
        have HE:=NT (by rw[t0,t1,t2];rfl);rw[t2] at I2;clear NF NT t0 t1 t2;go_wp2_with fail
        refine (I0 _).mono ?_;rintro e w8 ⟨rfl,rfl⟩;go_wp2_with fail
        refine (I1 _).mono ?_;rintro e w8 ⟨rfl,rfl⟩;go_wp2_with fail
        refine (I2 _).mono ?_;rintro e w8 ⟨rfl,rfl⟩;go_wp2;go_roundw;case rel=>exact⟨m+1,by omega,by go_num,HE,hK2.alloc _⟩
        case measure=>simp[intOf];omega
      ·
       obtain rfl:m=ns.length:=by omega
       have HE:=HT (by rw[HC2.out];exact We hnt.out);go_wp2;go_roundw;case rel=>exact⟨k+1,by omega,by go_num,HE,hK2⟩
       case measure=>simp[intOf];omega
    ·
     obtain rfl:k=AA.length:=by omega
     have HE:Hid (AW AA b=true):=Lib.hid (by rw[HB4.out];exact C5 hno.out);go_wp2;go_ret;exact⟨by rw[HE.out];rfl,KR⟩
theorem Ei (w:World)(v:BV)(AA:List (List Dd))(b:Bd)(h:CV w v AA b)(hp:X9 AA b):
  Calls Tryz.prog 50 #[v.agg] w fun e w'=>∃v',e = .returned v'/\BM w' w.heap.size v' (Ad AA b)/\AC w w':=by
 have C:=fun (W:World) (kW:AC w W) (c:Nat) (hc:c<AA.length)=>Tk W v AA b c (h.keep kW) hp hc
 obtain⟨i0,hi,hz0,hz1,hz2⟩:=info_parts Tryz.GU;have HN:=Lib.hid h.N;have hm:=hp.m;have hpn:=Lib.hid hp.n;obtain⟨aW,aP,aL,aN,aX,aS,aF,aR,cW,cP,cL,cN,cX,cS,cF,cR,rfl⟩:=h.shapes;clear h hp;go_enter Tryz.func50,Tryz.ntmps50
 go_upto_region 1 with fail
 obtain⟨wB,rU⟩:∃W:World,W=w.alloc (.cells #[.slice aW AA.length cW,.slice aP b.AM.length cP,.slice aL b.AO.length cL,.slice aN b.AG.length cN,.slice aX b.AL.length cX,.slice aS b.sn.length cS,.slice aF b.fr.length cF,.slice aR b.rws.length cR] 36):=⟨_,rfl⟩;have kB:AC w wB:=by rw[rU];exact (AC.refl w).alloc _
 have sB:wB.heap.size=w.heap.size+1:=by rw[rU];exact AD _ _
 have BC:Hid (∀(W:World),AC wB W->W.cell? ⟨w.heap.size,0,none⟩=some (.slice aW AA.length cW)/\W.cell? ⟨w.heap.size,1,none⟩=some (.slice aP b.AM.length cP)/\W.cell? ⟨w.heap.size,2,none⟩=some (.slice aL b.AO.length cL)/\W.cell? ⟨w.heap.size,3,none⟩=some (.slice aN b.AG.length cN)/\W.cell? ⟨w.heap.size,4,none⟩=some (.slice aX b.AL.length cX)/\W.cell? ⟨w.heap.size,5,none⟩=some (.slice aS b.sn.length cS)/\W.cell? ⟨w.heap.size,6,none⟩=some (.slice aF b.fr.length cF)/\W.cell? ⟨w.heap.size,7,none⟩=some (.slice aR b.rws.length cR)):=Lib.hid (by
  rw[rU]
  exact fun W k=>⟨AU k 0,AU k 1,AU k 2,AU k 3,AU k 4,AU k 5,AU k 6,AU k 7⟩)
 rw[<-rU];clear rU;have SB:=Lib.hid sB;have lB:w.heap.size<wB.heap.size:=by omega
 clear sB;have hown0:BM (wB.alloc (.cells #[] 2)) wB.heap.size (.slice (some ⟨wB.heap.size,0,none⟩) 0 0) []:=World.ownsRow_lit wB #[] 0 (Nat.le_refl _) (by decide) rfl;go_wp2;go_loopw [3,4] (fun v0 i wr=>∃(k:Nat) (v:Value),v=v0/\k<=AA.length/\i = .int .i64 k/\BM wr wB.heap.size v (Gj AA b k)/\AC wB wr) (fun _ i _=>AA.length-(intOf i).toNat)
 case atStart=>exact⟨0,_,rfl,Nat.zero_le _,rfl,hown0,(AC.refl _).alloc _⟩
 case round=>
  obtain⟨k,v,rfl,hk,rfl,ho,hK⟩:=hrel;clear hown0;obtain⟨b0,b1,b2,b3,b4,b5,b6,b7⟩:=BC.out _ hK;by_cases hlt:k<AA.length
  ·
   have i1:(0:Int)<=(k:Int):=Int.natCast_nonneg _;have i2:(k:Int)<(AA.length:Int):=by omega
   go_wp2_with fail
   refine (C _ (kB.trans hK) k hlt).mono ?_;rintro e w2 ⟨rfl,k2⟩;have hK2:=hK.trans k2;have hml:(Gj AA b k).length<=k:=Jz _ _ _;have hsz:=hK2.size;replace ho:=ho.keep k2;clear b0 b1 b2 b3 b4 b5 b6 b7;cases hc:Bh AA b k
   ·
    have HM:Hid (Gj AA b (k+1)=Gj AA b k):=Lib.hid (Vz hc);go_wp2;go_roundw;case rel=>exact⟨k+1,_,rfl,by omega,by go_num,by rw[HM.out];exact ho,hK2⟩
    case measure=>simp[intOf];omega
   ·
    have HM:Hid (Gj AA b (k+1)=Gj AA b k++[(k:Int)]):=Lib.hid (Yb hc);go_wp2_with (at_builtin;refine wpList_append_own _ rfl _ _ 28 rfl wB.heap.size 2 i0 (.int .i64 0) 1 8 Tryz.underlying28 hi hz0 hz1 hz2 rfl (by decide) _ _ _ rfl (World.ownsRow.alloc ho _) ⟨_,0,none⟩ 1 1 [.int .i64 k] rfl rfl ?c1 ?c2 ?c3 ?c4 ?c5 ?_)
    case c1=>
     intro j u hj
     match j,hj with
     | 0,hj=>simp at hj;subst hj;simp[Addr.add]
    case c2=>intro u hu;simp at hu;subst hu;rfl
    case c3=>unfold maxLen;omega
    case c4=>omega
    case c5=>simp;omega
    intro v' w1 hown' hgrow _;have hK1:AC wB w1:=(hK2.alloc _).grown hgrow ho.ge;clear hgrow;go_wp2;go_roundw;case rel=>exact⟨k+1,_,rfl,by omega,by go_num,by rw[HM.out];exact ES hown',hK1⟩
    case measure=>simp[intOf];omega
  ·
   obtain rfl:k=AA.length:=by omega
   have HP:Hid (Gj AA b AA.length++Nu b AA.length=Ad AA b):=Lib.hid (LS AA b);have hml:(Gj AA b AA.length).length<=AA.length:=Jz _ _ _;generalize Gj AA b AA.length=CK at *;have ho0:BM wr wB.heap.size v (CK++Nu b 0):=by rw[show Nu b 0=[] from rfl,List.append_nil];exact ho
   clear ho hk hlt;go_wp2;clear b0 b1 b2 b3 b4 b5 b6 b7;go_loopw [3,5] (fun v0 i wr=>∃(k:Nat) (v:Value),v=v0/\k<=AA.length/\i = .int .i64 k/\BM wr wB.heap.size v (CK++Nu b k)/\AC wB wr) (fun _ i _=>AA.length-(intOf i).toNat)
   case atStart=>exact⟨0,_,rfl,Nat.zero_le _,rfl,ho0,hK⟩
   case round=>
    clear hK ho0;obtain⟨k,v,rfl,hk,rfl,ho,hK⟩:=hrel;obtain⟨b0,b1,b2,b3,b4,b5,b6,b7⟩:=BC.out _ hK;by_cases hlt:k<AA.length
    ·
     have i1:(0:Int)<=(k:Int):=Int.natCast_nonneg _;have i2:(k:Int)<(AA.length:Int):=by omega
     have hkn:k<b.AG.length:=by rw[hpn.out];exact hlt
     have i3:(k:Int)<(b.AG.length:Int):=by omega
     have hN:=HN.out.keep (kB.trans hK);obtain⟨a',c',he',hN⟩:=hN;simp only[Value.slice.injEq,true_and] at he';obtain⟨rfl,rfl⟩:=he';rcases hN with h0|⟨bn,on,rfl,hbn,hcn'⟩
     . exfalso;rw[h0] at hkn;simp at hkn
     obtain⟨vn,d3,r3⟩:=hcn' k hkn;obtain⟨an,cn,rfl,-⟩:=r3;have hml2:=QZ b k;have hml3:(CK++Nu b k).length<=AA.length+k:=by rw[List.length_append];omega
     have hsz:=hK.size;have HH:0<(b.AG.getD k []).length->Hid (Nu b (k+1)=Nu b k++[10+(k:Int)]):=fun h=>Lib.hid (iE h)
     have HZ:¬ 0<(b.AG.getD k []).length->Hid (Nu b (k+1)=Nu b k):=fun h=>Lib.hid (Zc h)
     generalize b.AG.getD k []=ns at *;have i4:IntKind.i64.wrap (10+(k:Int))=10+(k:Int):=by rw[IntKind.wrap_i64];omega
     clear hcn';by_cases hz:0<ns.length
     ·
      have HM:Hid (CK++Nu b (k+1)=(CK++Nu b k)++[10+(k:Int)]):=Lib.hid (by rw[(HH hz).out,List.append_assoc]);have i5:(0:Int)<(ns.length:Int):=by omega
      clear HH HZ;generalize CK++Nu b k=PK at *;go_wp2_with (at_builtin;refine wpList_append_own _ rfl _ _ 28 rfl wB.heap.size 2 i0 (.int .i64 0) 1 8 Tryz.underlying28 hi hz0 hz1 hz2 rfl (by decide) _ _ _ rfl (World.ownsRow.alloc ho _) ⟨_,0,none⟩ 1 1 [.int .i64 (10+(k:Int))] rfl rfl ?c1 ?c2 ?c3 ?c4 ?c5 ?_)
      case c1=>
       intro j u hj
       match j,hj with
       | 0,hj=>simp at hj;subst hj;simp[Addr.add]
      case c2=>intro u hu;simp at hu;subst hu;rfl
      case c3=>unfold maxLen;omega
      case c4=>omega
      case c5=>simp;omega
      intro v' w1 hown' hgrow _;have hK1:AC wB w1:=(hK.alloc _).grown hgrow ho.ge;clear hgrow b0 b1 b2 b3 b4 b5 b6 b7;go_wp2;go_roundw;case rel=>exact⟨k+1,_,rfl,by omega,by go_num,by rw[HM.out];exact ES hown',hK1⟩
      case measure=>simp[intOf];omega
     ·
      have HM:=HZ hz;have i5:¬((0:Int)<(ns.length:Int)):=by omega
      clear HH HZ;go_wp2;clear b0 b1 b2 b3 b4 b5 b6 b7;go_roundw;case rel=>exact⟨k+1,_,rfl,by omega,by go_num,by rw[HM.out];exact ho,hK⟩
      case measure=>simp[intOf];omega
    ·
     obtain rfl:k=AA.length:=by omega
     go_wp2;go_ret;exact⟨_,rfl,by rw[<-HP.out];exact ho.Az (by have:=SB.out;omega),kB.trans hK⟩
def B8 (AA:List (List Dd))(b:Bd):List Int:=if AW AA b=true then Ad AA b else []
theorem LX (w:World)(v:BV)(AA:List (List Dd))(b:Bd)(h:CV w v AA b)(hs:Gi AA b):
  Calls Tryz.prog 18 #[v.agg] w fun e w'=>∃v',e = .returned v'/\BM w' w.heap.size v' (B8 AA b)/\AC w w':=by
 have C:=fun (W:World) (kW:AC w W)=>En W v AA b (h.keep kW) hs
 have CP:=fun (W:World) (kW:AC w W) (hb:AW AA b=true)=>Ei W v AA b (h.keep kW) (VH hb)
 obtain⟨aW,aP,aL,aN,aX,aS,aF,aR,cW,cP,cL,cN,cX,cS,cF,cR,rfl⟩:=h.shapes;have BC:Hid (∀(W:World),AC (w.alloc (.cells #[.slice aW AA.length cW,.slice aP b.AM.length cP,.slice aL b.AO.length cL,.slice aN b.AG.length cN,.slice aX b.AL.length cX,.slice aS b.sn.length cS,.slice aF b.fr.length cF,.slice aR b.rws.length cR] 36)) W->W.cell? ⟨w.heap.size,0,none⟩=some (.slice aW AA.length cW)/\W.cell? ⟨w.heap.size,1,none⟩=some (.slice aP b.AM.length cP)/\W.cell? ⟨w.heap.size,2,none⟩=some (.slice aL b.AO.length cL)/\W.cell? ⟨w.heap.size,3,none⟩=some (.slice aN b.AG.length cN)/\W.cell? ⟨w.heap.size,4,none⟩=some (.slice aX b.AL.length cX)/\W.cell? ⟨w.heap.size,5,none⟩=some (.slice aS b.sn.length cS)/\W.cell? ⟨w.heap.size,6,none⟩=some (.slice aF b.fr.length cF)/\W.cell? ⟨w.heap.size,7,none⟩=some (.slice aR b.rws.length cR)):=Lib.hid (fun W k=>⟨AU k 0,AU k 1,AU k 2,AU k 3,AU k 4,AU k 5,AU k 6,AU k 7⟩);cases hb:AW AA b
 ·
  have HE:Hid (B8 AA b=[]):=Lib.hid (by rw[B8,hb];rfl);rw[hb] at C;clear CP;go_enter Tryz.func18,Tryz.ntmps18
  go_wp2_with fail
  refine (C _ ((AC.refl w).alloc _)).mono ?_;rintro e w1 ⟨rfl,k1⟩;have K1:=((AC.refl w).alloc _).trans k1;have s1:=K1.size;have o0:BM (w1.alloc (.cells #[] 2)) w1.heap.size (.slice (some ⟨w1.heap.size,0,none⟩) 0 0) []:=World.ownsRow_lit w1 #[] 0 (Nat.le_refl _) (by decide) rfl;go_wp2;go_ret;exact⟨_,rfl,by rw[HE.out];exact o0.Az s1,K1.alloc _⟩
 ·
  have HE:Hid (B8 AA b=Ad AA b):=Lib.hid (by rw[B8,if_pos hb]);have CP:=fun (W:World) (kW:AC w W)=>CP W kW hb
  rw[hb] at C;go_enter Tryz.func18,Tryz.ntmps18
  go_wp2_with fail
  refine (C _ ((AC.refl w).alloc _)).mono ?_;rintro e w1 ⟨rfl,k1⟩;have K1:=((AC.refl w).alloc _).trans k1;have s1:=K1.size;obtain⟨b0,b1,b2,b3,b4,b5,b6,b7⟩:=BC.out _ k1;clear BC C hb;go_wp2_with fail
  refine (CP _ K1).mono ?_;rintro e w2 ⟨v2,rfl,o2,k2⟩;go_wp2;go_ret;exact⟨_,rfl,by rw[HE.out];exact o2.Az s1,K1.trans k2⟩
section
section
variable {P:Program} {w:World}
theorem Dx {o:Oper}{a:Act}{K:Act->World->Prop}{Q:Exit->Act->World->Prop}(s x:Operand)(t:TypeId)
  (ho:o.op = .call { callee:= .builtin .append,args:=#[s,x],argTypes:=#[t,t] })
  (base:Nat) (e:TypeId) (i:TypeInfo) (z:Value) (size bytes:Nat) (ht:P.underlying t=some (.slice e)) (hi:P.info? e=some i) (hz:i.zero=some z)
  (hsize:i.size=size) (hby:i.bytes=bytes) (hzs:z.cells.size=size) (hsz:0<size)
  (v:Value) (n:Nat) (xs:List Value) (hs:a.eval s=v) (hown:w.ownsRow base e size v n xs)
  (ad:Addr) (m c:Nat) (news:List Value) (hx:a.eval x = .slice (some ad) m c) (hl:news.length=m*size) (hnews:∀j u,news[j]? = some u->w.cell? (ad.add j)=some u) (h1:∀u∈news,u.oneCell'=true)
  (h63:n+m<=maxLen) (hbytes:(n+m)*bytes<=140737488355328) (hbase:base<=w.heap.size)
  (h:∀v' w',w'.ownsRow base e size v' (n+m) (xs++news)->w.grownBy w' v.ownBlock->(v'.ownBlock=v.ownBlock\/v'.ownBlock=some w.heap.size)->K (a.put o.dst v') w'):o.wp P a w K Q:=by
 obtain⟨v',w',hr,h2,h3,_,h5⟩:=run_append_own_at (P:=P) w base t o.type e i z size bytes ht hi hz hsize hby hzs hsz v n xs hown ad m c news hl hnews h1 h63 hbytes hbase;unfold Oper.wp execOp;simp only[ho,resolve,invoke,builtin,Sem.run_bind,Sem.run_pure,Result.andThen_ok,List.map_toArray,List.map_cons,List.map_nil,hs,hx,hr];exact h v' w' h2 h3 h5
end
theorem Tryz.ZG:(Tryz.prog.info? 104).map (fun i=>(i.zero,i.size,i.bytes))=some (some (.agg #[.int .i64 0,.int .i64 0,.int .i64 0]),3,24):=by kernel_rfl
theorem VA (ns:List Nt):(ns.flatMap cN).length=ns.length*3:=by
 induction ns with
 |nil=>rfl
 |cons d r ih=>rw[List.flatMap_cons,List.length_append,ih,List.length_cons];simp[cN];omega
theorem iG (ns:List Nt):∀u∈ns.flatMap cN,u.oneCell'=true:=fun u hu=>by
 obtain⟨x,_,hx⟩:=List.mem_flatMap.1 hu;simp only[cN,List.mem_cons,List.not_mem_nil,or_false] at hx;rcases hx with rfl|rfl|rfl<;>rfl
theorem mg (ns:List Nt):∀(i m:Nat),i<ns.length->m<3->(ns.flatMap cN)[i*3+m]? = (cN (ns.getD i zN))[m]?:=by
 induction ns with
 |nil=>intro i m hi _;simp at hi
 |cons d r ih=>
  intro i m hi hm;rw[List.flatMap_cons]
  cases i with
  |zero=>
   rw[List.getElem?_append_left (by rw[EE];omega)];simp
  |succ i=>
   rw[List.getElem?_append_right (by rw[EE];omega),EE,show (i+1)*3+m-3=i*3+m by omega,ih i m (by simpa using hi) hm];simp
theorem Wd {w:World}{b off:Nat}{ns:List Nt}(h:∀i x,ns[i]? = some x->ah cN w b (off+i*3) x):∀j u,(ns.flatMap cN)[j]? = some u->w.cell? ((⟨b,off,none⟩:Addr).add j)=some u:=fun j u hj=>by
 have hl:j<ns.length*3:=by rw[<-VA];exact (List.getElem?_eq_some_iff.1 hj).1
 have hi:j / 3<ns.length:=by omega
 have hm:j % 3<3:=Nat.mod_lt _ (by omega);have e:j=j / 3*3+j % 3:=by omega
 have h1:=mg ns (j / 3) (j % 3) hi hm;rw[<-e] at h1;rw[h1] at hj;have ea:(⟨b,off,none⟩:Addr).add j=⟨b,off+j / 3*3+j % 3,none⟩:=by rw[show off+j / 3*3+j % 3=off+j by omega];simp[Addr.add]
 rw[ea];exact h (j / 3) _ (Ir hi) (j % 3) u hj
theorem Hd {w:World}{o:Oper}{a:Act}{K:Act->World->Prop}{Q:Exit->Act->World->Prop}(s x:Operand)
  (ho:o.op = .call { callee:= .builtin .append,args:=#[s,x],argTypes:=#[101,101] })
  (base g:Nat) (hs:a.eval s = .slice (some ⟨g,0,none⟩) 0 0) (hown:B5 cN 104 3 w base (.slice (some ⟨g,0,none⟩) 0 0) [])
  (vx:Value) (hx:a.eval x=vx) (ns:List Nt) (hr:jK w vx ns) (hn:ns.length<=1048576) (hb:base<=w.heap.size)
  (h:∀v' w',B5 cN 104 3 w' base v' ns->w.grownBy w' (some g)->K (a.put o.dst v') w'):o.wp Tryz.prog a w K Q:=by
 obtain⟨i0,hi,hz0,hz1,hz2⟩:=info_parts Tryz.ZG;obtain⟨ax,cx,rfl,hr⟩:=hr;rcases hr with h0|⟨bx,ox,rfl,hbx,hcx⟩
 ·
  subst h0
  cases ax with
  |none=>
   have hh:=h (.slice (some ⟨g,0,none⟩) 0 0) w hown (World.grownBy.refl _ _);unfold Oper.wp execOp;simp only[ho,resolve,invoke,builtin,Sem.run_bind,Sem.run_pure,Result.andThen_ok,List.map_toArray,List.map_cons,List.map_nil,hs,hx];go_simp;exact hh
  |some y=>
   refine wp_append_own w s x 101 ho base 104 i0 _ 3 24 Tryz.underlying101 hi hz0 hz1 hz2 rfl (by decide) _ 0 [] hs hown y 0 _ [] hx rfl (by simp) (by simp) (by simp) (by simp) hb ?_;intro v' w' h1 h2 _;exact h v' w' h1 h2
 ·
  refine wp_append_own w s x 101 ho base 104 i0 _ 3 24 Tryz.underlying101 hi hz0 hz1 hz2 rfl (by decide) _ 0 [] hs hown ⟨bx,ox,none⟩ ns.length _ (ns.flatMap cN) hx (VA ns) (Wd hcx) (iG ns) (by unfold maxLen;omega) (by omega) hb ?_;intro v' w' h1 h2 _;refine h v' w' ?_ h2;unfold B5
  simpa using h1
theorem Cu {w:World}{o:Oper}{a:Act}{K:Act->World->Prop}{Q:Exit->Act->World->Prop}(s x:Operand)
  (ho:o.op = .call { callee:= .builtin .append,args:=#[s,x],argTypes:=#[28,28] })
  (base:Nat) (v:Value) (zs:List Int) (hs:a.eval s=v) (hown:BM w base v zs)
  (vx:Value) (hx:a.eval x=vx) (ys:List Int) (hr:Rd w vx ys) (hz:zs.length<=1048576) (hy:ys.length<=1048576) (hb:base<=w.heap.size)
  (h:∀v' w',BM w' base v' (zs++ys)->w.grownBy w' v.ownBlock->(v'.ownBlock=v.ownBlock\/v'.ownBlock=some w.heap.size)->K (a.put o.dst v') w'):o.wp Tryz.prog a w K Q:=by
 obtain⟨i0,hi,hz0,hz1,hz2⟩:=info_parts Tryz.GU
 have law:∀(ad:Addr) (c:Nat),a.eval x = .slice (some ad) ys.length c->(∀j u,(ys.map (Value.int .i64))[j]? = some u->w.cell? (ad.add j)=some u)->o.wp Tryz.prog a w K Q:=fun ad c hx hn=>by
  refine Dx s x 28 ho base 2 i0 _ 1 8 Tryz.underlying28 hi hz0 hz1 hz2 rfl (by decide) v zs.length (zs.map (Value.int .i64)) hs hown ad ys.length c (ys.map (Value.int .i64)) hx (by simp) hn (fun u hu=>?_) (by unfold maxLen;omega) (by omega) hb ?_
  . obtain⟨q,_,rfl⟩:=List.mem_map.1 hu;rfl
  ·
   intro v' w' h1 h2 h3;refine h v' w' ?_ h2 h3;unfold BM;rw[List.length_append,List.map_append];exact h1
 obtain⟨ax,cx,rfl,hr⟩:=hr;rcases hr with h0|⟨bx,ox,rfl,hbx,hcx⟩
 ·
  subst h0
  cases ax with
  |none=>
   have hh:=h v w (by rw[List.append_nil];exact hown) (World.grownBy.refl _ _) (.inl rfl);rcases hown.2 with ⟨rfl,hn0⟩|⟨g,cap,cur,rfl,-,-,hcap,-⟩
   ·
    unfold Oper.wp execOp;simp only[ho,resolve,invoke,builtin,Sem.run_bind,Sem.run_pure,Result.andThen_ok,List.map_toArray,List.map_cons,List.map_nil,hs,hx];go_simp;exact hh
   ·
    unfold Oper.wp execOp;simp only[ho,resolve,invoke,builtin,Sem.run_bind,Sem.run_pure,Result.andThen_ok,List.map_toArray,List.map_cons,List.map_nil,hs,hx];go_simp;exact hh
  |some y=>exact law y _ hx (fun j u hu=>by simp at hu)
 ·
  refine law _ _ hx (fun j u hu=>?_);have hj:j<ys.length:=by have:=(List.getElem?_eq_some_iff.1 hu).1;simpa using this
  have e:=hcx j hj;rw[List.getElem?_map,List.getElem?_eq_getElem hj] at hu;simp only[Option.map_some,Option.some.injEq] at hu;rw[List.getD_eq_getElem?_getD,List.getElem?_eq_getElem hj] at e;simp only[Option.getD_some] at e;rw[<-hu]
  have ea:(⟨bx,ox,none⟩:Addr).add j=⟨bx,ox+j,none⟩:=by
   by_cases hj0:j=0
   . subst hj0;simp[Addr.add]
   . simp[Addr.add,hj0]
  rw[ea];exact e
end
theorem BB {w:World}{ops:Array Oper}{rest:List Oper}{o:Oper}{a:Act}{Q:Exit->Act->World->Prop}(hgd:o.guard=none)(s x:Operand)
  (ho:o.op = .call { callee:= .builtin .append,args:=#[s,x],argTypes:=#[28,28] })
  (base:Nat) (v:Value) (zs:List Int) (hs:a.eval s=v) (hown:BM w base v zs)
  (vx:Value) (hx:a.eval x=vx) (ys:List Int) (hr:Rd w vx ys) (hz:zs.length<=1048576) (hy:ys.length<=1048576) (hb:base<=w.heap.size)
  (h:∀v' w',BM w' base v' (zs++ys)->w.grownBy w' v.ownBlock->(v'.ownBlock=v.ownBlock\/v'.ownBlock=some w.heap.size)->wpList Tryz.prog ops Q rest (a.put o.dst v') w'):wpList Tryz.prog ops Q (o::rest) a w:=
 wpList_plain hgd fun _ hK=>Cu s x ho base v zs hs hown vx hx ys hr hz hy hb (fun v' w' h1 h2 h3=>hK _ _ (h v' w' h1 h2 h3))
section
theorem Gg {x:Bool}{C:Prop}(h:x=true)(q:x=false):C:=absurd (h.symm.trans q) (by simp)
def AZ (B:Nat->Bool)(i:Nat):Nat->Bool:=fun k=>if k=i then true else B k
def DY (rows:List Nat)(B:Nat->Bool)(j:Nat):Prop:=j∈rows/\B j=true
theorem LI {rows:List Nat}{B:Nat->Bool}{i j:Nat}(h:DY rows (AZ B i) j):DY rows B j\/j=i:=by
 obtain⟨h1,h2⟩:=h;by_cases e:j=i
 . exact .inr e
 ·
  refine .inl ⟨h1,?_⟩;unfold AZ at h2;rw[if_neg e] at h2;exact h2
theorem EJ {rows:List Nat}{B:Nat->Bool}{i j:Nat}(hi:i∉rows)(h:DY rows (AZ B i) j):DY rows B j:=by
 rcases LI h with q|rfl
 . exact q
 . exact absurd h.1 hi
structure Mk (w:World)(m:Nat)(live:Nat->Prop)(R:Nat->Rw)(wk:Bool)(vW:Value)(bs N:Nat)(AA:List (List Dd)):Prop where
 Ai:GH w m live R
 work:wk=true->JP w bs N vW AA/\N<=w.heap.size/\m<=bs
 out:wk=true->∀i,live i->∀k,(R i).v.ownBlock=some k->k<bs\/N<=k
section
variable {w w':World} {m:Nat} {rows:List Nat} {B:Nat->Bool} {R:Nat->Rw} {wk:Bool} {vW:Value} {bs N:Nat} {AA:List (List Dd)}
theorem Mk.start (w:World)(m:Nat)(rows:List Nat)(R:Nat->Rw)(vW:Value)(bs N:Nat)(AA:List (List Dd)):Mk w m (DY rows (fun _=>false)) R false vW bs N AA:=
 ⟨⟨fun _ h=>(by cases h.2),fun _ _ h=>(by cases h.2)⟩,fun h=>(by cases h),fun h=>(by cases h)⟩
theorem Mk.keep {live:Nat->Prop}(h:Mk w m live R wk vW bs N AA)(k:AC w w'):Mk w' m live R wk vW bs N AA:=
 ⟨h.Ai.keep k,fun e=>⟨(h.work e).1.kept k.grownBy (by simp),Nat.le_trans (h.work e).2.1 k.size,(h.work e).2.2⟩,h.out⟩
theorem Mk.pass (h:Mk w m (DY rows B) R wk vW bs N AA){i:Nat}(hi:i∉rows):Mk w m (DY rows (AZ B i)) R wk vW bs N AA:=
 ⟨h.Ai.congr (fun _ hj=>EJ hi hj) (fun _ _=>rfl),h.work,fun e j hj=>h.out e j (EJ hi hj)⟩
theorem Mk.add (h:Mk w m (DY rows B) R wk vW bs N AA){i:Nat}(hi:B i=false){r:Rw}(k:AC w w')(ho:r.own w' m)(hn:∀b,r.v.ownBlock=some b->w.heap.size<=b):Mk w' m (DY rows (AZ B i)) (JC R i r) wk vW bs N AA:=by
 have F:=h.Ai.add (i:=i) (fun q=>by have q2:=q.2;rw[hi] at q2;cases q2) (r:=r) rfl k ho hn;refine⟨F.congr (fun j hj=>LI hj) (fun _ _=>rfl),(h.keep k).work,fun e j hj b hb=>?_⟩;by_cases ej:j=i
 ·
  subst ej;rw[Ap] at hb;have:=hn b hb;have:=(h.work e).2.1;right;omega
 ·
  rw[AV _ _ ej] at hb;exact h.out e j ((LI hj).resolve_right ej) b hb
theorem Mk.copied (h:Mk w m (DY rows B) R false vW bs N AA){i:Nat}(hi:i∉rows){v':Value}(k:AC w w')(hx:bB w' w.heap.size v' AA)(hm:m<=w.heap.size):Mk w' m (DY rows (AZ B i)) R true v' w.heap.size w'.heap.size AA:=
 ⟨(h.Ai.keep k).congr (fun _ hj=>EJ hi hj) (fun _ _=>rfl),fun _=>⟨hx.upto,Nat.le_refl _,hm⟩,fun _ _ hj b hb => .inl (h.Ai.lt (EJ hi hj) b hb).2⟩
theorem Mk.turn (h:Mk w m (DY rows B) R wk vW bs N AA){i j:Nat}(hi:i∉rows)(hj:DY rows B j){r:Rw}(hg:w.grownBy w' (R j).v.ownBlock)(hv:r.v=(R j).v)(ho:r.own w' m):Mk w' m (DY rows (AZ B i)) (JC R j r) wk vW bs N AA:=by
 have F:=h.Ai.set hj (r:=r) hg (.inl (by rw[hv])) ho;refine⟨F.congr (fun _ q=>EJ hi q) (fun _ _=>rfl),fun e=>⟨(h.work e).1.kept hg (fun g e'=>h.out e j hj g e'),Nat.le_trans (h.work e).2.1 hg.size,(h.work e).2.2⟩,fun e q hq b hb=>?_⟩;by_cases eq:q=j
 ·
  subst eq;rw[Ap,hv] at hb;exact h.out e q hj b hb
 ·
  rw[AV _ _ eq] at hb;exact h.out e q (EJ hi hq) b hb
end
theorem GH.via {ι κ:Type}{w:World}{m:Nat}{live:ι->Prop}{R:ι->Rw}(h:GH w m live R)(g:κ->Option ι)(inj:∀a b i,g a=some i->g b=some i->a=b){live':κ->Prop}{R':κ->Rw}
  (h1:∀a i,live' a->g a=some i->live i/\R' a=R i) (h2:∀a,live' a->g a=none->(R' a).own w m/\(R' a).v.ownBlock=none):GH w m live' R':=by
 refine⟨fun a ha=>?_,fun a b ha hb hab=>?_⟩
 ·
  cases e:g a with
  |none=>exact (h2 a ha e).1
  |some i=>rw[(h1 a i ha e).2];exact h.own i (h1 a i ha e).1
 ·
  cases e:g a with
  |none=>exact .inl (h2 a ha e).2
  |some i=>
   cases e':g b with
   |none=>
    rw[(h2 b hb e').2]
    cases (R' a).v.ownBlock with
    |none=>exact .inl rfl
    |some q=>exact .inr (by simp)
   |some j=>
    rw[(h1 a i ha e).2,(h1 b j hb e').2];exact h.apart i j (h1 a i ha e).1 (h1 b j hb e').1 (fun q=>by subst q;exact hab (inj a b i e e'))
theorem IQ (w:World)(m:Nat)(t:TypeId)(s:Nat):Rw.own w m ⟨t,s,AE,0,[]⟩:=⟨by simp,.inl ⟨rfl,rfl⟩⟩
theorem Ke (w:World){m:Nat}(hm:m<=w.heap.size)(t:TypeId)(cs:Array Value)(h:cs.size<=maxLen):Rw.own (w.alloc (.cells cs t)) m ⟨t,1,.slice (some ⟨w.heap.size,0,none⟩) cs.size cs.size,cs.size,cs.toList⟩:=by
 refine⟨by simp,.inr ⟨w.heap.size,cs.size,cs,rfl,hm,heap_alloc_new w _,Nat.le_refl _,h,by simp,?_⟩⟩;rw[Nat.mul_one];exact List.take_of_length_le (by simp)
section
variable {P:Program} {ops:Array Oper} {Q:Exit->Act->World->Prop} {md:Region.Mode}
theorem Bj {listed:Array Bool}(h:Region.ready md ops listed=[])(i:Nat)(o:Oper)(ho:ops[i]? = some o)(hd:o.after.all (fun e=>!Region.binds md e||listed.getD e.on false)=true):listed.getD i true=true:=by
 cases e:listed.getD i true with
 |true=>rfl
 |false=>
  exfalso;have hi:i<ops.size:=(Array.getElem?_eq_some_iff.1 ho).1
  have:i∈Region.ready md ops listed:=by
   unfold Region.ready;rw[List.mem_filter,List.mem_range];refine⟨hi,?_⟩;simp only[Bool.and_eq_true,Bool.not_eq_true'];refine⟨e,?_⟩;rw[ho];exact hd
  rw[h] at this;cases this
theorem AJ {listed:Array Bool}{i:Nat}(h:i∈Region.ready md ops listed)(k:Nat){o:Oper}(ho:ops[i]? = some o)(he:o.after.any (fun e=>e.on==k&&Region.binds md e)=true):listed.getD k false=true:=by
 have h1:=(AF h).2.2 o ho;rw[Array.any_eq_true'] at he;obtain⟨e,hm,he⟩:=he;rw[Array.all_eq_true'] at h1;have h2:=h1 e hm;rw[Bool.and_eq_true,beq_iff_eq] at he;rw[he.2,he.1] at h2
 simpa using h2
theorem DZ {listed:Array Bool}(h:Region.ready md ops listed=[])(hs:listed.size=ops.size)(ha:(List.range ops.size).all (fun i=>match ops[i]? with|some o=>o.after.all (fun e=>decide (e.on<i))|none=>true)=true):∀i,i<ops.size->listed.getD i false=true:=by
 intro i
 induction i using Nat.strongRecOn with
 |ind i ih=>
  intro hi;have hi':=List.all_eq_true.1 ha i (List.mem_range.2 hi);rw[Array.getElem?_eq_getElem hi] at hi'
  have h1:=Bj h i ops[i] (Array.getElem?_eq_getElem hi) (by
   rw[Array.all_eq_true'];intro e he;have h2:=(Array.all_eq_true'.1 hi') e he;rw[decide_eq_true_eq] at h2;rw[ih e.on h2 (by omega)]
   simp)
  rw[Array.getD_eq_getD_getElem?,Array.getElem?_eq_getElem (by omega)] at h1 ⊢;exact h1
theorem AH {i:Nat}{o:Oper}{K:Act->World->Prop}{a:Act}{w:World}(ho:ops[i]? = some o)(hg:Region.wanted o (yielded ops a.tmps)=true)
  (h:∀K':Act->World->Prop,Shut (∀a w,K a w->K' a w)->Oper.wp P o a w K' Q):wpOp P ops Q i K a w:=wpOp_step ho (fun K' hK=>by rw[if_pos hg];exact h K' hK)
end
theorem Kp {o:Oper}{a:Act}{w:World}{K:Act->World->Prop}{Q:Exit->Act->World->Prop}(x y:Operand)(ho:o.op = .makeSlice 28 x y)(n:Nat)(hx:a.eval x = .int .i64 (n:Int))(hy:a.eval y = .int .i64 (n:Int))(hn:n<=1048576)(m:Nat)(hm:m<=w.heap.size)
  (h:∀w',BM w' m (.slice (some ⟨w.heap.size,0,none⟩) n n) (List.replicate n 0)->AC w w'->K (a.put o.dst (.slice (some ⟨w.heap.size,0,none⟩) n n)) w'):o.wp Tryz.prog a w K Q:=by
 obtain⟨i0,hi,hz0,hz1,hz2⟩:=info_parts Tryz.GU;obtain⟨w',hrun,r1,r2⟩:=run_make_full (P:=Tryz.prog) w m 28 2 i0 (.int .i64 0) 1 Tryz.underlying28 hi hz0 hz1 .i64 .i64 n (by rw[hz2];omega) (by unfold maxLen;omega) hm;unfold Oper.wp;simp[execOp,ho,hx,hy,hrun,Result.andThen];refine h w' ?_ ((AC.refl w).grown r2 (by simp));unfold BM;rw[Nat.mul_one,show (Value.int .i64 0).cells=#[.int .i64 0] from rfl,toList_madeCells_one] at r1
 simpa using r1
theorem GD {g n cap b:Nat}(h:(Value.slice (some ⟨g,0,none⟩) n cap).ownBlock=some b):g<=b:=Nat.le_of_eq (Option.some.inj h)
end
end Go.Proofs.YtnmelakgmgenjaaGreat
