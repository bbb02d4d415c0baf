/- Gathered texts. -/
import Derived.Test.YtflehmepjhikcaaGreatDoorMH
import Derived.Outline
import Derived.Lib.Hide
import Derived.RegionTactic
import Derived.Deep.QuietTactic
import Derived.BigQuiet
import Derived.Maps.AppendAt
import Derived.Laws.OwnMore
import Derived.Deep.Cut
import Derived.Laws.AppendOwn
import Derived.OwnWalk
import Derived.Deep.RegionHeld3
set_option maxRecDepth 100000
set_option maxHeartbeats 8000000
namespace Go.Proofs.YtflehmepjhikcaaGreatDoor
open Go.ChangeShapes Go.WideShapes Go.ChangeAt Go.RowKit
section
section
variable {w w1 w2 w':World} {m D:Nat} {v:BV} {nv rv:List Value} {bs N:Nat} {AA:List (List Dd)} {b:Bd}
theorem AU.X5 (h:AU w m D v nv rv bs N AA b){u:Value}{zs:List Int}(hg:w.grownBy w2 v.P.ownBlock)(hb:u.ownBlock=v.P.ownBlock\/u.ownBlock=some w.heap.size\/u.ownBlock=none)(ho:A7 w2 m u zs):
  AU (w2.setCell ⟨D,1,none⟩ u) m D { v with P:=u } nv rv bs N AA { b with AM:=zs }/\w2.cell? ⟨D,1,none⟩=some v.P/\w2.frozen? ⟨D,1,none⟩=false:=by
 have F1:=h.Af.set (i:= .AM) trivial (r:=BU zs u) hg hb ho;have o1:(GL D v).own w2 m:=F1.own .bd trivial;obtain⟨q1,q2,q3⟩:=Ie (k:=1) (x:=u) (v':={ v with P:=u }) o1 rfl;have F2:=F1.set (i:= .bd) trivial (r:=GL D { v with P:=u }) q2 (.inl rfl) q1;have hf:∀j,As D { v with P:=u } nv rv { b with AM:=zs } j=IE (IE (As D v nv rv b) .AM (BU zs u)) .bd (GL D { v with P:=u }) j:=fun j=>by cases j<;>rfl
 refine⟨h.mk2 (F2.congr (fun _ hj=>hj) (fun j _=>hf j)) h.ln h.lr rfl (Nat.le_trans hg.size q2.size) ((h.work.kept hg (fun g e=>h.out .AM trivial g e)).kept q2 h.nD) (fun j hj k hk=>?_),(h.stay .AM trivial (by simp) hg 1).trans h.cells.2.1,q3⟩;by_cases e:j = .AM
 ·
  subst e;have hk:u.ownBlock=some k:=hk;rcases hb with e|e|e
  . exact .inl ⟨.AM,trivial,by rw[<-hk,e];rfl⟩
  . rw[e] at hk;exact .inr (Nat.le_of_eq (Option.some.inj hk))
  . rw[e] at hk;cases hk
 ·
  refine .inl ⟨j,hj,?_⟩;cases j<;>first|exact hk|exact absurd rfl e
theorem AU.X0 (h:AU w m D v nv rv bs N AA b){u:Value}{zs:List Int}(hg:w.grownBy w2 v.L.ownBlock)(hb:u.ownBlock=v.L.ownBlock\/u.ownBlock=some w.heap.size\/u.ownBlock=none)(ho:A7 w2 m u zs):
  AU (w2.setCell ⟨D,2,none⟩ u) m D { v with L:=u } nv rv bs N AA { b with AO:=zs }/\w2.cell? ⟨D,2,none⟩=some v.L/\w2.frozen? ⟨D,2,none⟩=false:=by
 have F1:=h.Af.set (i:= .AO) trivial (r:=BU zs u) hg hb ho;have o1:(GL D v).own w2 m:=F1.own .bd trivial;obtain⟨q1,q2,q3⟩:=Ie (k:=2) (x:=u) (v':={ v with L:=u }) o1 rfl;have F2:=F1.set (i:= .bd) trivial (r:=GL D { v with L:=u }) q2 (.inl rfl) q1;have hf:∀j,As D { v with L:=u } nv rv { b with AO:=zs } j=IE (IE (As D v nv rv b) .AO (BU zs u)) .bd (GL D { v with L:=u }) j:=fun j=>by cases j<;>rfl
 refine⟨h.mk2 (F2.congr (fun _ hj=>hj) (fun j _=>hf j)) h.ln h.lr rfl (Nat.le_trans hg.size q2.size) ((h.work.kept hg (fun g e=>h.out .AO trivial g e)).kept q2 h.nD) (fun j hj k hk=>?_),(h.stay .AO trivial (by simp) hg 2).trans h.cells.2.2.1,q3⟩;by_cases e:j = .AO
 ·
  subst e;have hk:u.ownBlock=some k:=hk;rcases hb with e|e|e
  . exact .inl ⟨.AO,trivial,by rw[<-hk,e];rfl⟩
  . rw[e] at hk;exact .inr (Nat.le_of_eq (Option.some.inj hk))
  . rw[e] at hk;cases hk
 ·
  refine .inl ⟨j,hj,?_⟩;cases j<;>first|exact hk|exact absurd rfl e
theorem AU.X6 (h:AU w m D v nv rv bs N AA b){u:Value}{zs:List Int}(hg:w.grownBy w2 v.X.ownBlock)(hb:u.ownBlock=v.X.ownBlock\/u.ownBlock=some w.heap.size\/u.ownBlock=none)(ho:A7 w2 m u zs):
  AU (w2.setCell ⟨D,4,none⟩ u) m D { v with X:=u } nv rv bs N AA { b with AK:=zs }/\w2.cell? ⟨D,4,none⟩=some v.X/\w2.frozen? ⟨D,4,none⟩=false:=by
 have F1:=h.Af.set (i:= .AK) trivial (r:=BU zs u) hg hb ho;have o1:(GL D v).own w2 m:=F1.own .bd trivial;obtain⟨q1,q2,q3⟩:=Ie (k:=4) (x:=u) (v':={ v with X:=u }) o1 rfl;have F2:=F1.set (i:= .bd) trivial (r:=GL D { v with X:=u }) q2 (.inl rfl) q1;have hf:∀j,As D { v with X:=u } nv rv { b with AK:=zs } j=IE (IE (As D v nv rv b) .AK (BU zs u)) .bd (GL D { v with X:=u }) j:=fun j=>by cases j<;>rfl
 refine⟨h.mk2 (F2.congr (fun _ hj=>hj) (fun j _=>hf j)) h.ln h.lr rfl (Nat.le_trans hg.size q2.size) ((h.work.kept hg (fun g e=>h.out .AK trivial g e)).kept q2 h.nD) (fun j hj k hk=>?_),(h.stay .AK trivial (by simp) hg 4).trans h.cells.2.2.2.2.1,q3⟩;by_cases e:j = .AK
 ·
  subst e;have hk:u.ownBlock=some k:=hk;rcases hb with e|e|e
  . exact .inl ⟨.AK,trivial,by rw[<-hk,e];rfl⟩
  . rw[e] at hk;exact .inr (Nat.le_of_eq (Option.some.inj hk))
  . rw[e] at hk;cases hk
 ·
  refine .inl ⟨j,hj,?_⟩;cases j<;>first|exact hk|exact absurd rfl e
end
structure DW (w:World)(bs N:Nat)(v:Value)(wv:List Value)(AA:List (List Dd)):Prop where
 ll:B0 72 Rk w bs v wv AA
 lt:∀o,EG wv.length o->∀k,(KF 72 Rk v wv AA o).v.ownBlock=some k->k<N
theorem DW.kept {w w':World}{bs N:Nat}{v:Value}{wv:List Value}{AA:List (List Dd)}(h:DW w bs N v wv AA){row:Option Nat}(hg:w.grownBy w' row)(hr:∀g,row=some g->g<bs\/N<=g):DW w' bs N v wv AA:=
 ⟨⟨h.ll.Af.far hg (fun i hi=>by
  cases e:(KF 72 Rk v wv AA i).v.ownBlock with
  |none=>exact .inl rfl
  |some k=>exact .inr (fun e'=>by have:=(h.ll.Af.lt hi k e).1;have:=h.lt i hi k e;have:=hr k e'.symm;omega)),h.ll.len⟩,h.lt⟩
theorem DW.keep {w w':World}{bs N:Nat}{v:Value}{wv:List Value}{AA:List (List Dd)}(h:DW w bs N v wv AA)(k:AC w w'):DW w' bs N v wv AA:=h.kept k.grownBy (by simp)
theorem FQ.gY {w:World}{base N:Nat}{v:Value}{V:Nat->Value}{AA:List (List Dd)}(h:FQ w base N v V AA):DW w base N v ((List.range AA.length).map V) AA:=by
 have e:∀i,i<AA.length->((List.range AA.length).map V).getD i AF=V i:=fun i hi=>by rw[List.getD_eq_getElem?_getD,MT V _ i hi];rfl
 have hl:((List.range AA.length).map V).length=AA.length:=by simp
 have at0:∀i,EG ((List.range AA.length).map V).length (some i)->i<AA.length:=fun i hi=>by rw[<-hl];exact hi
 refine⟨⟨⟨fun o ho=>?_,fun o o' ho ho' hne=>?_⟩,hl⟩,fun o ho k hk=>?_⟩
 ·
  cases o with
  |none=>
   show w.ownsRow base _ 1 v ((List.range AA.length).map V).length ((List.range AA.length).map V);rw[hl];exact h.row
  |some i=>
   show w.ownsRow base _ 4 (((List.range AA.length).map V).getD i AF) (AA.getD i []).length _;rw[e i (at0 i ho)];exact h.each i (at0 i ho)
 ·
  cases o with
  |none=>
   cases o' with
   |none=>exact absurd rfl hne
   |some i=>
    show v.ownBlock=none\/v.ownBlock≠(((List.range AA.length).map V).getD i AF).ownBlock;rw[e i (at0 i ho')]
    cases hv:(V i).ownBlock with
    |none=>cases v.ownBlock<;>simp
    |some k=>exact .inr (h.out i (at0 i ho') k hv)
  |some i=>
   show (((List.range AA.length).map V).getD i AF).ownBlock=none\/(((List.range AA.length).map V).getD i AF).ownBlock≠_;rw[e i (at0 i ho)]
   cases hv:(V i).ownBlock with
   |none=>exact .inl rfl
   |some k=>
    right
    cases o' with
    |none=>exact fun q=>h.out i (at0 i ho) k hv q.symm
    |some j=>
     show _≠(((List.range AA.length).map V).getD j AF).ownBlock;rw[e j (at0 j ho')];have hij:i≠j:=fun q=>hne (by rw[q])
     rcases Nat.lt_or_ge i j with q|q
     . exact fun x=>h.apart i j q (at0 j ho') k hv x.symm
     . exact fun x=>h.apart j i (by omega) (at0 i ho) k x.symm hv
 ·
  cases o with
  |none=>exact h.lt k hk
  |some i=>
   have hk:(((List.range AA.length).map V).getD i AF).ownBlock=some k:=hk;rw[e i (at0 i ho)] at hk;exact h.pO i (at0 i ho) k hk
theorem Lw {a b c:World}{row r2:Option Nat}(h:a.grownBy b row)(k:b.grownBy c r2)(hr:∀g,r2=some g->a.heap.size<=g):a.grownBy c row:=
 ⟨k.os.trans h.os,k.tape.trans h.tape,k.output.trans h.output,Nat.le_trans h.size k.size,fun q hq hne=>(k.block q (Nat.lt_of_lt_of_le hq h.size) (fun e=>by have:=hr q e.symm;omega)).trans (h.block q hq hne)⟩
theorem SX {a b c:World}{row:Option Nat}(h:a.grownBy b row)(k:b.grownBy c row):a.grownBy c row:=
 ⟨k.os.trans h.os,k.tape.trans h.tape,k.output.trans h.output,Nat.le_trans h.size k.size,fun q hq hne=>(k.block q (Nat.lt_of_lt_of_le hq h.size) hne).trans (h.block q hq hne)⟩
theorem Q8 {w:World}{bs N:Nat}{v:Value}{AA:List (List Dd)}(h:IZ w bs N v AA)(ht:N<=w.heap.size)(m:Nat):BL w m ⟨v,AF,AF,AF,AF,AF,AF,AF⟩ [] [] bs N AA ⟨[],[],[],[],[],[],[]⟩:=by
 have hv:∀i,BN [] [] i->i≠.bd->(As 0 ⟨v,AF,AF,AF,AF,AF,AF,AF⟩ [] [] ⟨[],[],[],[],[],[],[]⟩ i).v.ownBlock=none:=fun i hi hb=>by
  cases i with
  |bd=>exact absurd rfl hb
  |nt c=>exact absurd (show c<0 from hi) (by omega)
  |rw c=>exact absurd (show c<0 from hi) (by omega)
  |_=>rfl
 refine⟨⟨fun i hi=>?_,fun i j hi _ _ => .inl (hv i hi.1 hi.2)⟩,rfl,rfl,h,ht,fun i hi hb k hk=>by rw[hv i hi hb] at hk;cases hk⟩;obtain⟨hi,hb⟩:=hi
 cases i with
 |bd=>exact absurd rfl hb
 |nt c=>exact absurd (show c<0 from hi) (by omega)
 |rw c=>exact absurd (show c<0 from hi) (by omega)
 |_=>exact⟨rfl,.inl ⟨rfl,rfl⟩⟩
structure NB (wb w:World)(m D:Nat)(v:BV)(nv rv:List Value)(bs N:Nat)(AA:List (List Dd))(b:Bd):Prop where
 ob:AU w m D v nv rv bs N AA b
 lo:∀i,BN nv rv i->i≠.bd->∀k,(As D v nv rv b i).v.ownBlock=some k->wb.heap.size<=k
 sm:wb.grownBy w (some D)
section
variable {wb w w1 w2 w':World} {m D:Nat} {v:BV} {nv rv wv:List Value} {bs N:Nat} {AA:List (List Dd)} {b:Bd}
theorem NB.start {W:Value}(h:AU w m D ⟨W,AF,AF,AF,AF,AF,AF,AF⟩ [] [] bs N AA ⟨[],[],[],[],[],[],[]⟩):NB w w m D ⟨W,AF,AF,AF,AF,AF,AF,AF⟩ [] [] bs N AA ⟨[],[],[],[],[],[],[]⟩:=by
 refine⟨h,fun i hi hb k hk=>?_,World.grownBy.refl _ _⟩
 cases i with
 |bd=>exact absurd rfl hb
 |nt c=>exact absurd (show c<0 from hi) (by omega)
 |rw c=>exact absurd (show c<0 from hi) (by omega)
 |_=>exact absurd (show (none:Option Nat)=some k from hk) (by simp)
theorem NB.keep (h:NB wb w m D v nv rv bs N AA b)(k:AC w w'):NB wb w' m D v nv rv bs N AA b:=⟨h.ob.keep k,h.lo,Lw h.sm k.grownBy (by simp)⟩
theorem NB.put (h:NB wb w m D v nv rv bs N AA b)(i:BI)(hi:BN nv rv i)(hb:i≠.bd)(hg:w.grownBy w2 (As D v nv rv b i).v.ownBlock)(k:Nat)(u:Value):wb.grownBy (w2.setCell ⟨D,k,none⟩ u) (some D):=
 SX (Lw h.sm hg (fun g e=>h.lo i hi hb g e)) (Ac w2 D k u)
theorem NB.X5 (h:NB wb w m D v nv rv bs N AA b){u:Value}{zs:List Int}(hg:w.grownBy w2 v.P.ownBlock)(hb:u.ownBlock=v.P.ownBlock\/u.ownBlock=some w.heap.size)(ho:A7 w2 m u zs):
  NB wb (w2.setCell ⟨D,1,none⟩ u) m D { v with P:=u } nv rv bs N AA { b with AM:=zs }/\w2.cell? ⟨D,1,none⟩=some v.P/\w2.frozen? ⟨D,1,none⟩=false:=by
 obtain⟨h1,h2,h3⟩:=h.ob.X5 hg (by rcases hb with e|e;exact .inl e;exact .inr (.inl e)) ho;refine⟨⟨h1,fun i hi hb' k hk=>?_,h.put .AM trivial (by simp) hg 1 u⟩,h2,h3⟩;by_cases e:i = .AM
 ·
  subst e;have hk:u.ownBlock=some k:=hk;rcases hb with e|e
  . exact h.lo .AM trivial (by simp) k (e.symm.trans hk)
  ·
   rw[e] at hk;have:=Option.some.inj hk;have:=h.sm.size;omega
 ·
  refine h.lo i hi hb' k ?_;cases i<;>first|exact hk|exact absurd rfl e|exact absurd rfl hb'
theorem NB.X0 (h:NB wb w m D v nv rv bs N AA b){u:Value}{zs:List Int}(hg:w.grownBy w2 v.L.ownBlock)(hb:u.ownBlock=v.L.ownBlock\/u.ownBlock=some w.heap.size)(ho:A7 w2 m u zs):
  NB wb (w2.setCell ⟨D,2,none⟩ u) m D { v with L:=u } nv rv bs N AA { b with AO:=zs }/\w2.cell? ⟨D,2,none⟩=some v.L/\w2.frozen? ⟨D,2,none⟩=false:=by
 obtain⟨h1,h2,h3⟩:=h.ob.X0 hg (by rcases hb with e|e;exact .inl e;exact .inr (.inl e)) ho;refine⟨⟨h1,fun i hi hb' k hk=>?_,h.put .AO trivial (by simp) hg 2 u⟩,h2,h3⟩;by_cases e:i = .AO
 ·
  subst e;have hk:u.ownBlock=some k:=hk;rcases hb with e|e
  . exact h.lo .AO trivial (by simp) k (e.symm.trans hk)
  ·
   rw[e] at hk;have:=Option.some.inj hk;have:=h.sm.size;omega
 ·
  refine h.lo i hi hb' k ?_;cases i<;>first|exact hk|exact absurd rfl e|exact absurd rfl hb'
theorem NB.X6 (h:NB wb w m D v nv rv bs N AA b){u:Value}{zs:List Int}(hg:w.grownBy w2 v.X.ownBlock)(hb:u.ownBlock=v.X.ownBlock\/u.ownBlock=some w.heap.size)(ho:A7 w2 m u zs):
  NB wb (w2.setCell ⟨D,4,none⟩ u) m D { v with X:=u } nv rv bs N AA { b with AK:=zs }/\w2.cell? ⟨D,4,none⟩=some v.X/\w2.frozen? ⟨D,4,none⟩=false:=by
 obtain⟨h1,h2,h3⟩:=h.ob.X6 hg (by rcases hb with e|e;exact .inl e;exact .inr (.inl e)) ho;refine⟨⟨h1,fun i hi hb' k hk=>?_,h.put .AK trivial (by simp) hg 4 u⟩,h2,h3⟩;by_cases e:i = .AK
 ·
  subst e;have hk:u.ownBlock=some k:=hk;rcases hb with e|e
  . exact h.lo .AK trivial (by simp) k (e.symm.trans hk)
  ·
   rw[e] at hk;have:=Option.some.inj hk;have:=h.sm.size;omega
 ·
  refine h.lo i hi hb' k ?_;cases i<;>first|exact hk|exact absurd rfl e|exact absurd rfl hb'
theorem NB.Tq (h:NB wb w m D v nv rv bs N AA b){u:Value}{zs:List Int}(hg:w.grownBy w2 v.S.ownBlock)(hb:u.ownBlock=v.S.ownBlock\/u.ownBlock=some w.heap.size)(ho:A7 w2 m u zs):
  NB wb (w2.setCell ⟨D,5,none⟩ u) m D { v with S:=u } nv rv bs N AA { b with sn:=zs }/\w2.cell? ⟨D,5,none⟩=some v.S/\w2.frozen? ⟨D,5,none⟩=false:=by
 obtain⟨h1,h2,h3⟩:=h.ob.Tq hg (by rcases hb with e|e;exact .inl e;exact .inr (.inl e)) ho;refine⟨⟨h1,fun i hi hb' k hk=>?_,h.put .sn trivial (by simp) hg 5 u⟩,h2,h3⟩;by_cases e:i = .sn
 ·
  subst e;have hk:u.ownBlock=some k:=hk;rcases hb with e|e
  . exact h.lo .sn trivial (by simp) k (e.symm.trans hk)
  ·
   rw[e] at hk;have:=Option.some.inj hk;have:=h.sm.size;omega
 ·
  refine h.lo i hi hb' k ?_;cases i<;>first|exact hk|exact absurd rfl e|exact absurd rfl hb'
theorem NB.Tp (h:NB wb w m D v nv rv bs N AA b){u:Value}{zs:List Int}(hg:w.grownBy w2 v.F.ownBlock)(hb:u.ownBlock=v.F.ownBlock\/u.ownBlock=some w.heap.size)(ho:A7 w2 m u zs):
  NB wb (w2.setCell ⟨D,6,none⟩ u) m D { v with F:=u } nv rv bs N AA { b with fr:=zs }/\w2.cell? ⟨D,6,none⟩=some v.F/\w2.frozen? ⟨D,6,none⟩=false:=by
 obtain⟨h1,h2,h3⟩:=h.ob.Tp hg (by rcases hb with e|e;exact .inl e;exact .inr (.inl e)) ho;refine⟨⟨h1,fun i hi hb' k hk=>?_,h.put .fr trivial (by simp) hg 6 u⟩,h2,h3⟩;by_cases e:i = .fr
 ·
  subst e;have hk:u.ownBlock=some k:=hk;rcases hb with e|e
  . exact h.lo .fr trivial (by simp) k (e.symm.trans hk)
  ·
   rw[e] at hk;have:=Option.some.inj hk;have:=h.sm.size;omega
 ·
  refine h.lo i hi hb' k ?_;cases i<;>first|exact hk|exact absurd rfl e|exact absurd rfl hb'
theorem NB.RA (h:NB wb w m D v nv rv bs N AA b){u u':Value}{ns:List Nt}(k1:AC w w1)(hu:∀k,u.ownBlock=some k->w.heap.size<=k)(ou:Bp cN 155 3 w1 m u ns)
  (hg:w1.grownBy w2 v.N.ownBlock) (hb:u'.ownBlock=v.N.ownBlock\/u'.ownBlock=some w1.heap.size) (ho:(Dx 151 (nv++[u]) u').own w2 m):
  NB wb (w2.setCell ⟨D,3,none⟩ u') m D { v with N:=u' } (nv++[u]) rv bs N AA { b with AJ:=b.AJ++[ns] }/\w2.cell? ⟨D,3,none⟩=some v.N/\w2.frozen? ⟨D,3,none⟩=false:=by
 obtain⟨h1,h2,h3⟩:=h.ob.RA k1 hu ou hg (by rcases hb with e|e;exact .inl e;exact .inr (.inl e)) ho;have hs:=h.sm.size;have hs1:=k1.size;refine⟨⟨h1,fun i hi hb' k hk=>?_,(h.keep k1).put .AJ trivial (by simp) hg 3 u'⟩,h2,h3⟩
 cases i with
 |bd=>exact absurd rfl hb'
 |AJ=>
  have hk:u'.ownBlock=some k:=hk;rcases hb with e|e
  . exact h.lo .AJ trivial (by simp) k (e.symm.trans hk)
  ·
   rw[e] at hk;have:=Option.some.inj hk;omega
 |nt q=>
  have hk:((nv++[u]).getD q AF).ownBlock=some k:=hk;rw[D3] at hk;by_cases e:q=nv.length
  . rw[if_pos e] at hk;have:=hu k hk;omega
  ·
   rw[if_neg e] at hk;have hq:q<(nv++[u]).length:=hi;rw[List.length_append] at hq;exact h.lo (.nt q) (show q<nv.length by simp at hq;omega) (by simp) k hk
 |rw q=>exact h.lo (.rw q) hi (by simp) k hk
 |AM=>exact h.lo .AM trivial (by simp) k hk
 |AO=>exact h.lo .AO trivial (by simp) k hk
 |AK=>exact h.lo .AK trivial (by simp) k hk
 |sn=>exact h.lo .sn trivial (by simp) k hk
 |fr=>exact h.lo .fr trivial (by simp) k hk
 |rws=>exact h.lo .rws trivial (by simp) k hk
theorem NB.UK (h:NB wb w m D v nv rv bs N AA b){u u':Value}{zs:List Int}(k1:AC w w1)(hu:∀k,u.ownBlock=some k->w.heap.size<=k)(ou:A7 w1 m u zs)
  (hg:w1.grownBy w2 v.R.ownBlock) (hb:u'.ownBlock=v.R.ownBlock\/u'.ownBlock=some w1.heap.size) (ho:(Dx 25 (rv++[u]) u').own w2 m):
  NB wb (w2.setCell ⟨D,7,none⟩ u') m D { v with R:=u' } nv (rv++[u]) bs N AA { b with rws:=b.rws++[zs] }/\w2.cell? ⟨D,7,none⟩=some v.R/\w2.frozen? ⟨D,7,none⟩=false:=by
 obtain⟨h1,h2,h3⟩:=h.ob.UK k1 hu ou hg (by rcases hb with e|e;exact .inl e;exact .inr (.inl e)) ho;have hs:=h.sm.size;have hs1:=k1.size;refine⟨⟨h1,fun i hi hb' k hk=>?_,(h.keep k1).put .rws trivial (by simp) hg 7 u'⟩,h2,h3⟩
 cases i with
 |bd=>exact absurd rfl hb'
 |rws=>
  have hk:u'.ownBlock=some k:=hk;rcases hb with e|e
  . exact h.lo .rws trivial (by simp) k (e.symm.trans hk)
  ·
   rw[e] at hk;have:=Option.some.inj hk;omega
 |rw q=>
  have hk:((rv++[u]).getD q AF).ownBlock=some k:=hk;rw[D3] at hk;by_cases e:q=rv.length
  . rw[if_pos e] at hk;have:=hu k hk;omega
  ·
   rw[if_neg e] at hk;have hq:q<(rv++[u]).length:=hi;rw[List.length_append] at hq;exact h.lo (.rw q) (show q<rv.length by simp at hq;omega) (by simp) k hk
 |nt q=>exact h.lo (.nt q) hi (by simp) k hk
 |AM=>exact h.lo .AM trivial (by simp) k hk
 |AO=>exact h.lo .AO trivial (by simp) k hk
 |AK=>exact h.lo .AK trivial (by simp) k hk
 |sn=>exact h.lo .sn trivial (by simp) k hk
 |fr=>exact h.lo .fr trivial (by simp) k hk
 |AJ=>exact h.lo .AJ trivial (by simp) k hk
theorem AU.all (ob:AU w m D v nv rv bs N AA b)(lw:DW w bs N v.W wv AA)(hm:m<=bs):FF w m v nv rv wv AA b:=by
 have fo:∀i,i≠BI.bd->As 0 v nv rv b i=As D v nv rv b i:=fun i hi=>by cases i<;>first|rfl|exact absurd rfl hi
 have wl:∀o,EG wv.length o->∀k,(KF 72 Rk v.W wv AA o).v.ownBlock=some k->bs<=k/\k<N:=fun o ho k hk=>⟨(lw.ll.Af.lt ho k hk).1,lw.lt o ho k hk⟩
 have cross:∀i,BN nv rv i->∀o,EG wv.length o->(As D v nv rv b i).v.ownBlock=none\/(As D v nv rv b i).v.ownBlock≠(KF 72 Rk v.W wv AA o).v.ownBlock:=fun i hi o ho=>by
  cases e:(As D v nv rv b i).v.ownBlock with
  |none=>exact .inl rfl
  |some k=>exact .inr (fun q=>by have:=ob.out i hi k e;have:=wl o ho k q.symm;omega)
 have cross':∀o,EG wv.length o->∀i,BN nv rv i->(KF 72 Rk v.W wv AA o).v.ownBlock=none\/(KF 72 Rk v.W wv AA o).v.ownBlock≠(As D v nv rv b i).v.ownBlock:=fun o ho i hi=>by
  cases e:(KF 72 Rk v.W wv AA o).v.ownBlock with
  |none=>exact .inl rfl
  |some k=>exact .inr (fun q=>by have:=ob.out i hi k q.symm;have:=wl o ho k e;omega)
 refine⟨⟨fun j hj=>?_,fun i j hi hj hij=>?_⟩,ob.ln,ob.lr,lw.ll.len⟩
 ·
  cases j with
  |b i=>
   show (As 0 v nv rv b i).own w m;rw[fo i hj.2];exact ob.Af.own i hj.1
  |wk=>exact DI (lw.ll.Af.own none trivial) hm
  |wd c=>exact DI (lw.ll.Af.own (some c) hj) hm
 ·
  cases i with
  |b i=>
   show (As 0 v nv rv b i).v.ownBlock=none\/(As 0 v nv rv b i).v.ownBlock≠_;rw[fo i hi.2]
   cases j with
   |b j=>
    show _\/_≠(As 0 v nv rv b j).v.ownBlock;rw[fo j hj.2];exact ob.Af.apart i j hi.1 hj.1 (fun e=>hij (by rw[e]))
   |wk=>exact cross i hi.1 none trivial
   |wd c=>exact cross i hi.1 (some c) hj
  |wk=>
   cases j with
   |b j=>
    show _\/_≠(As 0 v nv rv b j).v.ownBlock;rw[fo j hj.2];exact cross' none trivial j hj.1
   |wk=>exact absurd rfl hij
   |wd c=>exact lw.ll.Af.apart none (some c) trivial hj (by simp)
  |wd c=>
   cases j with
   |b j=>
    show _\/_≠(As 0 v nv rv b j).v.ownBlock;rw[fo j hj.2];exact cross' (some c) hi j hj.1
   |wk=>exact lw.ll.Af.apart (some c) none hi trivial (by simp)
   |wd d=>exact lw.ll.Af.apart (some c) (some d) hi hj (fun e=>hij (by have:=Option.some.inj e;rw[this]))
end
end
section
theorem D6 {w w':World}{m:Nat}{r:Rw}(h:r.own w m)(hb:∀g,r.v.ownBlock=some g->w'.heap[g]? = w.heap[g]?):r.own w' m:=by
 unfold Rw.own at h ⊢;refine⟨h.1,?_⟩;rcases h.2 with q|⟨g,cap,cur,e,hm,hg,rest⟩
 . exact .inl q
 . exact .inr ⟨g,cap,cur,e,hm,(hb g (by rw[e];rfl)).trans hg,rest⟩
theorem IZ.same {w w':World}{base N:Nat}{v:Value}{AA:List (List Dd)}(h:IZ w base N v AA)(hs:w.heap.size<=w'.heap.size)(hh:∀g,base<=g->g<N->w'.heap[g]? = w.heap[g]?):IZ w' base N v AA:=by
 obtain⟨a,cap,hv,h⟩:=h;refine⟨a,cap,hv,?_⟩;rcases h with h|⟨b,off,ha,h1,h2,h3,h4⟩
 . exact .inl h
 ·
  refine .inr ⟨b,off,ha,h1,h2,Nat.lt_of_lt_of_le h3 hs,fun i hi=>?_⟩;obtain⟨vi,e1,e2,e3⟩:=h4 i hi;refine⟨vi,(World.cell?_of_block (a:=⟨b,off+i,none⟩) (hh b h1 h2)).trans e1,?_,e3⟩;exact D6 (r:=Rk (AA.getD i []) vi) e2 (fun g hg=>hh g (World.ownsRow.lt e2 g hg).1 (e3 g hg))
theorem DW.same {w w':World}{bs N:Nat}{v:Value}{wv:List Value}{AA:List (List Dd)}(h:DW w bs N v wv AA)(hh:∀g,bs<=g->g<N->w'.heap[g]? = w.heap[g]?):DW w' bs N v wv AA:=
 ⟨⟨⟨fun o ho=>D6 (h.ll.Af.own o ho) (fun g hg=>hh g (h.ll.Af.lt ho g hg).1 (h.lt o ho g hg)),h.ll.Af.apart⟩,h.ll.len⟩,h.lt⟩
theorem FO.part {ι:Type}{w w':World}{m:Nat}{live live':ι->Prop}{R R':ι->Rw}(S:ι->Prop)(h:FO w m live R)(hS:FO w' m (fun i=>live' i/\S i) R')(hl:∀i,¬S i->live' i->live i)(hR:∀i,¬S i->live' i->R' i=R i){F F':Nat->Prop}(t:Ah w w' F F')
  (hF:∀i,live i->¬S i->∀g,(R i).v.ownBlock=some g->¬F g) (hF':∀i,live' i->S i->∀g,(R' i).v.ownBlock=some g->F' g):FO w' m live' R':=by
 have far:∀i j,live' i->¬S i->live' j->S j->(R' i).v.ownBlock=none\/(R' i).v.ownBlock≠(R' j).v.ownBlock:=fun i j hi hni hj hsj=>by
  cases e:(R' i).v.ownBlock with
  |none=>exact .inl rfl
  |some g=>
   refine .inr (fun q=>?_);rw[hR i hni hi] at e;have h1:=hF i (hl i hni hi) hni g e;have h2:=(h.lt (hl i hni hi) g e).2;rcases t.news g (hF' j hj hsj g q.symm) with h3|h3
   . exact h1 h3
   . omega
 refine⟨fun i hi=>?_,fun i j hi hj hij=>?_⟩
 ·
  by_cases s:S i
  . exact hS.own i ⟨hi,s⟩
  ·
   rw[hR i s hi];exact D6 (h.own i (hl i s hi)) (fun g hg=>t.block g (h.lt (hl i s hi) g hg).2 (hF i (hl i s hi) s g hg))
 ·
  by_cases s:S i
  ·
   by_cases r:S j
   . exact hS.apart i j ⟨hi,s⟩ ⟨hj,r⟩ hij
   ·
    rcases far j i hj r hi s with q|q
    ·
     rw[q]
     cases (R' i).v.ownBlock with
     |none=>exact .inl rfl
     |some g=>exact .inr (by simp)
    . exact .inr (fun e=>q e.symm)
  ·
   by_cases r:S j
   . exact far i j hi s hj r
   . rw[hR i s hi,hR j r hj];exact h.apart i j (hl i s hi) (hl j r hj) hij
def Rm:BI->Prop
 | .AM=>True
 | .AO=>True
 | .rws=>True
 | .rw _=>True
 |_=>False
def DT (v:BV)(nv rv:List Value)(g:Nat):Prop:=∃i,BN nv rv i/\i≠.bd/\(vB 0 v nv rv i).ownBlock=some g
theorem TT {D:Nat}{v:BV}{nv rv:List Value}{g:Nat}(h:Bf D v nv rv g):DT v nv rv g\/g=D:=by
 obtain⟨i,hi,e⟩:=h
 cases i with
 |bd=>exact .inr (Option.some.inj e).symm
 |AM=>exact .inl ⟨.AM,trivial,by simp,e⟩
 |AO=>exact .inl ⟨.AO,trivial,by simp,e⟩
 |AJ=>exact .inl ⟨.AJ,trivial,by simp,e⟩
 |AK=>exact .inl ⟨.AK,trivial,by simp,e⟩
 |sn=>exact .inl ⟨.sn,trivial,by simp,e⟩
 |fr=>exact .inl ⟨.fr,trivial,by simp,e⟩
 |rws=>exact .inl ⟨.rws,trivial,by simp,e⟩
 |nt c=>exact .inl ⟨.nt c,hi,by simp,e⟩
 |rw p=>exact .inl ⟨.rw p,hi,by simp,e⟩
theorem Wz {D:Nat}{v:BV}{nv rv:List Value}{g:Nat}(h:DT v nv rv g):Bf D v nv rv g:=by
 obtain⟨i,hi,hb,e⟩:=h;refine⟨i,hi,?_⟩;cases i<;>first|exact e|exact absurd rfl hb
theorem Oj {D:Nat}{v:BV}{nv rv:List Value}{g:Nat}(h:Ec v rv g):Bf D v nv rv g:=by
 obtain⟨i,hi,e⟩:=h
 cases i with
 |AM=>exact⟨.AM,trivial,e⟩
 |AO=>exact⟨.AO,trivial,e⟩
 |rws=>exact⟨.rws,trivial,e⟩
 |rw p=>exact⟨.rw p,hi,e⟩
 |_=>exact absurd hi (by simp[De])
section
variable {w w':World} {m D:Nat} {v:BV} {nv rv rv' wv:List Value} {bs N:Nat} {AA:List (List Dd)} {b b':Bd}
theorem BL.blk (h:BL w m v nv rv bs N AA b):∀g,DT v nv rv g->m<=g/\g<w.heap.size/\(g<bs\/N<=g):=fun g ⟨i,hi,hb,e⟩=>by
 rw[<-J4 0 v nv rv b i] at e;exact⟨(h.Af.lt ⟨hi,hb⟩ g e).1,(h.Af.lt ⟨hi,hb⟩ g e).2,h.out i hi hb g e⟩
theorem DW.turn (h:DW w bs N v.W wv AA)(o:BL w m v nv rv bs N AA b){F':Nat->Prop}(t:Ah w w' (DT v nv rv) F'):DW w' bs N v.W wv AA:=
 h.same (fun g h1 h2=>t.block g (Nat.lt_of_lt_of_le h2 o.top) (fun q=>by have:=(o.blk g q).2.2;omega))
theorem aJ (v:BV)(nv rv:List Value)(b:Bd){i:BI}(h:Rm i):As 0 v [] rv b i=As D v nv rv b i:=by
 cases i<;>first|rfl|exact absurd h (by simp[Rm])
theorem AU.YK (h:AU w m D v nv rv bs N AA b):DM w m v rv b:=by
 refine⟨h.Af.congr (fun i hi=>?_) (fun i hi=>?_),h.lr⟩
 . cases i<;>first|trivial|exact hi|exact absurd hi (by simp[De])
 . cases i<;>first|rfl|exact absurd hi (by simp[De])
theorem AU.turn (h:AU w m D v nv rv bs N AA b)(o:DM w' m v rv' b')(t:Ah w w' (Ec v rv) (Ec v rv'))(e1:b'.AJ=b.AJ)(e2:b'.AK=b.AK)(e3:b'.sn=b.sn)(e4:b'.fr=b.fr):
  AU w' m D v nv rv' bs N AA b'/\Ah w w' (Bf D v nv rv) (Bf D v nv rv'):=by
 have lI:∀i,BN nv rv' i/\Rm i->De rv' i:=fun i ⟨h1,h2⟩=>by cases i<;>first|trivial|exact h1|exact absurd h2 (by simp[Rm])
 have nI:∀i,BN nv rv i->¬Rm i->∀g,(As D v nv rv b i).v.ownBlock=some g->¬Ec v rv g:=fun i hi hs g hg hB=>by
  obtain⟨j,hj,e⟩:=hB;have hij:i≠j:=fun q=>hs (by subst q;cases i<;>first|trivial|exact absurd hj (by simp[De]))
  have lj:BN nv rv j:=by cases j<;>first|trivial|exact hj|exact absurd hj (by simp[De])
  have ej:(As D v nv rv b j).v.ownBlock=some g:=by
   rw[J4];cases j<;>first|exact e|exact absurd hj (by simp[De])
  rcases h.Af.apart i j hi lj hij with q|q
  . rw[hg] at q;cases q
  . exact q (hg.trans ej.symm)
 have F:=h.Af.part (w':=w') (live':=BN nv rv') (R':=As D v nv rv' b') Rm (o.Af.congr lI (fun i hi=>(aJ (D:=D) v nv rv' b' hi.2).symm)) (fun i hs hi=>by cases i<;>first|trivial|exact hi|exact absurd trivial hs)
  (fun i hs _=>by cases i<;>first|exact absurd trivial hs|(simp only[As,e1,e2,e3,e4])) t nI (fun i hi hs g hg=>⟨i,lI i ⟨hi,hs⟩,by
   rw[J4] at hg
   cases i<;>first|exact hg|exact absurd hs (by simp[Rm])⟩)
 have nB:∀g,Bf D v nv rv' g->Bf D v nv rv g\/w.heap.size<=g:=fun g ⟨i,hi,e⟩=>by
  by_cases s:Rm i
  ·
   rcases t.news g ⟨i,lI i ⟨hi,s⟩,by cases i<;>first|exact e|exact absurd s (by simp[Rm])⟩ with q|q
   . exact .inl (Oj q)
   . exact .inr q
  . exact .inl ⟨i,by cases i<;>first|trivial|exact hi|exact absurd trivial s,by cases i<;>first|exact e|exact absurd trivial s⟩
 refine⟨⟨F,by rw[e1];exact h.ln,o.lr,h.work.same t.size (fun g h1 h2=>t.block g (Nat.lt_of_lt_of_le h2 h.top) (fun q=>by have:=(h.blk g (Oj q)).2.2;omega)),Nat.le_trans h.top t.size,fun i hi k hk=>?_⟩,⟨t.os,t.tape,t.output,t.size,fun g hg hn=>t.block g hg (fun q=>hn (Oj q)),nB⟩⟩;rw[J4] at hk;rcases nB k ⟨i,hi,hk⟩ with q|q
 . exact (h.blk k q).2.2
 . right;exact Nat.le_trans h.top q
end
end
theorem Hi {xs ys:List Int}{k:Nat}(hx:k<xs.length)(hy:k<ys.length)(h:xs.take k=ys.take k)(e:xs.getD k 0=ys.getD k 0):xs.take (k+1)=ys.take (k+1):=by
 rw[EW xs k hx,EW ys k hy,h,e]
theorem jX {xs ys:List Int}{k:Nat}(h:xs.getD k 0≠ys.getD k 0):xs≠ys:=by
 intro e;subst e;exact h rfl
theorem Nv:∀(k:Nat) (a b:List Int),k<a.length->k<b.length->a.take k=b.take k->a.getD k 0≠b.getD k 0->Bm a b=decide (a.getD k 0<b.getD k 0)
 |_,[],_,h,_,_,_=>by simp at h
 |_,_::_,[],_,h,_,_=>by simp at h
 | 0,x::a,y::b,_,_,_,hne=>by
  simp only[List.getD_cons_zero] at hne ⊢;rw[Dt,if_pos hne]
 |k+1,x::a,y::b,h1,h2,ht,hne=>by
  simp only[List.take_succ_cons,List.cons.injEq,List.getD_cons_succ,List.length_cons] at *;rw[Dt,if_neg (by simp[ht.1])];exact Nv k a b (by omega) (by omega) ht.2 hne
theorem MH:∀(k:Nat) (a b:List Int),a.take k=b.take k->k<=a.length->k<=b.length->(k=a.length\/k=b.length)->Bm a b=decide (a.length<b.length)
 |_,[],b,_,_,_,_=>by rw[Jd];simp
 |_,x::a,[],_,_,_,_=>by rw[FB];simp
 | 0,_::_,_::_,_,_,_,h=>by simp at h
 |k+1,x::a,y::b,ht,h1,h2,h=>by
  simp only[List.take_succ_cons,List.cons.injEq,List.length_cons] at *;rw[Dt,if_neg (by simp[ht.1]),MH k a b ht.2 (by omega) (by omega) (by omega)];simp
theorem Y4 (w:World)(v1 v2:Value)(xs ys:List Int)(h1:Rd w v1 xs)(h2:Rd w v2 ys)(hx:xs.length<=1048576):
  Calls Tryz.prog 123 #[v1,v2] w fun e w'=>e = .returned (.bool (decide (xs=ys)))/\AC w w':=by
 obtain⟨a1,c1,rfl,h1⟩:=h1;obtain⟨a2,c2,rfl,h2⟩:=h2;by_cases hl:xs.length=ys.length
 ·
  have hlb:((xs.length:Int) != (ys.length:Int))=false:=by simp[hl]
  have hl1:xs.length<=ys.length:=by omega
  have hl2:ys.length<=xs.length:=by omega
  clear hl;go_enter Tryz.func123,Tryz.ntmps123
  go_wp2;go_loopw [5] (fun i wr=>∃k:Nat,k<=xs.length/\i = .int .i64 k/\xs.take k=ys.take k/\AC w wr) (fun i _=>xs.length-(intOf i).toNat)
  case atStart=>exact⟨0,Nat.zero_le _,rfl,by simp,AC.refl _⟩
  case round=>
   obtain⟨k,hk,rfl,ht,hK⟩:=hrel;by_cases hlt:k<xs.length
   ·
    rcases h1 with h|⟨b1,o1,rfl,hb1,hc1⟩
    . subst h;simp at hlt
    rcases h2 with h|⟨b2,o2,rfl,hb2,hc2⟩
    . exfalso;rw[h] at hl1;simp only[List.length_nil] at hl1;omega
    have hy2:k<ys.length:=by omega
    have d1:=(hK.cell hb1).trans (hc1 k hlt);have d2:=(hK.cell hb2).trans (hc2 k hy2);clear hc1 hc2;obtain⟨p,hp⟩:∃p,p=xs.getD k 0:=⟨_,rfl⟩;obtain⟨q,hq⟩:∃q,q=ys.getD k 0:=⟨_,rfl⟩;rw[<-hp] at d1;rw[<-hq] at d2;have HP:Hid (p=xs.getD k 0):=hp;have HQ:Hid (q=ys.getD k 0):=hq;have HT:Hid (xs.take k=ys.take k):=ht;clear hp hq ht;by_cases he:p=q
    ·
     have hne:(p != q)=false:=by simp[he]
     have HE:Hid (p=q):=he;clear he;go_wp2;go_quiet (fail)
     go_wp2;go_roundw;case rel=>exact⟨k+1,by omega,by go_num,Hi hlt hy2 HT.out (by rw[<-HP.out,<-HQ.out];exact HE.out),hK.drewN _⟩
     case measure=>simp[intOf];omega
    ·
     have hne:(p != q)=true:=by simp[he]
     have HE:Hid (p≠q):=he;clear he;go_wp2;go_quiet (fail)
     go_wp2;go_ret;refine⟨A8 ?_,?_⟩
     ·
      have:=jX (xs:=xs) (ys:=ys) (k:=k) (by rw[<-HP.out,<-HQ.out];exact HE.out);simp[this]
     . exact hK.drewN _
   ·
    go_wp2;go_ret;refine⟨A8 ?_,hK⟩;rw[List.take_of_length_le (by omega),List.take_of_length_le (by omega)] at ht;simp[ht]
 ·
  have hlb:((xs.length:Int) != (ys.length:Int))=true:=by simp;omega
  have HL:Hid (¬xs.length=ys.length):=hl;clear hl;go_enter Tryz.func123,Tryz.ntmps123
  go_wp2;go_ret;refine⟨A8 ?_,AC.refl _⟩;have:xs≠ys:=fun e=>HL.out (by rw[e])
  simp[this]
theorem Qs (w:World)(v1 v2:Value)(xs ys:List Int)(h1:Rd w v1 xs)(h2:Rd w v2 ys)(hx:xs.length<=1048576):
  Calls Tryz.prog 122 #[v1,v2] w fun e w'=>e = .returned (.bool (Bm xs ys))/\AC w w':=by
 obtain⟨a1,c1,rfl,h1⟩:=h1;obtain⟨a2,c2,rfl,h2⟩:=h2;go_enter Tryz.func122,Tryz.ntmps122
 go_wp2;go_loopw [5] (fun i wr=>∃k:Nat,k<=xs.length/\k<=ys.length/\i = .int .i64 k/\xs.take k=ys.take k/\AC w wr) (fun i _=>xs.length-(intOf i).toNat)
 case atStart=>exact⟨0,Nat.zero_le _,Nat.zero_le _,rfl,by simp,AC.refl _⟩
 case round=>
  obtain⟨k,hk1,hk2,rfl,ht,hK⟩:=hrel;by_cases hlt:k<xs.length
  ·
   by_cases oQ:k<ys.length
   ·
    rcases h1 with h|⟨b1,o1,rfl,hb1,hc1⟩
    . subst h;simp at hlt
    rcases h2 with h|⟨b2,o2,rfl,hb2,hc2⟩
    . exfalso;rw[h] at oQ;simp at oQ
    have d1:=(hK.cell hb1).trans (hc1 k hlt);have d2:=(hK.cell hb2).trans (hc2 k oQ);clear hc1 hc2;have HL:=Lib.hid (Nv k xs ys hlt oQ ht);obtain⟨p,hp⟩:∃p,p=xs.getD k 0:=⟨_,rfl⟩;obtain⟨q,hq⟩:∃q,q=ys.getD k 0:=⟨_,rfl⟩;rw[<-hp] at d1;rw[<-hq] at d2;rw[<-hp,<-hq] at HL;have HP:Hid (p=xs.getD k 0):=hp;have HQ:Hid (q=ys.getD k 0):=hq;have HT:Hid (xs.take k=ys.take k):=ht;clear hp hq ht;by_cases he:p=q
    ·
     have hne:(p != q)=false:=by simp[he]
     have HE:Hid (p=q):=he;clear he HL;go_wp2;go_quiet (fail)
     go_wp2;go_roundw;case rel=>exact⟨k+1,by omega,by omega,by go_num,Hi hlt oQ HT.out (by rw[<-HP.out,<-HQ.out];exact HE.out),hK.drewN _⟩
     case measure=>simp[intOf];omega
    ·
     have hne:(p != q)=true:=by simp[he]
     have HE:=Lib.hid (HL.out he);clear he HL;go_wp2;go_quiet (fail)
     go_wp2;go_quiet (fail)
     go_wp2;go_ret;exact⟨A8 HE.out.symm,(hK.drewN _).drewN _⟩
   ·
    have HE:=Lib.hid (MH k xs ys ht hk1 hk2 (by omega));clear ht;go_wp2;go_ret;exact⟨A8 (by rw[HE.out]),hK⟩
  ·
   have HE:=Lib.hid (MH k xs ys ht hk1 hk2 (by omega));clear ht;go_wp2;go_ret;exact⟨A8 (by rw[HE.out]),hK⟩
theorem Qr (w:World)(v vo:Value)(BZ:List (List Int))(x:List Int)(h:ZS w v BZ)(hx:Rd w vo x)(hO:NK BZ)(hl:BZ.length<=1099511627776)(hm:∀i,i<BZ.length->(BZ.getD i []).length<=1048576):
  Calls Tryz.prog 92 #[v,vo] w fun e w'=>e = .returned (.tuple #[.int .i64 (C4 BZ x:Int),.bool (PD BZ x)])/\AC w w':=by
 obtain⟨a,c,rfl,h⟩:=h;have HR:=Lib.hid (En hO x);have hrl:=PY BZ x;obtain⟨R,hR⟩:∃R,R=C4 BZ x:=⟨_,rfl⟩;rw[<-hR] at HR hrl;have HI:Hid (PD BZ x=(decide (R<BZ.length)&&(BZ.getD R []==x))):=Lib.hid (by rw[hR];rfl);rw[<-hR];clear hR hO;go_enter Tryz.func92,Tryz.ntmps92
 go_wp2;go_loopw [6,7,8] (fun lo hi _ wr=>∃l r:Nat,l<=R/\R<=r/\r<=BZ.length/\lo = .int .i64 l/\hi = .int .i64 r/\AC w wr) (fun lo hi _ _=>(intOf hi).toNat-(intOf lo).toNat)
 case atStart=>exact⟨0,BZ.length,Nat.zero_le _,hrl,Nat.le_refl _,rfl,rfl,AC.refl _⟩
 case round=>
  obtain⟨l,r,h1,h2,h3,rfl,rfl,hK⟩:=hrel;by_cases hlt:l<r
  ·
   obtain⟨p,hp1,hp2⟩:∃p:Nat,Int.tdiv ((l:Int)+(r:Int)) 2=(p:Int)/\p=(l+r) / 2:=⟨(l+r) / 2,by rw[Int.tdiv_eq_ediv_of_nonneg (by omega)];omega,rfl⟩;have hpl:p<BZ.length:=by omega
   rcases h with h|⟨b,o,rfl,hb,hc⟩
   . exfalso;rw[h] at hpl;simp at hpl
   obtain⟨vi,d1,rd⟩:=hc p hpl;have d1:=(hK.cell hb).trans d1;have CL:=Qs wr vi vo _ x (rd.keep hK) (hx.keep hK) (hm p hpl);have HP:=HR.out p hpl;rw[show Bm (BZ.getD p []) x=Bm BZ[p] x from by rw[List.getD_eq_getElem?_getD,List.getElem?_eq_getElem hpl];rfl,HP] at CL;clear hc rd HP hm hx;have i1:(0:Int)<=(p:Int):=Int.natCast_nonneg _;have i2:(p:Int)<(BZ.length:Int):=by omega
   have HP2:=Lib.hid hp2;clear hp2;go_wp2_with fail
   refine CL.mono ?_;rintro e wz ⟨rfl,kk⟩;by_cases hR:p<R
   ·
    have hb:decide (p<R)=true:=by simpa using hR
    go_wp2;go_roundw;case rel=>exact⟨p+1,r,by omega,h2,h3,by go_num,rfl,hK.trans kk⟩
    case measure=>
     have:=HP2.out;simp[intOf];omega
   ·
    have hb:decide (p<R)=false:=by simpa using hR
    go_wp2;go_roundw;case rel=>exact⟨l,p,h1,by omega,by omega,rfl,rfl,hK.trans kk⟩
    case measure=>
     have:=HP2.out;simp[intOf];omega
  ·
   obtain rfl:l=R:=by omega
   by_cases hR:l<BZ.length
   ·
    rcases h with h|⟨b,o,rfl,hb,hc⟩
    . exfalso;rw[h] at hR;simp at hR
    obtain⟨vi,d1,rd⟩:=hc l hR;have d1:=(hK.cell hb).trans d1;have CS:=Y4 wr vi vo _ x (rd.keep hK) (hx.keep hK) (hm l hR);rw[decide_eq_true hR,Bool.true_and,show (BZ.getD l []==x)=decide (BZ.getD l []=x) from by rw[Bool.eq_iff_iff];simp] at HI;generalize decide (BZ.getD l []=x)=E at *;have i1:(0:Int)<=(l:Int):=Int.natCast_nonneg _;have i2:(l:Int)<(BZ.length:Int):=by omega
    clear hc rd hm hx;go_wp2_with fail
    refine CS.mono ?_;rintro e wz ⟨rfl,kk⟩;go_wp2;go_ret2
    exact⟨by rw[HI.out];rfl,hK.trans kk⟩
   ·
    rw[decide_eq_false hR,Bool.false_and] at HI;go_wp2;go_ret2
    exact⟨by rw[HI.out];rfl,hK⟩
structure Fp (w:World)(P:Nat->Prop)(base:Nat)(v:Value)(vs:List Value)(BZ:List (List Int)):Prop where
 row:w.ownsRow base 25 1 v BZ.length vs
 np:∀g,v.ownBlock=some g->¬P g
 each:∀i,i<BZ.length->Rd w (vs.getD i AF) (BZ.getD i [])/\∀g,(vs.getD i AF).ownBlock=some g->P g
theorem Il {w w':World}(h:w.grownBy w' none)(row:Option Nat):w.grownBy w' row:=⟨h.os,h.tape,h.output,h.size,fun k hk _=>h.block k hk (by simp)⟩
theorem SW {a b c:World}{r:Option Nat}{g:Nat}(h:a.grownBy b r)(k:b.grownBy c (some g))(hg:a.heap.size<=g):a.grownBy c r:=
 ⟨k.os.trans h.os,k.tape.trans h.tape,k.output.trans h.output,Nat.le_trans h.size k.size,fun q hq hr=>(k.block q (Nat.lt_of_lt_of_le hq h.size) (fun e=>by have:=Option.some.inj e;omega)).trans (h.block q hq hr)⟩
theorem PZ {w w':World}{v:Value}{zs:List Int}(h:Rd w v zs)(hs:w.heap.size<=w'.heap.size)(hb:∀g,v.ownBlock=some g->g<w.heap.size->w'.heap[g]? = w.heap[g]?):Rd w' v zs:=by
 obtain⟨a,c,rfl,h⟩:=h;refine⟨a,c,rfl,?_⟩;rcases h with h|⟨b,o,rfl,hb',hc⟩
 . exact .inl h
 ·
  refine .inr ⟨b,o,rfl,Nat.lt_of_lt_of_le hb' hs,fun i hi=>?_⟩;rw[World.cell?_of_block (w:=w) (hb b rfl hb')];exact hc i hi
theorem Fp.lt {w:World}{P:Nat->Prop}{base:Nat}{v:Value}{vs:List Value}{BZ:List (List Int)}(h:Fp w P base v vs BZ):∀g,v.ownBlock=some g->base<=g/\g<w.heap.size:=World.ownsRow.lt h.row
theorem Fp.kept {w w':World}{P:Nat->Prop}{base:Nat}{v:Value}{vs:List Value}{BZ:List (List Int)}{r:Option Nat}(h:Fp w P base v vs BZ)(hg:w.grownBy w' r)(hr:∀g,r=some g->¬P g/\v.ownBlock≠some g):Fp w' P base v vs BZ:=by
 refine⟨World.ownsRow.kept h.row hg ?_,h.np,fun i hi=>⟨PZ (h.each i hi).1 hg.size (fun g hv hl=>hg.block g hl (fun e=>(hr g e.symm).1 ((h.each i hi).2 g hv))),(h.each i hi).2⟩⟩
 cases hv:v.ownBlock with
 |none=>exact .inl rfl
 |some g=>exact .inr (fun e=>(hr g e.symm).2 hv)
theorem Fp.mono {w:World}{P P':Nat->Prop}{base:Nat}{v:Value}{vs:List Value}{BZ:List (List Int)}(h:Fp w P base v vs BZ)(hp:∀g,P g->P' g)(hn:∀g,v.ownBlock=some g->¬P' g):Fp w P' base v vs BZ:=
 ⟨h.row,hn,fun i hi=>⟨(h.each i hi).1,fun g hg=>hp g ((h.each i hi).2 g hg)⟩⟩
theorem Fp.rM {w:World}{P:Nat->Prop}{base:Nat}{v:Value}{vs:List Value}{BZ:List (List Int)}(h:Fp w P base v vs BZ):ZS w v BZ:=by
 have hl:=h.row.1;have h2:=h.row;rcases h.row.2 with ⟨rfl,hz⟩|⟨g,cap,cur,rfl,hb,hg,_⟩
 . exact⟨none,0,by rw[hz],.inl (List.eq_nil_of_length_eq_zero hz)⟩
 ·
  refine⟨_,_,rfl,.inr ⟨g,0,rfl,(h.lt g rfl).2,fun i hi=>?_⟩⟩;have hi':i<vs.length:=by omega
  refine⟨vs.getD i AF,?_,(h.each i hi).1⟩;rw[Nat.zero_add,World.ownsRow.cellAt h2 i (by omega),List.getD_eq_getElem?_getD,List.getElem?_eq_getElem hi'];rfl
theorem Gu {α:Type}(l:List α)(k i:Nat)(u z:α)(hk:k<=l.length):(l.take k++u::l.drop k).getD i z=if i<k then l.getD i z else if i=k then u else l.getD (i-1) z:=by
 simp only[List.getD_eq_getElem?_getD];by_cases h1:i<k
 . rw[if_pos h1,List.getElem?_append_left (by simp;omega),List.getElem?_take_of_lt h1]
 ·
  rw[if_neg h1,List.getElem?_append_right (by simp;omega),List.length_take,Nat.min_eq_left hk];by_cases h2:i=k
  . rw[if_pos h2,h2];simp
  ·
   rw[if_neg h2,show i-k=(i-k-1)+1 by omega,List.getElem?_cons_succ,List.getElem?_drop]
   congr 2
   omega
theorem UO {α:Type}(l:List α)(k:Nat)(y u:α)(hk:k<=l.length):(l.take k++y::l.drop k).set k u=l.take k++u::l.drop k:=by
 rw[List.set_append_right _ _ (by simp;omega),List.length_take,Nat.min_eq_left hk,Nat.sub_self,List.set_cons_zero]
theorem WA {α:Type}(l:List α)(k:Nat)(y z:α)(hk:k+1<=l.length):(l.take (k+1)++y::l.drop (k+1)).set (k+1) (l.getD k z)=l.take k++l.getD k z::l.drop k:=by
 rw[UO _ _ _ _ hk]
 have e:l.drop k=l.getD k z::l.drop (k+1):=by
  rw[List.getD_eq_getElem?_getD,List.getElem?_eq_getElem (by omega),Option.getD_some,List.drop_eq_getElem_cons (by omega)]
 have e2:l.take (k+1)=l.take k++[l.getD k z]:=by
  rw[List.take_add_one,List.getD_eq_getElem?_getD,List.getElem?_eq_getElem (by omega)];rfl
 rw[e2,e];simp
theorem MD (w:World)(P:Nat->Prop)(base:Nat)(v u:Value)(vs:List Value)(BZ:List (List Int))(x:List Int)(h:Fp w P base v vs BZ)(hP:∀g,P g->g<w.heap.size)(hu:Rd w u x)(hup:∀g,u.ownBlock=some g->P g)(hO:NK BZ)(hl:BZ.length<=1099511627776)(hm:∀i,i<BZ.length->(BZ.getD i []).length<=1048576)(hb:base<=w.heap.size):
  Calls Tryz.prog 57 #[v,u] w fun e w'=>∃v' vs',e = .returned (.tuple #[v',.bool (!(PD BZ x))])/\Fp w' P base v' vs' (Dv BZ x)/\w.grownBy w' v.ownBlock/\(v'.ownBlock=v.ownBlock\/∃g,v'.ownBlock=some g/\w.heap.size<=g):=by
 obtain⟨j0,hj,hy0,hy1,hy2⟩:=info_parts Tryz.pG;have CF:=Qr w v u BZ x h.rM hu hO hl hm;obtain⟨R,hR⟩:∃R,R=C4 BZ x:=⟨_,rfl⟩;have hrl:=PY BZ x;have qc:Hid (Dv BZ x=if PD BZ x=true then BZ else BZ.take R++x::BZ.drop R):=Lib.hid (by rw[hR];rfl);rw[<-hR] at CF hrl;clear hR hO hm;obtain⟨a0,c0,rfl⟩:∃a c,v = .slice a BZ.length c:=by obtain⟨a,c,e,-⟩:=h.rM;exact⟨a,c,e⟩
 obtain⟨au,cu,rfl,-⟩:=id hu;go_enter Tryz.func57,Tryz.ntmps57
 go_wp2_with fail
 refine CF.mono ?_;rintro e w1 ⟨rfl,k1⟩;have H1:=h.kept k1.grownBy (by simp);have s1:=k1.size;have U1:=hu.keep k1;have HU:=Lib.hid hu;clear CF hu;cases hi:PD BZ x
 ·
  rw[hi,if_neg (by simp)] at qc;have k2:AC w1 (w1.alloc (.cells #[.slice au x.length cu] 25)):=(AC.refl w1).alloc _;have H2:=H1.kept k2.grownBy (by simp);have U2:=U1.keep k2;go_wp2_with (at_builtin;refine wpList_append_own_at _ rfl _ _ 36 rfl base 25 j0 (.slice none 0 0) 1 24 Tryz.underlying36 hj hy0 hy1 hy2 rfl (by decide) _ _ _ rfl H2.row ⟨_,0,none⟩ 1 1 [.slice au x.length cu] rfl rfl ?e1 ?e2 ?e3 ?e4 ?e5 ?_)
  case e1=>
   intro j u hj
   match j,hj with
   | 0,hj=>simp at hj;subst hj;simp[Addr.add]
  case e2=>intro u hu;simp at hu;subst hu;rfl
  case e3=>unfold maxLen;omega
  case e4=>omega
  case e5=>simp;omega
  intro v3 w3 hown3 hgrow3 _ hblk3
  obtain⟨g,c3,rfl⟩:∃g c,v3 = .slice (some ⟨g,0,none⟩) (BZ.length+1) c:=by
   rcases hown3.2 with ⟨_,hz⟩|⟨g,cap,cur,e,_⟩
   . omega
   . exact⟨g,cap,e⟩
  have hlv:vs.length=BZ.length:=by have:=h.row.1;omega
  have G13:w1.grownBy w3 (Value.slice a0 BZ.length c0).ownBlock:=Ce (Il k2.grownBy _) hgrow3
  have yJ:¬P g/\(some g=(Value.slice a0 BZ.length c0).ownBlock\/w1.heap.size<=g):=by
   rcases hblk3 with q|q
   . exact⟨h.np g q.symm,.inl q⟩
   ·
    have q:g=w1.heap.size+1:=Option.some.inj q;exact⟨fun hp=>by have:=hP g hp;omega,.inr (by omega)⟩
  have HG:=Lib.hid G13;have rX:=Lib.hid yJ;have HO3:=Lib.hid hown3;have H1':=Lib.hid H1;have HH:=Lib.hid h;have U1':=Lib.hid U1;have s3:=hgrow3.size;rw[AD] at s3;clear hown3 hgrow3 hblk3 H2 U2 k2 G13 yJ H1 h U1;go_wp2;go_loopw [8] (fun i wr=>∃(k:Nat) (y:Value),i = .int .i64 (k:Int)/\R<=k/\k<=BZ.length/\World.ownsRow wr base 25 1 (.slice (some ⟨g,0,none⟩) (BZ.length+1) c3) (BZ.length+1) (vs.take k++y::vs.drop k)/\w3.grownBy wr (some g)) (fun i _=>(intOf i).toNat)
  case atStart=>
   refine⟨BZ.length,.slice au x.length cu,by go_num,hrl,Nat.le_refl _,?_,World.grownBy.refl _ _⟩;rw[<-hlv,List.take_length,List.drop_length,hlv];exact HO3.out
  case round=>
   obtain⟨k,y,rfl,hk1,hk2,ho,hg⟩:=hrel;by_cases hgt:R<k
   ·
    obtain⟨m,rfl⟩:∃m,k=m+1:=⟨k-1,by omega⟩;obtain⟨am,nm,cm,em⟩:∃a n c,vs.getD m AF = .slice a n c:=by obtain⟨a,c,e,-⟩:=(H1'.out.each m (by omega)).1;exact⟨_,_,_,e⟩
    obtain⟨z1,z2,z3⟩:=Rw.put (r:=Dx 25 (vs.take (m+1)++y::vs.drop (m+1)) (.slice (some ⟨g,0,none⟩) (BZ.length+1) c3)) (g:=g) (cap:=c3) (k:=m+1) (show Rw.own wr base _ from by unfold Rw.own;rw[show (Dx 25 (vs.take (m+1)++y::vs.drop (m+1)) (.slice (some ⟨g,0,none⟩) (BZ.length+1) c3)).n=BZ.length+1 from by simp;omega];exact ho) (by simp;omega) (vs.getD m AF)
    have d1:wr.cell? ⟨g,m,none⟩=some (.slice am nm cm):=by
     rw[World.ownsRow.cellAt ho m (by omega),<-em];have:=Gu vs (m+1) m y AF (by omega);rw[if_pos (by omega),List.getD_eq_getElem?_getD,List.getElem?_eq_getElem (by simp;omega),Option.getD_some] at this;rw[List.getElem?_eq_getElem (by simp;omega),this]
    have d2:wr.cell? ⟨g,m+1,none⟩=some y:=by
     rw[World.ownsRow.cellAt ho (m+1) (by omega)];have:=Gu vs (m+1) (m+1) y AF (by omega);rw[if_neg (by omega),if_pos rfl,List.getD_eq_getElem?_getD,List.getElem?_eq_getElem (by simp;omega),Option.getD_some] at this;rw[List.getElem?_eq_getElem (by simp;omega),this]
    have Z1:=Lib.hid z1;have Z2:=Lib.hid z2;have EM:=Lib.hid em;clear z1 z2 em ho;rw[show ((m+1:Nat):Int)=(m:Int)+1 from rfl];have i1:(0:Int)<=(m:Int):=Int.natCast_nonneg _;have i2:(m:Int)+1<(BZ.length:Int)+1:=by omega
    go_wp2;go_roundw
    case rel=>
     refine⟨m,vs.getD m AF,by go_num,by omega,by omega,?_,?_⟩
     ·
      have q:=Z1.out;unfold Rw.own at q;simp only[WA vs m y AF (by omega)] at q;rw[show (vs.take (m+1)++y::vs.drop (m+1)).length=BZ.length+1 from by simp;omega] at q;rw[<-EM.out];exact q
     ·
      rw[<-EM.out];exact Ce hg Z2.out
    case measure=>simp[intOf]
   ·
    obtain rfl:k=R:=by omega
    obtain⟨z1,z2,z3⟩:=Rw.put (r:=Dx 25 (vs.take k++y::vs.drop k) (.slice (some ⟨g,0,none⟩) (BZ.length+1) c3)) (g:=g) (cap:=c3) (k:=k) (show Rw.own wr base _ from by unfold Rw.own;rw[show (Dx 25 (vs.take k++y::vs.drop k) (.slice (some ⟨g,0,none⟩) (BZ.length+1) c3)).n=BZ.length+1 from by simp;omega];exact ho) (by simp;omega) (.slice au x.length cu)
    have d2:wr.cell? ⟨g,k,none⟩=some y:=by
     rw[World.ownsRow.cellAt ho k (by omega)];have:=Gu vs k k y AF (by omega);rw[if_neg (by omega),if_pos rfl,List.getD_eq_getElem?_getD,List.getElem?_eq_getElem (by simp;omega),Option.getD_some] at this;rw[List.getElem?_eq_getElem (by simp;omega),this]
    have Z1:=Lib.hid z1;have Z2:=Lib.hid z2;clear z1 z2 ho;have i1:(0:Int)<=(k:Int):=Int.natCast_nonneg _;have i2:(k:Int)<(BZ.length:Int)+1:=by omega
    go_wp2;go_ret2
    have GT:w.grownBy (wr.setCell ⟨g,k,none⟩ (.slice au x.length cu)) (Value.slice a0 BZ.length c0).ownBlock:=by
     have q1:=Ce (Il k1.grownBy (Value.slice a0 BZ.length c0).ownBlock) HG.out;have q2:=Ce hg Z2.out;rcases rX.out.2 with e|e
     ·
      rw[e] at q2;exact Ce q1 q2
     . exact SW q1 q2 (by omega)
    have EA:∀(y:Value) (zs:List Int),Rd w y zs->(∀q,y.ownBlock=some q->P q)->Rd (wr.setCell ⟨g,k,none⟩ (.slice au x.length cu)) y zs:=fun y zs hy hp=>PZ hy GT.size (fun q hq hl=>GT.block q hl (fun e=>HH.out.np q e.symm (hp q hq)))
    refine⟨_,rfl,⟨vs.take k++.slice au x.length cu::vs.drop k,?_⟩,GT,?_⟩
    ·
     rw[qc.out];refine⟨?_,fun q hq=>?_,fun i hi'=>?_⟩
     ·
      have q:=Z1.out;unfold Rw.own at q;simp only[UO vs k y (.slice au x.length cu) (by omega)] at q;rw[show (vs.take k++y::vs.drop k).length=BZ.length+1 from by simp;omega] at q;rw[show (BZ.take k++x::BZ.drop k).length=BZ.length+1 from by simp;omega];exact q
     ·
      have q:=Option.some.inj hq;exact q ▸ rX.out.1
     ·
      have hi':i<BZ.length+1:=by rw[show (BZ.take k++x::BZ.drop k).length=BZ.length+1 from by simp;omega] at hi';exact hi'
      rw[Gu _ _ _ _ _ (by omega),Gu _ _ _ _ _ (by omega)];by_cases h1:i<k
      ·
       rw[if_pos h1,if_pos h1];have q:=HH.out.each i (by omega);exact⟨EA _ _ q.1 q.2,q.2⟩
      ·
       rw[if_neg h1,if_neg h1];by_cases h2:i=k
       ·
        rw[if_pos h2,if_pos h2];exact⟨EA _ _ HU.out hup,hup⟩
       ·
        rw[if_neg h2,if_neg h2];have q:=HH.out.each (i-1) (by omega);exact⟨EA _ _ q.1 q.2,q.2⟩
    ·
     rcases rX.out.2 with e|e
     . exact .inl e
     . exact .inr ⟨g,rfl,by omega⟩
 ·
  rw[hi,if_pos rfl] at qc;go_wp2;go_ret2
  exact⟨_,_,by rw[hi];rfl,by rw[qc.out];exact H1,Il k1.grownBy _,.inl rfl⟩
abbrev QM:BV:=⟨AF,AF,AF,AF,AF,AF,AF,AF⟩
abbrev Mj:Bd:=⟨[],[],[],[],[],[],[]⟩
structure Aw (P:Nat->Prop)(w w':World):Prop where
 size:w.heap.size<=w'.heap.size
 blk:∀g,g<w.heap.size->P g->w'.heap[g]? = w.heap[g]?
theorem Aw.trans {P:Nat->Prop}{a b c:World}(h:Aw P a b)(k:Aw P b c):Aw P a c:=
 ⟨Nat.le_trans h.size k.size,fun g hg hp=>(k.blk g (Nat.lt_of_lt_of_le hg h.size) hp).trans (h.blk g hg hp)⟩
theorem Aw.mono {P P':Nat->Prop}{a b:World}(h:Aw P' a b)(hp:∀g,P g->P' g):Aw P a b:=⟨h.size,fun g hg hq=>h.blk g hg (hp g hq)⟩
theorem Aw.Bq {P:Nat->Prop}{a b:World}(k:AC a b):Aw P a b:=⟨k.size,fun g hg _=>Below.block k g hg⟩
theorem Aw.DH {P:Nat->Prop}{a b:World}{r:Option Nat}(k:a.grownBy b r)(hr:∀g,r=some g->¬P g):Aw P a b:=⟨k.size,fun g hg hp=>k.block g hg (fun e=>hr g e.symm hp)⟩
def TI (m:Nat)(w:World)(v:Value)(BZ:List (List Int)):Prop:=∀w':World,Aw (fun g=>m<=g) w w'->ZS w' v BZ
theorem TI.rd {m:Nat}{w:World}{v:Value}{BZ:List (List Int)}(h:TI m w v BZ):ZS w v BZ:=h w ⟨Nat.le_refl _,fun _ _ _=>rfl⟩
theorem Fp.oM {w:World}{P:Nat->Prop}{base:Nat}{v:Value}{vs:List Value}{BZ:List (List Int)}(h:Fp w P base v vs BZ)(hP:∀g,P g->base<=g/\g<w.heap.size):TI base w v BZ:=by
 intro w' k;have h':Fp w' P base v vs BZ:=⟨D6 (r:=⟨25,1,v,BZ.length,vs⟩) h.row (fun _ hg=>k.blk _ (h.lt _ hg).2 (h.lt _ hg).1),h.np,fun i hi=>⟨PZ (h.each i hi).1 k.size (fun _ hg hl=>k.blk _ hl (hP _ ((h.each i hi).2 _ hg)).1),(h.each i hi).2⟩⟩;exact h'.rM
def Cs (w:World)(P:Nat->Prop)(v:BV)(AA:List (List Dd))(b:Bd):Prop:=∀w':World,Aw P w w'->Cf w' v AA b
theorem Cs.rd {w:World}{P:Nat->Prop}{v:BV}{AA:List (List Dd)}{b:Bd}(h:Cs w P v AA b):Cf w v AA b:=h w ⟨Nat.le_refl _,fun _ _ _=>rfl⟩
theorem Cs.on {w w':World}{P:Nat->Prop}{v:BV}{AA:List (List Dd)}{b:Bd}(h:Cs w P v AA b)(k:Aw P w w'):Cs w' P v AA b:=fun w'' k'=>h w'' (k.trans k')
theorem Cs.mono {w:World}{P P':Nat->Prop}{v:BV}{AA:List (List Dd)}{b:Bd}(h:Cs w P v AA b)(hp:∀g,P g->P' g):Cs w P' v AA b:=fun w' k=>h w' (k.mono hp)
theorem BL.held {w:World}{m:Nat}{v:BV}{nv rv:List Value}{bs N:Nat}{AA:List (List Dd)}{b:Bd}(h:BL w m v nv rv bs N AA b)(hm:m<=bs):Cs w (fun g=>m<=g/\g<w.heap.size) v AA b:=by
 intro w' k;have hh:∀g,m<=g->g<w.heap.size->w'.heap[g]? = w.heap[g]?:=fun g h1 h2=>k.blk g h2 ⟨h1,h2⟩
 have:BL w' m v nv rv bs N AA b:=⟨⟨fun i hi=>D6 (h.Af.own i hi) (fun g hg=>hh g (h.Af.lt hi g hg).1 (h.Af.lt hi g hg).2),h.Af.apart⟩,h.ln,h.lr,h.work.same k.size (fun g h1 h2=>hh g (by omega) (Nat.lt_of_lt_of_le h2 h.top)),Nat.le_trans h.top k.size,h.out⟩;exact this.rd0
def cB (v:BV):List Value:=[v.W,v.P,v.L,v.N,v.X,v.S,v.F,v.R]
theorem JL:∀vs:List BV,(vs.flatMap cB).length=vs.length*8
 | []=>rfl
 |v::vs=>by rw[List.flatMap_cons,List.length_append,JL vs,List.length_cons];show 8+_=_;omega
theorem XY:∀(vs:List BV) (i j:Nat),i<vs.length->j<8->(vs.flatMap cB)[i*8+j]? = (cB (vs.getD i QM))[j]?
 | [],_,_,h,_=>by simp at h
 |v::vs,0,j,_,hj=>by
  rw[List.flatMap_cons,Nat.zero_mul,Nat.zero_add,List.getElem?_append_left (by show j<8;exact hj)];rfl
 |v::vs,i+1,j,h,hj=>by
  rw[List.flatMap_cons,List.getElem?_append_right (by show 8<=_;omega),show (i+1)*8+j-(cB v).length=i*8+j by show _-8=_;omega];exact XY vs i j (by simpa using h) hj
theorem Zz (vs:List BV)(n:Nat)(h:n<=vs.length):(vs.flatMap cB).take (n*8)=(vs.take n).flatMap cB:=by
 have e:vs.flatMap cB=(vs.take n).flatMap cB++(vs.drop n).flatMap cB:=by rw[<-List.flatMap_append,List.take_append_drop]
 rw[e,List.take_append_of_le_length (by rw[JL,List.length_take,Nat.min_eq_left h];exact Nat.le_refl _),List.take_of_length_le (by rw[JL,List.length_take,Nat.min_eq_left h];exact Nat.le_refl _)]
structure EY (w:World)(P:Nat->Prop)(base:Nat)(v:Value)(vs:List BV)(AA:List (List Dd))(l:List Bd):Prop where
 row:w.ownsRow base 103 8 v l.length (vs.flatMap cB)
 np:∀g,v.ownBlock=some g->¬P g
 each:∀i,i<l.length->Cs w P (vs.getD i QM) AA (l.getD i Mj)
theorem EY.len {w:World}{P:Nat->Prop}{base:Nat}{v:Value}{vs:List BV}{AA:List (List Dd)}{l:List Bd}(h:EY w P base v vs AA l):vs.length=l.length:=by
 have:=h.row.1;rw[JL] at this;omega
theorem EY.lt {w:World}{P:Nat->Prop}{base:Nat}{v:Value}{vs:List BV}{AA:List (List Dd)}{l:List Bd}(h:EY w P base v vs AA l):∀g,v.ownBlock=some g->base<=g/\g<w.heap.size:=World.ownsRow.lt h.row
theorem EY.kept {w w':World}{P:Nat->Prop}{base:Nat}{v:Value}{vs:List BV}{AA:List (List Dd)}{l:List Bd}{r:Option Nat}(h:EY w P base v vs AA l)(hg:w.grownBy w' r)(hr:∀g,r=some g->¬P g/\v.ownBlock≠some g):EY w' P base v vs AA l:=by
 refine⟨World.ownsRow.kept h.row hg ?_,h.np,fun i hi=>(h.each i hi).on (Aw.DH hg (fun g e=>(hr g e).1))⟩
 cases hv:v.ownBlock with
 |none=>exact .inl rfl
 |some g=>exact .inr (fun e=>(hr g e.symm).2 hv)
theorem EY.mono {w:World}{P P':Nat->Prop}{base:Nat}{v:Value}{vs:List BV}{AA:List (List Dd)}{l:List Bd}(h:EY w P base v vs AA l)(hp:∀g,P g->P' g)(hn:∀g,v.ownBlock=some g->¬P' g):EY w P' base v vs AA l:=
 ⟨h.row,hn,fun i hi=>(h.each i hi).mono hp⟩
theorem EY.pop {w:World}{P:Nat->Prop}{base:Nat}{v:Value}{vs:List BV}{AA:List (List Dd)}{l:List Bd}{b:Bd}(h:EY w P base v vs AA (l++[b])):
  ∃g cap bv,v = .slice (some ⟨g,0,none⟩) (l.length+1) cap/\l.length+1<=cap/\Cs w P bv AA b/\EY w P base (.slice (some ⟨g,0,none⟩) l.length cap) (vs.take l.length) AA l/\∀j,j<8->w.cell? ⟨g,l.length*8+j,none⟩=(cB bv)[j]?:=by
 have hlen:=h.len;rw[List.length_append,List.length_singleton] at hlen;have hrow:=h.row;rw[List.length_append,List.length_singleton] at hrow;rcases hrow.2 with ⟨_,h2⟩|⟨g,cap,cur,rfl,hb,hg,hc,hm,hs,ht⟩
 . omega
 ·
  have he:=h.each l.length (by simp);rw[show (l++[b]).getD l.length Mj=b from by simp] at he;refine⟨g,cap,vs.getD l.length QM,rfl,hc,he,⟨⟨?_,.inr ⟨g,cap,cur,rfl,hb,hg,by omega,hm,hs,?_⟩⟩,h.np,fun i hi=>?_⟩,fun j hj=>?_⟩
  . rw[JL,List.length_take,Nat.min_eq_left (by omega)]
  ·
   have:=congrArg (List.take (l.length*8)) ht
   rwa [List.take_take,Nat.min_eq_left (by omega),Zz _ _ (by omega)] at this
  ·
   have q:=h.each i (by simp;omega);have e1:(l++[b]).getD i Mj=l.getD i Mj:=by rw[List.getD_eq_getElem?_getD,List.getElem?_append_left hi,<-List.getD_eq_getElem?_getD]
   have e2:(vs.take l.length).getD i QM=vs.getD i QM:=by rw[List.getD_eq_getElem?_getD,List.getElem?_take_of_lt hi,<-List.getD_eq_getElem?_getD]
   rw[e1] at q;rw[e2];exact q
  ·
   rw[World.ownsRow.cellAt hrow (l.length*8+j) (by omega)];exact XY vs _ _ (by omega) hj
theorem EY.push {w w':World}{P:Nat->Prop}{base:Nat}{v v':Value}{vs:List BV}{AA:List (List Dd)}{l:List Bd}{b:Bd}{bv:BV}(h:EY w P base v vs AA l)(hb:Cs w P bv AA b)(ho:w'.ownsRow base 103 8 v' (l.length+1) (vs.flatMap cB++cB bv))(hg:w.grownBy w' v.ownBlock)(hn:∀g,v'.ownBlock=some g->¬P g):EY w' P base v' (vs++[bv]) AA (l++[b]):=by
 have hlen:=h.len;have st:Aw P w w':=Aw.DH hg h.np;refine⟨by rw[List.length_append,List.length_singleton,List.flatMap_append];simpa using ho,hn,fun i hi=>?_⟩;by_cases e:i<l.length
 ·
  rw[show (vs++[bv]).getD i QM=vs.getD i QM from by simp only[List.getD_eq_getElem?_getD];rw[List.getElem?_append_left (by omega)],show (l++[b]).getD i Mj=l.getD i Mj from by simp only[List.getD_eq_getElem?_getD];rw[List.getElem?_append_left e]];exact (h.each i e).on st
 ·
  have e:i=l.length:=by rw[List.length_append,List.length_singleton] at hi;omega
  subst e;rw[show (l++[b]).getD l.length Mj=b from by simp,show (vs++[bv]).getD l.length QM=bv from by rw[<-hlen];simp];exact hb.on st
def Rn (AA:List (List Dd))(b:Bd)(c:Nat):Dd:=if Aj b c<(AA.getD c []).length then Ai AA c (Aj b c) else zD
def WP (AA:List (List Dd))(b:Bd)(c:Nat):Bool:=decide (Aj b c<(AA.getD c []).length)
structure mG (AA:List (List Dd))(b:Bd)(c:Nat):Prop where
 ck:c<AA.length
 l:b.AK.length=AA.length
 n0:0<=b.AK.getD c 0
 n1:b.AK.getD c 0<=((AA.getD c []).length:Int)
 top:(AA.getD c []).length<=1048576
theorem Gw (w:World)(v:BV)(AA:List (List Dd))(b:Bd)(c:Nat)(h:Cf w v AA b)(hc:mG AA b c):
  Calls Tryz.prog 96 #[v.agg,.int .i64 c] w fun e w'=>e = .returned (.tuple #[dV (Rn AA b c),.bool (WP AA b c)])/\AC w w':=by
 obtain⟨aW,aP,aL,aN,aX,aS,aF,aR,cW,cP,cL,cN,cX,cS,cF,cR,rfl⟩:=h.shapes;obtain⟨hcl,hl,hn0,hn1,htop⟩:=hc;have hcx:c<b.AK.length:=by omega
 have KW:AC w ((w.alloc (.cells #[.slice aW AA.length cW,.slice aP b.AM.length cP,.slice aL b.AO.length cL,.slice aN b.AJ.length cN,.slice aX b.AK.length cX,.slice aS b.sn.length cS,.slice aF b.fr.length cF,.slice aR b.rws.length cR] 103)).alloc (.cells #[.int .i64 0,.int .i64 0,.int .i64 0,.int .i64 0] 82)):=((AC.refl w).alloc _).alloc _;have h':=h.keep KW;obtain⟨a',c',he',hX⟩:=h'.X;simp only[Value.slice.injEq,true_and] at he';obtain⟨rfl,rfl⟩:=he';rcases hX with h0|⟨bx,ox,rfl,hbx,hcx'⟩
 . exfalso;rw[h0] at hcx;simp at hcx
 obtain⟨a',c',he',hW⟩:=h'.W;simp only[Value.slice.injEq,true_and] at he';obtain⟨rfl,rfl⟩:=he';rcases hW with h0|⟨bw,ow,rfl,hbw,hcw⟩
 . exfalso;rw[h0] at hcl;simp at hcl
 obtain⟨vd,d3,r3⟩:=hcw c hcl;obtain⟨k,hk⟩:=Int.eq_ofNat_of_zero_le hn0;have d1:=hcx' c hcx;rw[hk] at d1 hn1;have hkN:Aj b c=k:=by unfold Aj;rw[hk,Int.toNat_natCast]
 have HB:Hid (WP AA b c=decide (k<(AA.getD c []).length)):=Lib.hid (by rw[WP,hkN]);have HD:Hid (Rn AA b c=if k<(AA.getD c []).length then Ai AA c k else zD):=Lib.hid (by rw[Rn,hkN]);generalize Rn AA b c=ND at HD ⊢;generalize WP AA b c=NI at HB ⊢;obtain⟨ad,cd,rfl,r3⟩:=r3;unfold Ai at HD;generalize AA.getD c []=ds at *;have j1:(0:Int)<=(c:Int):=Int.natCast_nonneg _;have j2:(c:Int)<(b.AK.length:Int):=by omega
 have j3:(c:Int)<(AA.length:Int):=by omega
 have k1:(0:Int)<=(k:Int):=Int.natCast_nonneg _;clear hcw hcx' h h' hkN hl;by_cases hlt:k<ds.length
 ·
  have HB:Hid (NI=true):=Lib.hid (by rw[HB.out,decide_eq_true hlt]);have HD:Hid (ND=ds.getD k zD):=Lib.hid (by rw[HD.out,if_pos hlt]);rcases r3 with h0|⟨bd,od,rfl,hbd,hcd⟩
  . exfalso;rw[h0] at hlt;simp at hlt
  obtain⟨q0,q1,q2,q3⟩:=hcd k hlt;generalize ds.getD k zD=y at q0 q1 q2 q3 HD;obtain⟨y0,y1,y2,y3⟩:=y;simp only at q0 q1 q2 q3;have k2:(k:Int)<(ds.length:Int):=by omega
  have k3:((k:Int)==(ds.length:Int))=false:=by simp;omega
  clear hcd hn1;go_enter Tryz.func96,Tryz.ntmps96
  go_wp2;refine bodyPost_ret (CG (by rfl) _ _ (w.heap.size+1) 82 #[.int .i64 y0,.int .i64 y1,.int .i64 y2,.int .i64 y3] (0,0) _ (.bool true) rfl (by rw[Bt,if_pos (by rw[AD])]) rfl Tryz.underlying82 rfl (by kernel_rfl)) rfl ?_;exact⟨by rw[HD.out,HB.out],((AC.refl w).alloc _).alloc _⟩
 ·
  have HB2:Hid (NI=false):=Lib.hid (by rw[HB.out,decide_eq_false hlt]);have HD2:Hid (ND=zD):=Lib.hid (by rw[HD.out,if_neg hlt]);obtain rfl:k=ds.length:=by omega
  have k3:((ds.length:Int)==(ds.length:Int))=true:=by simp
  clear hn1 HB HD;go_enter Tryz.func96,Tryz.ntmps96
  go_wp2;refine bodyPost_ret (CG (by rfl) _ _ (w.heap.size+1) 82 #[.int .i64 0,.int .i64 0,.int .i64 0,.int .i64 0] (0,0) _ (.bool false) rfl (by rw[Bt,if_pos (by rw[AD])]) rfl Tryz.underlying82 rfl (by kernel_rfl)) rfl ?_;exact⟨by rw[HD2.out,HB2.out];rfl,((AC.refl w).alloc _).alloc _⟩
structure Wf (AA:List (List Dd))(b:Bd):Prop where
 n:b.AJ.length=AA.length
 x:b.AK.length=AA.length
 m:AA.length<=1048576
 each:∀c,c<AA.length->0<=b.AK.getD c 0/\b.AK.getD c 0<=((AA.getD c []).length:Int)/\(AA.getD c []).length<=1048576/\(b.AJ.getD c []).length<=1048576
theorem Wf.nx {AA:List (List Dd)}{b:Bd}(h:Wf AA b){c:Nat}(hc:c<AA.length):mG AA b c:=
 ⟨hc,h.x,(h.each c hc).1,(h.each c hc).2.1,(h.each c hc).2.2.1⟩
theorem Xd (AA:List (List Dd))(b:Bd)(c:Nat):Bx AA b c=(WP AA b c&&((decide ((Rn AA b c).1<=2)&&decide ((Rn AA b c).2.2.2=0))||(b.AJ.getD c []).isEmpty)):=by
 unfold Bx WP Rn BE;by_cases h:Aj b c<(AA.getD c []).length
 . rw[if_pos h,decide_eq_true h]
 . rw[decide_eq_false h];rfl
theorem Sa (w:World)(v:BV)(AA:List (List Dd))(b:Bd)(c:Nat)(h:Cf w v AA b)(hp:Wf AA b)(hc:c<AA.length):
  Calls Tryz.prog 94 #[v.agg,.int .i64 c] w fun e w'=>e = .returned (.bool (Bx AA b c))/\AC w w':=by
 have C:=fun (W:World) (kW:AC w W)=>Gw W v AA b c (h.keep kW) (hp.nx hc)
 have HC:Hid (Bx AA b c=(WP AA b c&&((decide ((Rn AA b c).1<=2)&&decide ((Rn AA b c).2.2.2=0))||(b.AJ.getD c []).isEmpty))):=Lib.hid (Xd AA b c);have hcn:c<b.AJ.length:=by rw[hp.n];exact hc
 have hN:=h.N;obtain⟨aW,aP,aL,aN,aX,aS,aF,aR,cW,cP,cL,cN,cX,cS,cF,cR,rfl⟩:=h.shapes;obtain⟨a',c',he',hN⟩:=hN;simp only[Value.slice.injEq,true_and] at he';obtain⟨rfl,rfl⟩:=he';rcases hN with h0|⟨bn,on,rfl,hbn,hcn'⟩
 . exfalso;rw[h0] at hcn;simp at hcn
 obtain⟨vn,d3,r3⟩:=hcn' c hcn;obtain⟨an,cn,rfl,-⟩:=r3;generalize Bx AA b c=ANS at HC ⊢;generalize Rn AA b c=D at C HC;generalize WP AA b c=I at C HC;generalize b.AJ.getD c []=ns at *;obtain⟨y0,y1,y2,y3⟩:=D;simp only at HC;have j1:(0:Int)<=(c:Int):=Int.natCast_nonneg _;have j2:(c:Int)<(b.AJ.length:Int):=by omega
 clear hcn' h;go_enter Tryz.func94,Tryz.ntmps94
 go_wp2_with fail
 refine (C _ ((AC.refl w).alloc _)).mono ?_;rintro e w1 ⟨rfl,k1⟩;have K1:=((AC.refl w).alloc _).trans k1;have e3:w1.cell? ⟨w.heap.size,3,none⟩=some (.slice (some ⟨bn,on,none⟩) b.AJ.length cN):=AR k1 3;have d4:=(K1.cell hbn).trans d3;have s1:=K1.size;have z1:w.heap.size<w1.heap.size:=by have:=k1.size;simp at this;omega
 have z2:bn<w1.heap.size:=Nat.lt_of_lt_of_le hbn s1;have e5:(w1.alloc (.cells #[.int .i64 y0,.int .i64 y1,.int .i64 y2,.int .i64 y3] 82)).cell? ⟨w.heap.size,3,none⟩=some (.slice (some ⟨bn,on,none⟩) b.AJ.length cN):=(((AC.refl w1).alloc _).cell z1).trans e3;have e6:(w1.alloc (.cells #[.int .i64 y0,.int .i64 y1,.int .i64 y2,.int .i64 y3] 82)).cell? ⟨bn,on+c,none⟩=some (.slice an ns.length (ns.length+cn)):=(((AC.refl w1).alloc _).cell z2).trans d4;clear C d3;cases I
 ·
  have HE:Hid (ANS=false):=Lib.hid (by rw[HC.out];rfl);go_wp2;go_ret;exact⟨by rw[HE.out];rfl,K1.alloc _⟩
 ·
  by_cases h2:y0<=2
  ·
   by_cases h0:y3=0
   ·
    have HE:Hid (ANS=true):=Lib.hid (by rw[HC.out,decide_eq_true h2,decide_eq_true h0];rfl);have b0:(y3==0)=true:=by simp[h0]
    clear HC;subst h0;go_wp2;go_ret;exact⟨by rw[HE.out];rfl,K1.alloc _⟩
   ·
    have HE:Hid (ANS=ns.isEmpty):=Lib.hid (by rw[HC.out,decide_eq_true h2,decide_eq_false h0];simp);have b0:(y3==0)=false:=by simp[h0]
    have HQ:Hid (((ns.length:Int)==0)=ns.isEmpty):=Lib.hid (by cases ns<;>simp;omega);clear HC;go_wp2;go_ret;exact⟨by rw[HE.out,<-HQ.out];rfl,K1.alloc _⟩
  ·
   have HE:Hid (ANS=ns.isEmpty):=Lib.hid (by rw[HC.out,decide_eq_false h2];simp);have HQ:Hid (((ns.length:Int)==0)=ns.isEmpty):=Lib.hid (by cases ns<;>simp;omega);have h2':¬(y0<=2):=h2;clear HC;go_wp2;go_ret;exact⟨by rw[HE.out,<-HQ.out];rfl,K1.alloc _⟩
theorem pW {AA:List (List Dd)}{b:Bd}(h:Am AA b=true):Wf AA b:=by
 have S:=Dq.of h;have u:=BH S.work;refine⟨S.AJ,S.AK,by omega,fun c hc=>?_⟩;have h1:=E4 h hc;have h2:=u.2 c hc;simp only[FP,Bool.and_eq_true,decide_eq_true_eq] at h2;have h3:=S.nl c;exact⟨h1.1,h1.2,by omega,by omega⟩
def Cq (AA:List (List Dd))(b:Bd):List Int:=if Am AA b=true then An AA b else []
section
section
variable {P:Program} {w:World}
theorem Dk {o:Oper}{a:Act}{K:Act->World->Prop}{Q:Exit->Act->World->Prop}(s x:Operand)(t:TypeId)
  (ho:o.op = .call { callee:= .builtin .append,args:=#[s,x],argTypes:=#[t,t] })
  (base:Nat) (e:TypeId) (i:TypeInfo) (z:Value) (size bytes:Nat) (ht:P.underlying t=some (.slice e)) (hi:P.info? e=some i) (hz:i.zero=some z)
  (hsize:i.size=size) (hby:i.bytes=bytes) (hzs:z.cells.size=size) (hsz:0<size)
  (v:Value) (n:Nat) (xs:List Value) (hs:a.eval s=v) (hown:w.ownsRow base e size v n xs)
  (ad:Addr) (m c:Nat) (news:List Value) (hx:a.eval x = .slice (some ad) m c) (hl:news.length=m*size) (hnews:∀j u,news[j]? = some u->w.cell? (ad.add j)=some u) (h1:∀u∈news,u.oneCell'=true)
  (h63:n+m<=maxLen) (hbytes:(n+m)*bytes<=140737488355328) (hbase:base<=w.heap.size)
  (h:∀v' w',w'.ownsRow base e size v' (n+m) (xs++news)->w.grownBy w' v.ownBlock->(v'.ownBlock=v.ownBlock\/v'.ownBlock=some w.heap.size)->K (a.put o.dst v') w'):o.wp P a w K Q:=by
 obtain⟨v',w',hr,h2,h3,_,h5⟩:=run_append_own_at (P:=P) w base t o.type e i z size bytes ht hi hz hsize hby hzs hsz v n xs hown ad m c news hl hnews h1 h63 hbytes hbase;unfold Oper.wp execOp;simp only[ho,resolve,invoke,builtin,Sem.run_bind,Sem.run_pure,Result.andThen_ok,List.map_toArray,List.map_cons,List.map_nil,hs,hx,hr];exact h v' w' h2 h3 h5
end
theorem Tryz.YJ:(Tryz.prog.info? 155).map (fun i=>(i.zero,i.size,i.bytes))=some (some (.agg #[.int .i64 0,.int .i64 0,.int .i64 0]),3,24):=by kernel_rfl
theorem UC (ns:List Nt):(ns.flatMap cN).length=ns.length*3:=by
 induction ns with
 |nil=>rfl
 |cons d r ih=>rw[List.flatMap_cons,List.length_append,ih,List.length_cons];simp[cN];omega
theorem cK (ns:List Nt):∀u∈ns.flatMap cN,u.oneCell'=true:=fun u hu=>by
 obtain⟨x,_,hx⟩:=List.mem_flatMap.1 hu;simp only[cN,List.mem_cons,List.not_mem_nil,or_false] at hx;rcases hx with rfl|rfl|rfl<;>rfl
theorem ja (ns:List Nt):∀(i m:Nat),i<ns.length->m<3->(ns.flatMap cN)[i*3+m]? = (cN (ns.getD i zN))[m]?:=by
 induction ns with
 |nil=>intro i m hi _;simp at hi
 |cons d r ih=>
  intro i m hi hm;rw[List.flatMap_cons]
  cases i with
  |zero=>
   rw[List.getElem?_append_left (by rw[Ds];omega)];simp
  |succ i=>
   rw[List.getElem?_append_right (by rw[Ds];omega),Ds,show (i+1)*3+m-3=i*3+m by omega,ih i m (by simpa using hi) hm];simp
theorem Vc {w:World}{b off:Nat}{ns:List Nt}(h:∀i x,ns[i]? = some x->ZP cN w b (off+i*3) x):∀j u,(ns.flatMap cN)[j]? = some u->w.cell? ((⟨b,off,none⟩:Addr).add j)=some u:=fun j u hj=>by
 have hl:j<ns.length*3:=by rw[<-UC];exact (List.getElem?_eq_some_iff.1 hj).1
 have hi:j / 3<ns.length:=by omega
 have hm:j % 3<3:=Nat.mod_lt _ (by omega);have e:j=j / 3*3+j % 3:=by omega
 have h1:=ja ns (j / 3) (j % 3) hi hm;rw[<-e] at h1;rw[h1] at hj;have ea:(⟨b,off,none⟩:Addr).add j=⟨b,off+j / 3*3+j % 3,none⟩:=by rw[show off+j / 3*3+j % 3=off+j by omega];simp[Addr.add]
 rw[ea];exact h (j / 3) _ (Jj hi) (j % 3) u hj
theorem GP {w:World}{o:Oper}{a:Act}{K:Act->World->Prop}{Q:Exit->Act->World->Prop}(s x:Operand)
  (ho:o.op = .call { callee:= .builtin .append,args:=#[s,x],argTypes:=#[151,151] })
  (base g:Nat) (hs:a.eval s = .slice (some ⟨g,0,none⟩) 0 0) (hown:Bp cN 155 3 w base (.slice (some ⟨g,0,none⟩) 0 0) [])
  (vx:Value) (hx:a.eval x=vx) (ns:List Nt) (hr:fZ w vx ns) (hn:ns.length<=1048576) (hb:base<=w.heap.size)
  (h:∀v' w',Bp cN 155 3 w' base v' ns->w.grownBy w' (some g)->K (a.put o.dst v') w'):o.wp Tryz.prog a w K Q:=by
 obtain⟨i0,hi,hz0,hz1,hz2⟩:=info_parts Tryz.YJ;obtain⟨ax,cx,rfl,hr⟩:=hr;rcases hr with h0|⟨bx,ox,rfl,hbx,hcx⟩
 ·
  subst h0
  cases ax with
  |none=>
   have hh:=h (.slice (some ⟨g,0,none⟩) 0 0) w hown (World.grownBy.refl _ _);unfold Oper.wp execOp;simp only[ho,resolve,invoke,builtin,Sem.run_bind,Sem.run_pure,Result.andThen_ok,List.map_toArray,List.map_cons,List.map_nil,hs,hx];go_simp;exact hh
  |some y=>
   refine wp_append_own w s x 151 ho base 155 i0 _ 3 24 Tryz.underlying151 hi hz0 hz1 hz2 rfl (by decide) _ 0 [] hs hown y 0 _ [] hx rfl (by simp) (by simp) (by simp) (by simp) hb ?_;intro v' w' h1 h2 _;exact h v' w' h1 h2
 ·
  refine wp_append_own w s x 151 ho base 155 i0 _ 3 24 Tryz.underlying151 hi hz0 hz1 hz2 rfl (by decide) _ 0 [] hs hown ⟨bx,ox,none⟩ ns.length _ (ns.flatMap cN) hx (UC ns) (Vc hcx) (cK ns) (by unfold maxLen;omega) (by omega) hb ?_;intro v' w' h1 h2 _;refine h v' w' ?_ h2;unfold Bp
  simpa using h1
theorem Cl {w:World}{o:Oper}{a:Act}{K:Act->World->Prop}{Q:Exit->Act->World->Prop}(s x:Operand)
  (ho:o.op = .call { callee:= .builtin .append,args:=#[s,x],argTypes:=#[25,25] })
  (base:Nat) (v:Value) (zs:List Int) (hs:a.eval s=v) (hown:A7 w base v zs)
  (vx:Value) (hx:a.eval x=vx) (ys:List Int) (hr:Rd w vx ys) (hz:zs.length<=1048576) (hy:ys.length<=1048576) (hb:base<=w.heap.size)
  (h:∀v' w',A7 w' base v' (zs++ys)->w.grownBy w' v.ownBlock->(v'.ownBlock=v.ownBlock\/v'.ownBlock=some w.heap.size)->K (a.put o.dst v') w'):o.wp Tryz.prog a w K Q:=by
 obtain⟨i0,hi,hz0,hz1,hz2⟩:=info_parts Tryz.FA
 have law:∀(ad:Addr) (c:Nat),a.eval x = .slice (some ad) ys.length c->(∀j u,(ys.map (Value.int .i64))[j]? = some u->w.cell? (ad.add j)=some u)->o.wp Tryz.prog a w K Q:=fun ad c hx hn=>by
  refine Dk s x 25 ho base 2 i0 _ 1 8 Tryz.underlying25 hi hz0 hz1 hz2 rfl (by decide) v zs.length (zs.map (Value.int .i64)) hs hown ad ys.length c (ys.map (Value.int .i64)) hx (by simp) hn (fun u hu=>?_) (by unfold maxLen;omega) (by omega) hb ?_
  . obtain⟨q,_,rfl⟩:=List.mem_map.1 hu;rfl
  ·
   intro v' w' h1 h2 h3;refine h v' w' ?_ h2 h3;unfold A7;rw[List.length_append,List.map_append];exact h1
 obtain⟨ax,cx,rfl,hr⟩:=hr;rcases hr with h0|⟨bx,ox,rfl,hbx,hcx⟩
 ·
  subst h0
  cases ax with
  |none=>
   have hh:=h v w (by rw[List.append_nil];exact hown) (World.grownBy.refl _ _) (.inl rfl);rcases hown.2 with ⟨rfl,hn0⟩|⟨g,cap,cur,rfl,-,-,hcap,-⟩
   ·
    unfold Oper.wp execOp;simp only[ho,resolve,invoke,builtin,Sem.run_bind,Sem.run_pure,Result.andThen_ok,List.map_toArray,List.map_cons,List.map_nil,hs,hx];go_simp;exact hh
   ·
    unfold Oper.wp execOp;simp only[ho,resolve,invoke,builtin,Sem.run_bind,Sem.run_pure,Result.andThen_ok,List.map_toArray,List.map_cons,List.map_nil,hs,hx];go_simp;exact hh
  |some y=>exact law y _ hx (fun j u hu=>by simp at hu)
 ·
  refine law _ _ hx (fun j u hu=>?_);have hj:j<ys.length:=by have:=(List.getElem?_eq_some_iff.1 hu).1;simpa using this
  have e:=hcx j hj;rw[List.getElem?_map,List.getElem?_eq_getElem hj] at hu;simp only[Option.map_some,Option.some.injEq] at hu;rw[List.getD_eq_getElem?_getD,List.getElem?_eq_getElem hj] at e;simp only[Option.getD_some] at e;rw[<-hu]
  have ea:(⟨bx,ox,none⟩:Addr).add j=⟨bx,ox+j,none⟩:=by
   by_cases hj0:j=0
   . subst hj0;simp[Addr.add]
   . simp[Addr.add,hj0]
  rw[ea];exact e
end
theorem Az {w:World}{ops:Array Oper}{rest:List Oper}{o:Oper}{a:Act}{Q:Exit->Act->World->Prop}(hgd:o.guard=none)(s x:Operand)
  (ho:o.op = .call { callee:= .builtin .append,args:=#[s,x],argTypes:=#[25,25] })
  (base:Nat) (v:Value) (zs:List Int) (hs:a.eval s=v) (hown:A7 w base v zs)
  (vx:Value) (hx:a.eval x=vx) (ys:List Int) (hr:Rd w vx ys) (hz:zs.length<=1048576) (hy:ys.length<=1048576) (hb:base<=w.heap.size)
  (h:∀v' w',A7 w' base v' (zs++ys)->w.grownBy w' v.ownBlock->(v'.ownBlock=v.ownBlock\/v'.ownBlock=some w.heap.size)->wpList Tryz.prog ops Q rest (a.put o.dst v') w'):wpList Tryz.prog ops Q (o::rest) a w:=
 wpList_plain hgd fun _ hK=>Cl s x ho base v zs hs hown vx hx ys hr hz hy hb (fun v' w' h1 h2 h3=>hK _ _ (h v' w' h1 h2 h3))
section
theorem Fm {x:Bool}{C:Prop}(h:x=true)(q:x=false):C:=absurd (h.symm.trans q) (by simp)
def AY (B:Nat->Bool)(i:Nat):Nat->Bool:=fun k=>if k=i then true else B k
def DQ (rows:List Nat)(B:Nat->Bool)(j:Nat):Prop:=j∈rows/\B j=true
theorem KE {rows:List Nat}{B:Nat->Bool}{i j:Nat}(h:DQ rows (AY B i) j):DQ rows B j\/j=i:=by
 obtain⟨h1,h2⟩:=h;by_cases e:j=i
 . exact .inr e
 ·
  refine .inl ⟨h1,?_⟩;unfold AY at h2;rw[if_neg e] at h2;exact h2
theorem Du {rows:List Nat}{B:Nat->Bool}{i j:Nat}(hi:i∉rows)(h:DQ rows (AY B i) j):DQ rows B j:=by
 rcases KE h with q|rfl
 . exact q
 . exact absurd h.1 hi
structure Mk (w:World)(m:Nat)(live:Nat->Prop)(R:Nat->Rw)(wk:Bool)(vW:Value)(bs N:Nat)(AA:List (List Dd)):Prop where
 Af:FO w m live R
 work:wk=true->IZ w bs N vW AA/\N<=w.heap.size/\m<=bs
 out:wk=true->∀i,live i->∀k,(R i).v.ownBlock=some k->k<bs\/N<=k
section
variable {w w':World} {m:Nat} {rows:List Nat} {B:Nat->Bool} {R:Nat->Rw} {wk:Bool} {vW:Value} {bs N:Nat} {AA:List (List Dd)}
theorem Mk.start (w:World)(m:Nat)(rows:List Nat)(R:Nat->Rw)(vW:Value)(bs N:Nat)(AA:List (List Dd)):Mk w m (DQ rows (fun _=>false)) R false vW bs N AA:=
 ⟨⟨fun _ h=>(by cases h.2),fun _ _ h=>(by cases h.2)⟩,fun h=>(by cases h),fun h=>(by cases h)⟩
theorem Mk.keep {live:Nat->Prop}(h:Mk w m live R wk vW bs N AA)(k:AC w w'):Mk w' m live R wk vW bs N AA:=
 ⟨h.Af.keep k,fun e=>⟨(h.work e).1.kept k.grownBy (by simp),Nat.le_trans (h.work e).2.1 k.size,(h.work e).2.2⟩,h.out⟩
theorem Mk.pass (h:Mk w m (DQ rows B) R wk vW bs N AA){i:Nat}(hi:i∉rows):Mk w m (DQ rows (AY B i)) R wk vW bs N AA:=
 ⟨h.Af.congr (fun _ hj=>Du hi hj) (fun _ _=>rfl),h.work,fun e j hj=>h.out e j (Du hi hj)⟩
theorem Mk.add (h:Mk w m (DQ rows B) R wk vW bs N AA){i:Nat}(hi:B i=false){r:Rw}(k:AC w w')(ho:r.own w' m)(hn:∀b,r.v.ownBlock=some b->w.heap.size<=b):Mk w' m (DQ rows (AY B i)) (IE R i r) wk vW bs N AA:=by
 have F:=h.Af.add (i:=i) (fun q=>by have q2:=q.2;rw[hi] at q2;cases q2) (r:=r) rfl k ho hn;refine⟨F.congr (fun j hj=>KE hj) (fun _ _=>rfl),(h.keep k).work,fun e j hj b hb=>?_⟩;by_cases ej:j=i
 ·
  subst ej;rw[Al] at hb;have:=hn b hb;have:=(h.work e).2.1;right;omega
 ·
  rw[AV _ _ ej] at hb;exact h.out e j ((KE hj).resolve_right ej) b hb
theorem Mk.copied (h:Mk w m (DQ rows B) R false vW bs N AA){i:Nat}(hi:i∉rows){v':Value}(k:AC w w')(hx:mO w' w.heap.size v' AA)(hm:m<=w.heap.size):Mk w' m (DQ rows (AY B i)) R true v' w.heap.size w'.heap.size AA:=
 ⟨(h.Af.keep k).congr (fun _ hj=>Du hi hj) (fun _ _=>rfl),fun _=>⟨hx.upto,Nat.le_refl _,hm⟩,fun _ _ hj b hb => .inl (h.Af.lt (Du hi hj) b hb).2⟩
theorem Mk.turn (h:Mk w m (DQ rows B) R wk vW bs N AA){i j:Nat}(hi:i∉rows)(hj:DQ rows B j){r:Rw}(hg:w.grownBy w' (R j).v.ownBlock)(hv:r.v=(R j).v)(ho:r.own w' m):Mk w' m (DQ rows (AY B i)) (IE R j r) wk vW bs N AA:=by
 have F:=h.Af.set hj (r:=r) hg (.inl (by rw[hv])) ho;refine⟨F.congr (fun _ q=>Du hi q) (fun _ _=>rfl),fun e=>⟨(h.work e).1.kept hg (fun g e'=>h.out e j hj g e'),Nat.le_trans (h.work e).2.1 hg.size,(h.work e).2.2⟩,fun e q hq b hb=>?_⟩;by_cases eq:q=j
 ·
  subst eq;rw[Al,hv] at hb;exact h.out e q hj b hb
 ·
  rw[AV _ _ eq] at hb;exact h.out e q (Du hi hq) b hb
end
theorem FO.via {ι κ:Type}{w:World}{m:Nat}{live:ι->Prop}{R:ι->Rw}(h:FO w m live R)(g:κ->Option ι)(inj:∀a b i,g a=some i->g b=some i->a=b){live':κ->Prop}{R':κ->Rw}
  (h1:∀a i,live' a->g a=some i->live i/\R' a=R i) (h2:∀a,live' a->g a=none->(R' a).own w m/\(R' a).v.ownBlock=none):FO w m live' R':=by
 refine⟨fun a ha=>?_,fun a b ha hb hab=>?_⟩
 ·
  cases e:g a with
  |none=>exact (h2 a ha e).1
  |some i=>rw[(h1 a i ha e).2];exact h.own i (h1 a i ha e).1
 ·
  cases e:g a with
  |none=>exact .inl (h2 a ha e).2
  |some i=>
   cases e':g b with
   |none=>
    rw[(h2 b hb e').2]
    cases (R' a).v.ownBlock with
    |none=>exact .inl rfl
    |some q=>exact .inr (by simp)
   |some j=>
    rw[(h1 a i ha e).2,(h1 b j hb e').2];exact h.apart i j (h1 a i ha e).1 (h1 b j hb e').1 (fun q=>by subst q;exact hab (inj a b i e e'))
theorem G6 (w:World)(m:Nat)(t:TypeId)(s:Nat):Rw.own w m ⟨t,s,AF,0,[]⟩:=⟨by simp,.inl ⟨rfl,rfl⟩⟩
theorem Jm (w:World){m:Nat}(hm:m<=w.heap.size)(t:TypeId)(cs:Array Value)(h:cs.size<=maxLen):Rw.own (w.alloc (.cells cs t)) m ⟨t,1,.slice (some ⟨w.heap.size,0,none⟩) cs.size cs.size,cs.size,cs.toList⟩:=by
 refine⟨by simp,.inr ⟨w.heap.size,cs.size,cs,rfl,hm,heap_alloc_new w _,Nat.le_refl _,h,by simp,?_⟩⟩;rw[Nat.mul_one];exact List.take_of_length_le (by simp)
section
variable {P:Program} {ops:Array Oper} {Q:Exit->Act->World->Prop} {md:Region.Mode}
theorem BS {listed:Array Bool}(h:Region.ready md ops listed=[])(i:Nat)(o:Oper)(ho:ops[i]? = some o)(hd:o.after.all (fun e=>!Region.binds md e||listed.getD e.on false)=true):listed.getD i true=true:=by
 cases e:listed.getD i true with
 |true=>rfl
 |false=>
  exfalso;have hi:i<ops.size:=(Array.getElem?_eq_some_iff.1 ho).1
  have:i∈Region.ready md ops listed:=by
   unfold Region.ready;rw[List.mem_filter,List.mem_range];refine⟨hi,?_⟩;simp only[Bool.and_eq_true,Bool.not_eq_true'];refine⟨e,?_⟩;rw[ho];exact hd
  rw[h] at this;cases this
theorem AH {listed:Array Bool}{i:Nat}(h:i∈Region.ready md ops listed)(k:Nat){o:Oper}(ho:ops[i]? = some o)(he:o.after.any (fun e=>e.on==k&&Region.binds md e)=true):listed.getD k false=true:=by
 have h1:=(AE h).2.2 o ho;rw[Array.any_eq_true'] at he;obtain⟨e,hm,he⟩:=he;rw[Array.all_eq_true'] at h1;have h2:=h1 e hm;rw[Bool.and_eq_true,beq_iff_eq] at he;rw[he.2,he.1] at h2
 simpa using h2
theorem DR {listed:Array Bool}(h:Region.ready md ops listed=[])(hs:listed.size=ops.size)(ha:(List.range ops.size).all (fun i=>match ops[i]? with|some o=>o.after.all (fun e=>decide (e.on<i))|none=>true)=true):∀i,i<ops.size->listed.getD i false=true:=by
 intro i
 induction i using Nat.strongRecOn with
 |ind i ih=>
  intro hi;have hi':=List.all_eq_true.1 ha i (List.mem_range.2 hi);rw[Array.getElem?_eq_getElem hi] at hi'
  have h1:=BS h i ops[i] (Array.getElem?_eq_getElem hi) (by
   rw[Array.all_eq_true'];intro e he;have h2:=(Array.all_eq_true'.1 hi') e he;rw[decide_eq_true_eq] at h2;rw[ih e.on h2 (by omega)]
   simp)
  rw[Array.getD_eq_getD_getElem?,Array.getElem?_eq_getElem (by omega)] at h1 ⊢;exact h1
theorem AG {i:Nat}{o:Oper}{K:Act->World->Prop}{a:Act}{w:World}(ho:ops[i]? = some o)(hg:Region.wanted o (yielded ops a.tmps)=true)
  (h:∀K':Act->World->Prop,Shut (∀a w,K a w->K' a w)->Oper.wp P o a w K' Q):wpOp P ops Q i K a w:=wpOp_step ho (fun K' hK=>by rw[if_pos hg];exact h K' hK)
end
theorem Ju {o:Oper}{a:Act}{w:World}{K:Act->World->Prop}{Q:Exit->Act->World->Prop}(x y:Operand)(ho:o.op = .makeSlice 25 x y)(n:Nat)(hx:a.eval x = .int .i64 (n:Int))(hy:a.eval y = .int .i64 (n:Int))(hn:n<=1048576)(m:Nat)(hm:m<=w.heap.size)
  (h:∀w',A7 w' m (.slice (some ⟨w.heap.size,0,none⟩) n n) (List.replicate n 0)->AC w w'->K (a.put o.dst (.slice (some ⟨w.heap.size,0,none⟩) n n)) w'):o.wp Tryz.prog a w K Q:=by
 obtain⟨i0,hi,hz0,hz1,hz2⟩:=info_parts Tryz.FA;obtain⟨w',hrun,r1,r2⟩:=run_make_full (P:=Tryz.prog) w m 25 2 i0 (.int .i64 0) 1 Tryz.underlying25 hi hz0 hz1 .i64 .i64 n (by rw[hz2];omega) (by unfold maxLen;omega) hm;unfold Oper.wp;simp[execOp,ho,hx,hy,hrun,Result.andThen];refine h w' ?_ ((AC.refl w).grown r2 (by simp));unfold A7;rw[Nat.mul_one,show (Value.int .i64 0).cells=#[.int .i64 0] from rfl,toList_madeCells_one] at r1
 simpa using r1
theorem FK {g n cap b:Nat}(h:(Value.slice (some ⟨g,0,none⟩) n cap).ownBlock=some b):g<=b:=Nat.le_of_eq (Option.some.inj h)
end
end Go.Proofs.YtflehmepjhikcaaGreatDoor
