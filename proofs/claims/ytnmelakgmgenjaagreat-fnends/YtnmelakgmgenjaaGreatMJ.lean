/- Gathered texts. -/
import Derived.Test.YtnmelakgmgenjaaGreatMI
import Derived.Outline
import Derived.Lib.Hide
import Derived.RegionTactic
import Derived.Deep.QuietTactic
import Derived.BigQuiet
import Derived.Maps.AppendAt
import Derived.Laws.OwnMore
import Derived.Deep.Cut
import Derived.BigRegion
set_option maxRecDepth 100000
set_option maxHeartbeats 8000000
namespace Go.Proofs.YtnmelakgmgenjaaGreat
open Go.ChangeShapes Go.WideShapes Go.ChangeAt Go.RowKit
section
section
variable {w w1 w2 w':World} {m D:Nat} {v:BV} {nv rv:List Value} {bs N:Nat} {AA:List (List Dd)} {b:Bd}
theorem AR.Y2 (h:AR w m D v nv rv bs N AA b){u:Value}{zs:List Int}(hg:w.grownBy w2 v.P.ownBlock)(hb:u.ownBlock=v.P.ownBlock\/u.ownBlock=some w.heap.size\/u.ownBlock=none)(ho:BM w2 m u zs):
  AR (w2.setCell ⟨D,1,none⟩ u) m D { v with P:=u } nv rv bs N AA { b with AM:=zs }/\w2.cell? ⟨D,1,none⟩=some v.P/\w2.frozen? ⟨D,1,none⟩=false:=by
 have F1:=h.Ai.set (i:= .AM) trivial (r:=Bn zs u) hg hb ho;have o1:(Ha D v).own w2 m:=F1.own .bd trivial;obtain⟨q1,q2,q3⟩:=JT (k:=1) (x:=u) (v':={ v with P:=u }) o1 rfl;have F2:=F1.set (i:= .bd) trivial (r:=Ha D { v with P:=u }) q2 (.inl rfl) q1;have hf:∀j,Ax D { v with P:=u } nv rv { b with AM:=zs } j=JC (JC (Ax D v nv rv b) .AM (Bn zs u)) .bd (Ha D { v with P:=u }) j:=fun j=>by cases j<;>rfl
 refine⟨h.mk2 (F2.congr (fun _ hj=>hj) (fun j _=>hf j)) h.ln h.lr rfl (Nat.le_trans hg.size q2.size) ((h.work.kept hg (fun g e=>h.out .AM trivial g e)).kept q2 h.nD) (fun j hj k hk=>?_),(h.stay .AM trivial (by simp) hg 1).trans h.cells.2.1,q3⟩;by_cases e:j = .AM
 ·
  subst e;have hk:u.ownBlock=some k:=hk;rcases hb with e|e|e
  . exact .inl ⟨.AM,trivial,by rw[<-hk,e];rfl⟩
  . rw[e] at hk;exact .inr (Nat.le_of_eq (Option.some.inj hk))
  . rw[e] at hk;cases hk
 ·
  refine .inl ⟨j,hj,?_⟩;cases j<;>first|exact hk|exact absurd rfl e
theorem AR.Y1 (h:AR w m D v nv rv bs N AA b){u:Value}{zs:List Int}(hg:w.grownBy w2 v.L.ownBlock)(hb:u.ownBlock=v.L.ownBlock\/u.ownBlock=some w.heap.size\/u.ownBlock=none)(ho:BM w2 m u zs):
  AR (w2.setCell ⟨D,2,none⟩ u) m D { v with L:=u } nv rv bs N AA { b with AO:=zs }/\w2.cell? ⟨D,2,none⟩=some v.L/\w2.frozen? ⟨D,2,none⟩=false:=by
 have F1:=h.Ai.set (i:= .AO) trivial (r:=Bn zs u) hg hb ho;have o1:(Ha D v).own w2 m:=F1.own .bd trivial;obtain⟨q1,q2,q3⟩:=JT (k:=2) (x:=u) (v':={ v with L:=u }) o1 rfl;have F2:=F1.set (i:= .bd) trivial (r:=Ha D { v with L:=u }) q2 (.inl rfl) q1;have hf:∀j,Ax D { v with L:=u } nv rv { b with AO:=zs } j=JC (JC (Ax D v nv rv b) .AO (Bn zs u)) .bd (Ha D { v with L:=u }) j:=fun j=>by cases j<;>rfl
 refine⟨h.mk2 (F2.congr (fun _ hj=>hj) (fun j _=>hf j)) h.ln h.lr rfl (Nat.le_trans hg.size q2.size) ((h.work.kept hg (fun g e=>h.out .AO trivial g e)).kept q2 h.nD) (fun j hj k hk=>?_),(h.stay .AO trivial (by simp) hg 2).trans h.cells.2.2.1,q3⟩;by_cases e:j = .AO
 ·
  subst e;have hk:u.ownBlock=some k:=hk;rcases hb with e|e|e
  . exact .inl ⟨.AO,trivial,by rw[<-hk,e];rfl⟩
  . rw[e] at hk;exact .inr (Nat.le_of_eq (Option.some.inj hk))
  . rw[e] at hk;cases hk
 ·
  refine .inl ⟨j,hj,?_⟩;cases j<;>first|exact hk|exact absurd rfl e
theorem AR.Y3 (h:AR w m D v nv rv bs N AA b){u:Value}{zs:List Int}(hg:w.grownBy w2 v.X.ownBlock)(hb:u.ownBlock=v.X.ownBlock\/u.ownBlock=some w.heap.size\/u.ownBlock=none)(ho:BM w2 m u zs):
  AR (w2.setCell ⟨D,4,none⟩ u) m D { v with X:=u } nv rv bs N AA { b with AL:=zs }/\w2.cell? ⟨D,4,none⟩=some v.X/\w2.frozen? ⟨D,4,none⟩=false:=by
 have F1:=h.Ai.set (i:= .AL) trivial (r:=Bn zs u) hg hb ho;have o1:(Ha D v).own w2 m:=F1.own .bd trivial;obtain⟨q1,q2,q3⟩:=JT (k:=4) (x:=u) (v':={ v with X:=u }) o1 rfl;have F2:=F1.set (i:= .bd) trivial (r:=Ha D { v with X:=u }) q2 (.inl rfl) q1;have hf:∀j,Ax D { v with X:=u } nv rv { b with AL:=zs } j=JC (JC (Ax D v nv rv b) .AL (Bn zs u)) .bd (Ha D { v with X:=u }) j:=fun j=>by cases j<;>rfl
 refine⟨h.mk2 (F2.congr (fun _ hj=>hj) (fun j _=>hf j)) h.ln h.lr rfl (Nat.le_trans hg.size q2.size) ((h.work.kept hg (fun g e=>h.out .AL trivial g e)).kept q2 h.nD) (fun j hj k hk=>?_),(h.stay .AL trivial (by simp) hg 4).trans h.cells.2.2.2.2.1,q3⟩;by_cases e:j = .AL
 ·
  subst e;have hk:u.ownBlock=some k:=hk;rcases hb with e|e|e
  . exact .inl ⟨.AL,trivial,by rw[<-hk,e];rfl⟩
  . rw[e] at hk;exact .inr (Nat.le_of_eq (Option.some.inj hk))
  . rw[e] at hk;cases hk
 ·
  refine .inl ⟨j,hj,?_⟩;cases j<;>first|exact hk|exact absurd rfl e
end
structure Dh (w:World)(bs N:Nat)(v:Value)(wv:List Value)(AA:List (List Dd)):Prop where
 ll:DM 62 S6 w bs v wv AA
 lt:∀o,Ek wv.length o->∀k,(LJ 62 S6 v wv AA o).v.ownBlock=some k->k<N
theorem Dh.kept {w w':World}{bs N:Nat}{v:Value}{wv:List Value}{AA:List (List Dd)}(h:Dh w bs N v wv AA){row:Option Nat}(hg:w.grownBy w' row)(hr:∀g,row=some g->g<bs\/N<=g):Dh w' bs N v wv AA:=
 ⟨⟨h.ll.Ai.far hg (fun i hi=>by
  cases e:(LJ 62 S6 v wv AA i).v.ownBlock with
  |none=>exact .inl rfl
  |some k=>exact .inr (fun e'=>by have:=(h.ll.Ai.lt hi k e).1;have:=h.lt i hi k e;have:=hr k e'.symm;omega)),h.ll.len⟩,h.lt⟩
theorem Dh.keep {w w':World}{bs N:Nat}{v:Value}{wv:List Value}{AA:List (List Dd)}(h:Dh w bs N v wv AA)(k:AC w w'):Dh w' bs N v wv AA:=h.kept k.grownBy (by simp)
theorem CU.ja {w:World}{base N:Nat}{v:Value}{V:Nat->Value}{AA:List (List Dd)}(h:CU w base N v V AA):Dh w base N v ((List.range AA.length).map V) AA:=by
 have e:∀i,i<AA.length->((List.range AA.length).map V).getD i AE=V i:=fun i hi=>by rw[List.getD_eq_getElem?_getD,Fg V _ i hi];rfl
 have hl:((List.range AA.length).map V).length=AA.length:=by simp
 have at0:∀i,Ek ((List.range AA.length).map V).length (some i)->i<AA.length:=fun i hi=>by rw[<-hl];exact hi
 refine⟨⟨⟨fun o ho=>?_,fun o o' ho ho' hne=>?_⟩,hl⟩,fun o ho k hk=>?_⟩
 ·
  cases o with
  |none=>
   show w.ownsRow base _ 1 v ((List.range AA.length).map V).length ((List.range AA.length).map V);rw[hl];exact h.row
  |some i=>
   show w.ownsRow base _ 4 (((List.range AA.length).map V).getD i AE) (AA.getD i []).length _;rw[e i (at0 i ho)];exact h.each i (at0 i ho)
 ·
  cases o with
  |none=>
   cases o' with
   |none=>exact absurd rfl hne
   |some i=>
    show v.ownBlock=none\/v.ownBlock≠(((List.range AA.length).map V).getD i AE).ownBlock;rw[e i (at0 i ho')]
    cases hv:(V i).ownBlock with
    |none=>cases v.ownBlock<;>simp
    |some k=>exact .inr (h.out i (at0 i ho') k hv)
  |some i=>
   show (((List.range AA.length).map V).getD i AE).ownBlock=none\/(((List.range AA.length).map V).getD i AE).ownBlock≠_;rw[e i (at0 i ho)]
   cases hv:(V i).ownBlock with
   |none=>exact .inl rfl
   |some k=>
    right
    cases o' with
    |none=>exact fun q=>h.out i (at0 i ho) k hv q.symm
    |some j=>
     show _≠(((List.range AA.length).map V).getD j AE).ownBlock;rw[e j (at0 j ho')];have hij:i≠j:=fun q=>hne (by rw[q])
     rcases Nat.lt_or_ge i j with q|q
     . exact fun x=>h.apart i j q (at0 j ho') k hv x.symm
     . exact fun x=>h.apart j i (by omega) (at0 i ho) k x.symm hv
 ·
  cases o with
  |none=>exact h.lt k hk
  |some i=>
   have hk:(((List.range AA.length).map V).getD i AE).ownBlock=some k:=hk;rw[e i (at0 i ho)] at hk;exact h.iB i (at0 i ho) k hk
theorem Mt {a b c:World}{row r2:Option Nat}(h:a.grownBy b row)(k:b.grownBy c r2)(hr:∀g,r2=some g->a.heap.size<=g):a.grownBy c row:=
 ⟨k.os.trans h.os,k.tape.trans h.tape,k.output.trans h.output,Nat.le_trans h.size k.size,fun q hq hne=>(k.block q (Nat.lt_of_lt_of_le hq h.size) (fun e=>by have:=hr q e.symm;omega)).trans (h.block q hq hne)⟩
theorem Tf {a b c:World}{row:Option Nat}(h:a.grownBy b row)(k:b.grownBy c row):a.grownBy c row:=
 ⟨k.os.trans h.os,k.tape.trans h.tape,k.output.trans h.output,Nat.le_trans h.size k.size,fun q hq hne=>(k.block q (Nat.lt_of_lt_of_le hq h.size) hne).trans (h.block q hq hne)⟩
theorem SY {w:World}{bs N:Nat}{v:Value}{AA:List (List Dd)}(h:JP w bs N v AA)(ht:N<=w.heap.size)(m:Nat):BG w m ⟨v,AE,AE,AE,AE,AE,AE,AE⟩ [] [] bs N AA ⟨[],[],[],[],[],[],[]⟩:=by
 have hv:∀i,BZ [] [] i->i≠.bd->(Ax 0 ⟨v,AE,AE,AE,AE,AE,AE,AE⟩ [] [] ⟨[],[],[],[],[],[],[]⟩ i).v.ownBlock=none:=fun i hi hb=>by
  cases i with
  |bd=>exact absurd rfl hb
  |nt c=>exact absurd (show c<0 from hi) (by omega)
  |rw c=>exact absurd (show c<0 from hi) (by omega)
  |_=>rfl
 refine⟨⟨fun i hi=>?_,fun i j hi _ _ => .inl (hv i hi.1 hi.2)⟩,rfl,rfl,h,ht,fun i hi hb k hk=>by rw[hv i hi hb] at hk;cases hk⟩;obtain⟨hi,hb⟩:=hi
 cases i with
 |bd=>exact absurd rfl hb
 |nt c=>exact absurd (show c<0 from hi) (by omega)
 |rw c=>exact absurd (show c<0 from hi) (by omega)
 |_=>exact⟨rfl,.inl ⟨rfl,rfl⟩⟩
structure NB (wb w:World)(m D:Nat)(v:BV)(nv rv:List Value)(bs N:Nat)(AA:List (List Dd))(b:Bd):Prop where
 ob:AR w m D v nv rv bs N AA b
 lo:∀i,BZ nv rv i->i≠.bd->∀k,(Ax D v nv rv b i).v.ownBlock=some k->wb.heap.size<=k
 sm:wb.grownBy w (some D)
section
variable {wb w w1 w2 w':World} {m D:Nat} {v:BV} {nv rv wv:List Value} {bs N:Nat} {AA:List (List Dd)} {b:Bd}
theorem NB.start {W:Value}(h:AR w m D ⟨W,AE,AE,AE,AE,AE,AE,AE⟩ [] [] bs N AA ⟨[],[],[],[],[],[],[]⟩):NB w w m D ⟨W,AE,AE,AE,AE,AE,AE,AE⟩ [] [] bs N AA ⟨[],[],[],[],[],[],[]⟩:=by
 refine⟨h,fun i hi hb k hk=>?_,World.grownBy.refl _ _⟩
 cases i with
 |bd=>exact absurd rfl hb
 |nt c=>exact absurd (show c<0 from hi) (by omega)
 |rw c=>exact absurd (show c<0 from hi) (by omega)
 |_=>exact absurd (show (none:Option Nat)=some k from hk) (by simp)
theorem NB.keep (h:NB wb w m D v nv rv bs N AA b)(k:AC w w'):NB wb w' m D v nv rv bs N AA b:=⟨h.ob.keep k,h.lo,Mt h.sm k.grownBy (by simp)⟩
theorem NB.put (h:NB wb w m D v nv rv bs N AA b)(i:BI)(hi:BZ nv rv i)(hb:i≠.bd)(hg:w.grownBy w2 (Ax D v nv rv b i).v.ownBlock)(k:Nat)(u:Value):wb.grownBy (w2.setCell ⟨D,k,none⟩ u) (some D):=
 Tf (Mt h.sm hg (fun g e=>h.lo i hi hb g e)) (Ae w2 D k u)
theorem NB.Y2 (h:NB wb w m D v nv rv bs N AA b){u:Value}{zs:List Int}(hg:w.grownBy w2 v.P.ownBlock)(hb:u.ownBlock=v.P.ownBlock\/u.ownBlock=some w.heap.size)(ho:BM w2 m u zs):
  NB wb (w2.setCell ⟨D,1,none⟩ u) m D { v with P:=u } nv rv bs N AA { b with AM:=zs }/\w2.cell? ⟨D,1,none⟩=some v.P/\w2.frozen? ⟨D,1,none⟩=false:=by
 obtain⟨h1,h2,h3⟩:=h.ob.Y2 hg (by rcases hb with e|e;exact .inl e;exact .inr (.inl e)) ho;refine⟨⟨h1,fun i hi hb' k hk=>?_,h.put .AM trivial (by simp) hg 1 u⟩,h2,h3⟩;by_cases e:i = .AM
 ·
  subst e;have hk:u.ownBlock=some k:=hk;rcases hb with e|e
  . exact h.lo .AM trivial (by simp) k (e.symm.trans hk)
  ·
   rw[e] at hk;have:=Option.some.inj hk;have:=h.sm.size;omega
 ·
  refine h.lo i hi hb' k ?_;cases i<;>first|exact hk|exact absurd rfl e|exact absurd rfl hb'
theorem NB.Y1 (h:NB wb w m D v nv rv bs N AA b){u:Value}{zs:List Int}(hg:w.grownBy w2 v.L.ownBlock)(hb:u.ownBlock=v.L.ownBlock\/u.ownBlock=some w.heap.size)(ho:BM w2 m u zs):
  NB wb (w2.setCell ⟨D,2,none⟩ u) m D { v with L:=u } nv rv bs N AA { b with AO:=zs }/\w2.cell? ⟨D,2,none⟩=some v.L/\w2.frozen? ⟨D,2,none⟩=false:=by
 obtain⟨h1,h2,h3⟩:=h.ob.Y1 hg (by rcases hb with e|e;exact .inl e;exact .inr (.inl e)) ho;refine⟨⟨h1,fun i hi hb' k hk=>?_,h.put .AO trivial (by simp) hg 2 u⟩,h2,h3⟩;by_cases e:i = .AO
 ·
  subst e;have hk:u.ownBlock=some k:=hk;rcases hb with e|e
  . exact h.lo .AO trivial (by simp) k (e.symm.trans hk)
  ·
   rw[e] at hk;have:=Option.some.inj hk;have:=h.sm.size;omega
 ·
  refine h.lo i hi hb' k ?_;cases i<;>first|exact hk|exact absurd rfl e|exact absurd rfl hb'
theorem NB.Y3 (h:NB wb w m D v nv rv bs N AA b){u:Value}{zs:List Int}(hg:w.grownBy w2 v.X.ownBlock)(hb:u.ownBlock=v.X.ownBlock\/u.ownBlock=some w.heap.size)(ho:BM w2 m u zs):
  NB wb (w2.setCell ⟨D,4,none⟩ u) m D { v with X:=u } nv rv bs N AA { b with AL:=zs }/\w2.cell? ⟨D,4,none⟩=some v.X/\w2.frozen? ⟨D,4,none⟩=false:=by
 obtain⟨h1,h2,h3⟩:=h.ob.Y3 hg (by rcases hb with e|e;exact .inl e;exact .inr (.inl e)) ho;refine⟨⟨h1,fun i hi hb' k hk=>?_,h.put .AL trivial (by simp) hg 4 u⟩,h2,h3⟩;by_cases e:i = .AL
 ·
  subst e;have hk:u.ownBlock=some k:=hk;rcases hb with e|e
  . exact h.lo .AL trivial (by simp) k (e.symm.trans hk)
  ·
   rw[e] at hk;have:=Option.some.inj hk;have:=h.sm.size;omega
 ·
  refine h.lo i hi hb' k ?_;cases i<;>first|exact hk|exact absurd rfl e|exact absurd rfl hb'
theorem NB.Uq (h:NB wb w m D v nv rv bs N AA b){u:Value}{zs:List Int}(hg:w.grownBy w2 v.S.ownBlock)(hb:u.ownBlock=v.S.ownBlock\/u.ownBlock=some w.heap.size)(ho:BM w2 m u zs):
  NB wb (w2.setCell ⟨D,5,none⟩ u) m D { v with S:=u } nv rv bs N AA { b with sn:=zs }/\w2.cell? ⟨D,5,none⟩=some v.S/\w2.frozen? ⟨D,5,none⟩=false:=by
 obtain⟨h1,h2,h3⟩:=h.ob.Uq hg (by rcases hb with e|e;exact .inl e;exact .inr (.inl e)) ho;refine⟨⟨h1,fun i hi hb' k hk=>?_,h.put .sn trivial (by simp) hg 5 u⟩,h2,h3⟩;by_cases e:i = .sn
 ·
  subst e;have hk:u.ownBlock=some k:=hk;rcases hb with e|e
  . exact h.lo .sn trivial (by simp) k (e.symm.trans hk)
  ·
   rw[e] at hk;have:=Option.some.inj hk;have:=h.sm.size;omega
 ·
  refine h.lo i hi hb' k ?_;cases i<;>first|exact hk|exact absurd rfl e|exact absurd rfl hb'
theorem NB.Up (h:NB wb w m D v nv rv bs N AA b){u:Value}{zs:List Int}(hg:w.grownBy w2 v.F.ownBlock)(hb:u.ownBlock=v.F.ownBlock\/u.ownBlock=some w.heap.size)(ho:BM w2 m u zs):
  NB wb (w2.setCell ⟨D,6,none⟩ u) m D { v with F:=u } nv rv bs N AA { b with fr:=zs }/\w2.cell? ⟨D,6,none⟩=some v.F/\w2.frozen? ⟨D,6,none⟩=false:=by
 obtain⟨h1,h2,h3⟩:=h.ob.Up hg (by rcases hb with e|e;exact .inl e;exact .inr (.inl e)) ho;refine⟨⟨h1,fun i hi hb' k hk=>?_,h.put .fr trivial (by simp) hg 6 u⟩,h2,h3⟩;by_cases e:i = .fr
 ·
  subst e;have hk:u.ownBlock=some k:=hk;rcases hb with e|e
  . exact h.lo .fr trivial (by simp) k (e.symm.trans hk)
  ·
   rw[e] at hk;have:=Option.some.inj hk;have:=h.sm.size;omega
 ·
  refine h.lo i hi hb' k ?_;cases i<;>first|exact hk|exact absurd rfl e|exact absurd rfl hb'
theorem NB.SZ (h:NB wb w m D v nv rv bs N AA b){u u':Value}{ns:List Nt}(k1:AC w w1)(hu:∀k,u.ownBlock=some k->w.heap.size<=k)(ou:B5 cN 104 3 w1 m u ns)
  (hg:w1.grownBy w2 v.N.ownBlock) (hb:u'.ownBlock=v.N.ownBlock\/u'.ownBlock=some w1.heap.size) (ho:(EP 101 (nv++[u]) u').own w2 m):
  NB wb (w2.setCell ⟨D,3,none⟩ u') m D { v with N:=u' } (nv++[u]) rv bs N AA { b with AG:=b.AG++[ns] }/\w2.cell? ⟨D,3,none⟩=some v.N/\w2.frozen? ⟨D,3,none⟩=false:=by
 obtain⟨h1,h2,h3⟩:=h.ob.SZ k1 hu ou hg (by rcases hb with e|e;exact .inl e;exact .inr (.inl e)) ho;have hs:=h.sm.size;have hs1:=k1.size;refine⟨⟨h1,fun i hi hb' k hk=>?_,(h.keep k1).put .AG trivial (by simp) hg 3 u'⟩,h2,h3⟩
 cases i with
 |bd=>exact absurd rfl hb'
 |AG=>
  have hk:u'.ownBlock=some k:=hk;rcases hb with e|e
  . exact h.lo .AG trivial (by simp) k (e.symm.trans hk)
  ·
   rw[e] at hk;have:=Option.some.inj hk;omega
 |nt q=>
  have hk:((nv++[u]).getD q AE).ownBlock=some k:=hk;rw[EW] at hk;by_cases e:q=nv.length
  . rw[if_pos e] at hk;have:=hu k hk;omega
  ·
   rw[if_neg e] at hk;have hq:q<(nv++[u]).length:=hi;rw[List.length_append] at hq;exact h.lo (.nt q) (show q<nv.length by simp at hq;omega) (by simp) k hk
 |rw q=>exact h.lo (.rw q) hi (by simp) k hk
 |AM=>exact h.lo .AM trivial (by simp) k hk
 |AO=>exact h.lo .AO trivial (by simp) k hk
 |AL=>exact h.lo .AL trivial (by simp) k hk
 |sn=>exact h.lo .sn trivial (by simp) k hk
 |fr=>exact h.lo .fr trivial (by simp) k hk
 |rws=>exact h.lo .rws trivial (by simp) k hk
theorem NB.VI (h:NB wb w m D v nv rv bs N AA b){u u':Value}{zs:List Int}(k1:AC w w1)(hu:∀k,u.ownBlock=some k->w.heap.size<=k)(ou:BM w1 m u zs)
  (hg:w1.grownBy w2 v.R.ownBlock) (hb:u'.ownBlock=v.R.ownBlock\/u'.ownBlock=some w1.heap.size) (ho:(EP 28 (rv++[u]) u').own w2 m):
  NB wb (w2.setCell ⟨D,7,none⟩ u') m D { v with R:=u' } nv (rv++[u]) bs N AA { b with rws:=b.rws++[zs] }/\w2.cell? ⟨D,7,none⟩=some v.R/\w2.frozen? ⟨D,7,none⟩=false:=by
 obtain⟨h1,h2,h3⟩:=h.ob.VI k1 hu ou hg (by rcases hb with e|e;exact .inl e;exact .inr (.inl e)) ho;have hs:=h.sm.size;have hs1:=k1.size;refine⟨⟨h1,fun i hi hb' k hk=>?_,(h.keep k1).put .rws trivial (by simp) hg 7 u'⟩,h2,h3⟩
 cases i with
 |bd=>exact absurd rfl hb'
 |rws=>
  have hk:u'.ownBlock=some k:=hk;rcases hb with e|e
  . exact h.lo .rws trivial (by simp) k (e.symm.trans hk)
  ·
   rw[e] at hk;have:=Option.some.inj hk;omega
 |rw q=>
  have hk:((rv++[u]).getD q AE).ownBlock=some k:=hk;rw[EW] at hk;by_cases e:q=rv.length
  . rw[if_pos e] at hk;have:=hu k hk;omega
  ·
   rw[if_neg e] at hk;have hq:q<(rv++[u]).length:=hi;rw[List.length_append] at hq;exact h.lo (.rw q) (show q<rv.length by simp at hq;omega) (by simp) k hk
 |nt q=>exact h.lo (.nt q) hi (by simp) k hk
 |AM=>exact h.lo .AM trivial (by simp) k hk
 |AO=>exact h.lo .AO trivial (by simp) k hk
 |AL=>exact h.lo .AL trivial (by simp) k hk
 |sn=>exact h.lo .sn trivial (by simp) k hk
 |fr=>exact h.lo .fr trivial (by simp) k hk
 |AG=>exact h.lo .AG trivial (by simp) k hk
theorem AR.all (ob:AR w m D v nv rv bs N AA b)(lw:Dh w bs N v.W wv AA)(hm:m<=bs):Fy w m v nv rv wv AA b:=by
 have fo:∀i,i≠BI.bd->Ax 0 v nv rv b i=Ax D v nv rv b i:=fun i hi=>by cases i<;>first|rfl|exact absurd rfl hi
 have wl:∀o,Ek wv.length o->∀k,(LJ 62 S6 v.W wv AA o).v.ownBlock=some k->bs<=k/\k<N:=fun o ho k hk=>⟨(lw.ll.Ai.lt ho k hk).1,lw.lt o ho k hk⟩
 have cross:∀i,BZ nv rv i->∀o,Ek wv.length o->(Ax D v nv rv b i).v.ownBlock=none\/(Ax D v nv rv b i).v.ownBlock≠(LJ 62 S6 v.W wv AA o).v.ownBlock:=fun i hi o ho=>by
  cases e:(Ax D v nv rv b i).v.ownBlock with
  |none=>exact .inl rfl
  |some k=>exact .inr (fun q=>by have:=ob.out i hi k e;have:=wl o ho k q.symm;omega)
 have cross':∀o,Ek wv.length o->∀i,BZ nv rv i->(LJ 62 S6 v.W wv AA o).v.ownBlock=none\/(LJ 62 S6 v.W wv AA o).v.ownBlock≠(Ax D v nv rv b i).v.ownBlock:=fun o ho i hi=>by
  cases e:(LJ 62 S6 v.W wv AA o).v.ownBlock with
  |none=>exact .inl rfl
  |some k=>exact .inr (fun q=>by have:=ob.out i hi k q.symm;have:=wl o ho k e;omega)
 refine⟨⟨fun j hj=>?_,fun i j hi hj hij=>?_⟩,ob.ln,ob.lr,lw.ll.len⟩
 ·
  cases j with
  |b i=>
   show (Ax 0 v nv rv b i).own w m;rw[fo i hj.2];exact ob.Ai.own i hj.1
  |wk=>exact DS (lw.ll.Ai.own none trivial) hm
  |wd c=>exact DS (lw.ll.Ai.own (some c) hj) hm
 ·
  cases i with
  |b i=>
   show (Ax 0 v nv rv b i).v.ownBlock=none\/(Ax 0 v nv rv b i).v.ownBlock≠_;rw[fo i hi.2]
   cases j with
   |b j=>
    show _\/_≠(Ax 0 v nv rv b j).v.ownBlock;rw[fo j hj.2];exact ob.Ai.apart i j hi.1 hj.1 (fun e=>hij (by rw[e]))
   |wk=>exact cross i hi.1 none trivial
   |wd c=>exact cross i hi.1 (some c) hj
  |wk=>
   cases j with
   |b j=>
    show _\/_≠(Ax 0 v nv rv b j).v.ownBlock;rw[fo j hj.2];exact cross' none trivial j hj.1
   |wk=>exact absurd rfl hij
   |wd c=>exact lw.ll.Ai.apart none (some c) trivial hj (by simp)
  |wd c=>
   cases j with
   |b j=>
    show _\/_≠(Ax 0 v nv rv b j).v.ownBlock;rw[fo j hj.2];exact cross' (some c) hi j hj.1
   |wk=>exact lw.ll.Ai.apart (some c) none hi trivial (by simp)
   |wd d=>exact lw.ll.Ai.apart (some c) (some d) hi hj (fun e=>hij (by have:=Option.some.inj e;rw[this]))
end
end
section
theorem EZ {w w':World}{m:Nat}{r:Rw}(h:r.own w m)(hb:∀g,r.v.ownBlock=some g->w'.heap[g]? = w.heap[g]?):r.own w' m:=by
 unfold Rw.own at h ⊢;refine⟨h.1,?_⟩;rcases h.2 with q|⟨g,cap,cur,e,hm,hg,rest⟩
 . exact .inl q
 . exact .inr ⟨g,cap,cur,e,hm,(hb g (by rw[e];rfl)).trans hg,rest⟩
theorem JP.same {w w':World}{base N:Nat}{v:Value}{AA:List (List Dd)}(h:JP w base N v AA)(hs:w.heap.size<=w'.heap.size)(hh:∀g,base<=g->g<N->w'.heap[g]? = w.heap[g]?):JP w' base N v AA:=by
 obtain⟨a,cap,hv,h⟩:=h;refine⟨a,cap,hv,?_⟩;rcases h with h|⟨b,off,ha,h1,h2,h3,h4⟩
 . exact .inl h
 ·
  refine .inr ⟨b,off,ha,h1,h2,Nat.lt_of_lt_of_le h3 hs,fun i hi=>?_⟩;obtain⟨vi,e1,e2,e3⟩:=h4 i hi;refine⟨vi,(World.cell?_of_block (a:=⟨b,off+i,none⟩) (hh b h1 h2)).trans e1,?_,e3⟩;exact EZ (r:=S6 (AA.getD i []) vi) e2 (fun g hg=>hh g (World.ownsRow.lt e2 g hg).1 (e3 g hg))
theorem Dh.same {w w':World}{bs N:Nat}{v:Value}{wv:List Value}{AA:List (List Dd)}(h:Dh w bs N v wv AA)(hh:∀g,bs<=g->g<N->w'.heap[g]? = w.heap[g]?):Dh w' bs N v wv AA:=
 ⟨⟨⟨fun o ho=>EZ (h.ll.Ai.own o ho) (fun g hg=>hh g (h.ll.Ai.lt ho g hg).1 (h.lt o ho g hg)),h.ll.Ai.apart⟩,h.ll.len⟩,h.lt⟩
theorem GH.part {ι:Type}{w w':World}{m:Nat}{live live':ι->Prop}{R R':ι->Rw}(S:ι->Prop)(h:GH w m live R)(hS:GH w' m (fun i=>live' i/\S i) R')(hl:∀i,¬S i->live' i->live i)(hR:∀i,¬S i->live' i->R' i=R i){F F':Nat->Prop}(t:Ak w w' F F')
  (hF:∀i,live i->¬S i->∀g,(R i).v.ownBlock=some g->¬F g) (hF':∀i,live' i->S i->∀g,(R' i).v.ownBlock=some g->F' g):GH w' m live' R':=by
 have far:∀i j,live' i->¬S i->live' j->S j->(R' i).v.ownBlock=none\/(R' i).v.ownBlock≠(R' j).v.ownBlock:=fun i j hi hni hj hsj=>by
  cases e:(R' i).v.ownBlock with
  |none=>exact .inl rfl
  |some g=>
   refine .inr (fun q=>?_);rw[hR i hni hi] at e;have h1:=hF i (hl i hni hi) hni g e;have h2:=(h.lt (hl i hni hi) g e).2;rcases t.news g (hF' j hj hsj g q.symm) with h3|h3
   . exact h1 h3
   . omega
 refine⟨fun i hi=>?_,fun i j hi hj hij=>?_⟩
 ·
  by_cases s:S i
  . exact hS.own i ⟨hi,s⟩
  ·
   rw[hR i s hi];exact EZ (h.own i (hl i s hi)) (fun g hg=>t.block g (h.lt (hl i s hi) g hg).2 (hF i (hl i s hi) s g hg))
 ·
  by_cases s:S i
  ·
   by_cases r:S j
   . exact hS.apart i j ⟨hi,s⟩ ⟨hj,r⟩ hij
   ·
    rcases far j i hj r hi s with q|q
    ·
     rw[q]
     cases (R' i).v.ownBlock with
     |none=>exact .inl rfl
     |some g=>exact .inr (by simp)
    . exact .inr (fun e=>q e.symm)
  ·
   by_cases r:S j
   . exact far i j hi s hj r
   . rw[hR i s hi,hR j r hj];exact h.apart i j (hl i s hi) (hl j r hj) hij
def S7:BI->Prop
 | .AM=>True
 | .AO=>True
 | .rws=>True
 | .rw _=>True
 |_=>False
def Db (v:BV)(nv rv:List Value)(g:Nat):Prop:=∃i,BZ nv rv i/\i≠.bd/\(vB 0 v nv rv i).ownBlock=some g
theorem UX {D:Nat}{v:BV}{nv rv:List Value}{g:Nat}(h:Bp D v nv rv g):Db v nv rv g\/g=D:=by
 obtain⟨i,hi,e⟩:=h
 cases i with
 |bd=>exact .inr (Option.some.inj e).symm
 |AM=>exact .inl ⟨.AM,trivial,by simp,e⟩
 |AO=>exact .inl ⟨.AO,trivial,by simp,e⟩
 |AG=>exact .inl ⟨.AG,trivial,by simp,e⟩
 |AL=>exact .inl ⟨.AL,trivial,by simp,e⟩
 |sn=>exact .inl ⟨.sn,trivial,by simp,e⟩
 |fr=>exact .inl ⟨.fr,trivial,by simp,e⟩
 |rws=>exact .inl ⟨.rws,trivial,by simp,e⟩
 |nt c=>exact .inl ⟨.nt c,hi,by simp,e⟩
 |rw p=>exact .inl ⟨.rw p,hi,by simp,e⟩
theorem YQ {D:Nat}{v:BV}{nv rv:List Value}{g:Nat}(h:Db v nv rv g):Bp D v nv rv g:=by
 obtain⟨i,hi,hb,e⟩:=h;refine⟨i,hi,?_⟩;cases i<;>first|exact e|exact absurd rfl hb
theorem Po {D:Nat}{v:BV}{nv rv:List Value}{g:Nat}(h:FL v rv g):Bp D v nv rv g:=by
 obtain⟨i,hi,e⟩:=h
 cases i with
 |AM=>exact⟨.AM,trivial,e⟩
 |AO=>exact⟨.AO,trivial,e⟩
 |rws=>exact⟨.rws,trivial,e⟩
 |rw p=>exact⟨.rw p,hi,e⟩
 |_=>exact absurd hi (by simp[Ds])
section
variable {w w':World} {m D:Nat} {v:BV} {nv rv rv' wv:List Value} {bs N:Nat} {AA:List (List Dd)} {b b':Bd}
theorem BG.blk (h:BG w m v nv rv bs N AA b):∀g,Db v nv rv g->m<=g/\g<w.heap.size/\(g<bs\/N<=g):=fun g ⟨i,hi,hb,e⟩=>by
 rw[<-Kz 0 v nv rv b i] at e;exact⟨(h.Ai.lt ⟨hi,hb⟩ g e).1,(h.Ai.lt ⟨hi,hb⟩ g e).2,h.out i hi hb g e⟩
theorem Dh.turn (h:Dh w bs N v.W wv AA)(o:BG w m v nv rv bs N AA b){F':Nat->Prop}(t:Ak w w' (Db v nv rv) F'):Dh w' bs N v.W wv AA:=
 h.same (fun g h1 h2=>t.block g (Nat.lt_of_lt_of_le h2 o.top) (fun q=>by have:=(o.blk g q).2.2;omega))
theorem gD (v:BV)(nv rv:List Value)(b:Bd){i:BI}(h:S7 i):Ax 0 v [] rv b i=Ax D v nv rv b i:=by
 cases i<;>first|rfl|exact absurd h (by simp[S7])
theorem AR.ZH (h:AR w m D v nv rv bs N AA b):DV w m v rv b:=by
 refine⟨h.Ai.congr (fun i hi=>?_) (fun i hi=>?_),h.lr⟩
 . cases i<;>first|trivial|exact hi|exact absurd hi (by simp[Ds])
 . cases i<;>first|rfl|exact absurd hi (by simp[Ds])
theorem AR.turn (h:AR w m D v nv rv bs N AA b)(o:DV w' m v rv' b')(t:Ak w w' (FL v rv) (FL v rv'))(e1:b'.AG=b.AG)(e2:b'.AL=b.AL)(e3:b'.sn=b.sn)(e4:b'.fr=b.fr):
  AR w' m D v nv rv' bs N AA b'/\Ak w w' (Bp D v nv rv) (Bp D v nv rv'):=by
 have lI:∀i,BZ nv rv' i/\S7 i->Ds rv' i:=fun i ⟨h1,h2⟩=>by cases i<;>first|trivial|exact h1|exact absurd h2 (by simp[S7])
 have nI:∀i,BZ nv rv i->¬S7 i->∀g,(Ax D v nv rv b i).v.ownBlock=some g->¬FL v rv g:=fun i hi hs g hg hB=>by
  obtain⟨j,hj,e⟩:=hB;have hij:i≠j:=fun q=>hs (by subst q;cases i<;>first|trivial|exact absurd hj (by simp[Ds]))
  have lj:BZ nv rv j:=by cases j<;>first|trivial|exact hj|exact absurd hj (by simp[Ds])
  have ej:(Ax D v nv rv b j).v.ownBlock=some g:=by
   rw[Kz];cases j<;>first|exact e|exact absurd hj (by simp[Ds])
  rcases h.Ai.apart i j hi lj hij with q|q
  . rw[hg] at q;cases q
  . exact q (hg.trans ej.symm)
 have F:=h.Ai.part (w':=w') (live':=BZ nv rv') (R':=Ax D v nv rv' b') S7 (o.Ai.congr lI (fun i hi=>(gD (D:=D) v nv rv' b' hi.2).symm)) (fun i hs hi=>by cases i<;>first|trivial|exact hi|exact absurd trivial hs)
  (fun i hs _=>by cases i<;>first|exact absurd trivial hs|(simp only[Ax,e1,e2,e3,e4])) t nI (fun i hi hs g hg=>⟨i,lI i ⟨hi,hs⟩,by
   rw[Kz] at hg
   cases i<;>first|exact hg|exact absurd hs (by simp[S7])⟩)
 have nB:∀g,Bp D v nv rv' g->Bp D v nv rv g\/w.heap.size<=g:=fun g ⟨i,hi,e⟩=>by
  by_cases s:S7 i
  ·
   rcases t.news g ⟨i,lI i ⟨hi,s⟩,by cases i<;>first|exact e|exact absurd s (by simp[S7])⟩ with q|q
   . exact .inl (Po q)
   . exact .inr q
  . exact .inl ⟨i,by cases i<;>first|trivial|exact hi|exact absurd trivial s,by cases i<;>first|exact e|exact absurd trivial s⟩
 refine⟨⟨F,by rw[e1];exact h.ln,o.lr,h.work.same t.size (fun g h1 h2=>t.block g (Nat.lt_of_lt_of_le h2 h.top) (fun q=>by have:=(h.blk g (Po q)).2.2;omega)),Nat.le_trans h.top t.size,fun i hi k hk=>?_⟩,⟨t.os,t.tape,t.output,t.size,fun g hg hn=>t.block g hg (fun q=>hn (Po q)),nB⟩⟩;rw[Kz] at hk;rcases nB k ⟨i,hi,hk⟩ with q|q
 . exact (h.blk k q).2.2
 . right;exact Nat.le_trans h.top q
end
end
theorem Fj {xs ys:List Int}{k:Nat}(hx:k<xs.length)(hy:k<ys.length)(h:xs.take k=ys.take k)(e:xs.getD k 0=ys.getD k 0):xs.take (k+1)=ys.take (k+1):=by
 rw[Gf xs k hx,Gf ys k hy,h,e]
theorem mW {xs ys:List Int}{k:Nat}(h:xs.getD k 0≠ys.getD k 0):xs≠ys:=by
 intro e;subst e;exact h rfl
theorem LH:∀(k:Nat) (a b:List Int),k<a.length->k<b.length->a.take k=b.take k->a.getD k 0≠b.getD k 0->Bu a b=decide (a.getD k 0<b.getD k 0)
 |_,[],_,h,_,_,_=>by simp at h
 |_,_::_,[],_,h,_,_=>by simp at h
 | 0,x::a,y::b,_,_,_,hne=>by
  simp only[List.getD_cons_zero] at hne ⊢;rw[EH,if_pos hne]
 |k+1,x::a,y::b,h1,h2,ht,hne=>by
  simp only[List.take_succ_cons,List.cons.injEq,List.getD_cons_succ,List.length_cons] at *;rw[EH,if_neg (by simp[ht.1])];exact LH k a b (by omega) (by omega) ht.2 hne
theorem KT:∀(k:Nat) (a b:List Int),a.take k=b.take k->k<=a.length->k<=b.length->(k=a.length\/k=b.length)->Bu a b=decide (a.length<b.length)
 |_,[],b,_,_,_,_=>by rw[KU];simp
 |_,x::a,[],_,_,_,_=>by rw[Ft];simp
 | 0,_::_,_::_,_,_,_,h=>by simp at h
 |k+1,x::a,y::b,ht,h1,h2,h=>by
  simp only[List.take_succ_cons,List.cons.injEq,List.length_cons] at *;rw[EH,if_neg (by simp[ht.1]),KT k a b ht.2 (by omega) (by omega) (by omega)];simp
theorem Sf (w:World)(v1 v2:Value)(xs ys:List Int)(h1:Rd w v1 xs)(h2:Rd w v2 ys)(hx:xs.length<=1048576):
  Calls Tryz.prog 43 #[v1,v2] w fun e w'=>e = .returned (.bool (decide (xs=ys)))/\AC w w':=by
 obtain⟨a1,c1,rfl,h1⟩:=h1;obtain⟨a2,c2,rfl,h2⟩:=h2;by_cases hl:xs.length=ys.length
 ·
  have hlb:((xs.length:Int) != (ys.length:Int))=false:=by simp[hl]
  have hl1:xs.length<=ys.length:=by omega
  have hl2:ys.length<=xs.length:=by omega
  clear hl;go_enter Tryz.func43,Tryz.ntmps43
  go_wp2;go_loopw [5] (fun i wr=>∃k:Nat,k<=xs.length/\i = .int .i64 k/\xs.take k=ys.take k/\AC w wr) (fun i _=>xs.length-(intOf i).toNat)
  case atStart=>exact⟨0,Nat.zero_le _,rfl,by simp,AC.refl _⟩
  case round=>
   obtain⟨k,hk,rfl,ht,hK⟩:=hrel;by_cases hlt:k<xs.length
   ·
    rcases h1 with h|⟨b1,o1,rfl,hb1,hc1⟩
    . subst h;simp at hlt
    rcases h2 with h|⟨b2,o2,rfl,hb2,hc2⟩
    . exfalso;rw[h] at hl1;simp only[List.length_nil] at hl1;omega
    have hy2:k<ys.length:=by omega
    have d1:=(hK.cell hb1).trans (hc1 k hlt);have d2:=(hK.cell hb2).trans (hc2 k hy2);clear hc1 hc2;obtain⟨p,hp⟩:∃p,p=xs.getD k 0:=⟨_,rfl⟩;obtain⟨q,hq⟩:∃q,q=ys.getD k 0:=⟨_,rfl⟩;rw[<-hp] at d1;rw[<-hq] at d2;have HP:Hid (p=xs.getD k 0):=hp;have HQ:Hid (q=ys.getD k 0):=hq;have HT:Hid (xs.take k=ys.take k):=ht;clear hp hq ht;by_cases he:p=q
    ·
     have hne:(p != q)=false:=by simp[he]
     have HE:Hid (p=q):=he;clear he;go_wp2;go_quiet (fail)
     go_wp2;go_roundw;case rel=>exact⟨k+1,by omega,by go_num,Fj hlt hy2 HT.out (by rw[<-HP.out,<-HQ.out];exact HE.out),hK.drewN _⟩
     case measure=>simp[intOf];omega
    ·
     have hne:(p != q)=true:=by simp[he]
     have HE:Hid (p≠q):=he;clear he;go_wp2;go_quiet (fail)
     go_wp2;go_ret;refine⟨Bl ?_,?_⟩
     ·
      have:=mW (xs:=xs) (ys:=ys) (k:=k) (by rw[<-HP.out,<-HQ.out];exact HE.out);simp[this]
     . exact hK.drewN _
   ·
    go_wp2;go_ret;refine⟨Bl ?_,hK⟩;rw[List.take_of_length_le (by omega),List.take_of_length_le (by omega)] at ht;simp[ht]
 ·
  have hlb:((xs.length:Int) != (ys.length:Int))=true:=by simp;omega
  have HL:Hid (¬xs.length=ys.length):=hl;clear hl;go_enter Tryz.func43,Tryz.ntmps43
  go_wp2;go_ret;refine⟨Bl ?_,AC.refl _⟩;have:xs≠ys:=fun e=>HL.out (by rw[e])
  simp[this]
theorem SD (w:World)(v1 v2:Value)(xs ys:List Int)(h1:Rd w v1 xs)(h2:Rd w v2 ys)(hx:xs.length<=1048576):
  Calls Tryz.prog 137 #[v1,v2] w fun e w'=>e = .returned (.bool (Bu xs ys))/\AC w w':=by
 obtain⟨a1,c1,rfl,h1⟩:=h1;obtain⟨a2,c2,rfl,h2⟩:=h2;go_enter Tryz.func137,Tryz.ntmps137
 go_wp2;go_loopw [5] (fun i wr=>∃k:Nat,k<=xs.length/\k<=ys.length/\i = .int .i64 k/\xs.take k=ys.take k/\AC w wr) (fun i _=>xs.length-(intOf i).toNat)
 case atStart=>exact⟨0,Nat.zero_le _,Nat.zero_le _,rfl,by simp,AC.refl _⟩
 case round=>
  obtain⟨k,hk1,hk2,rfl,ht,hK⟩:=hrel;by_cases hlt:k<xs.length
  ·
   by_cases rP:k<ys.length
   ·
    rcases h1 with h|⟨b1,o1,rfl,hb1,hc1⟩
    . subst h;simp at hlt
    rcases h2 with h|⟨b2,o2,rfl,hb2,hc2⟩
    . exfalso;rw[h] at rP;simp at rP
    have d1:=(hK.cell hb1).trans (hc1 k hlt);have d2:=(hK.cell hb2).trans (hc2 k rP);clear hc1 hc2;have HL:=Lib.hid (LH k xs ys hlt rP ht);obtain⟨p,hp⟩:∃p,p=xs.getD k 0:=⟨_,rfl⟩;obtain⟨q,hq⟩:∃q,q=ys.getD k 0:=⟨_,rfl⟩;rw[<-hp] at d1;rw[<-hq] at d2;rw[<-hp,<-hq] at HL;have HP:Hid (p=xs.getD k 0):=hp;have HQ:Hid (q=ys.getD k 0):=hq;have HT:Hid (xs.take k=ys.take k):=ht;clear hp hq ht;by_cases he:p=q
    ·
     have hne:(p != q)=false:=by simp[he]
     have HE:Hid (p=q):=he;clear he HL;go_wp2;go_quiet (fail)
     go_wp2;go_roundw;case rel=>exact⟨k+1,by omega,by omega,by go_num,Fj hlt rP HT.out (by rw[<-HP.out,<-HQ.out];exact HE.out),hK.drewN _⟩
     case measure=>simp[intOf];omega
    ·
     have hne:(p != q)=true:=by simp[he]
     have HE:=Lib.hid (HL.out he);clear he HL;go_wp2;go_quiet (fail)
     go_wp2;go_quiet (fail)
     go_wp2;go_ret;exact⟨Bl HE.out.symm,(hK.drewN _).drewN _⟩
   ·
    have HE:=Lib.hid (KT k xs ys ht hk1 hk2 (by omega));clear ht;go_wp2;go_ret;exact⟨Bl (by rw[HE.out]),hK⟩
  ·
   have HE:=Lib.hid (KT k xs ys ht hk1 hk2 (by omega));clear ht;go_wp2;go_ret;exact⟨Bl (by rw[HE.out]),hK⟩
theorem SC (w:World)(v vo:Value)(Aq:List (List Int))(x:List Int)(h:RJ w v Aq)(hx:Rd w vo x)(hO:OW Aq)(hl:Aq.length<=1099511627776)(hm:∀i,i<Aq.length->(Aq.getD i []).length<=1048576):
  Calls Tryz.prog 107 #[v,vo] w fun e w'=>e = .returned (.tuple #[.int .i64 (DD Aq x:Int),.bool (QG Aq x)])/\AC w w':=by
 obtain⟨a,c,rfl,h⟩:=h;have HR:=Lib.hid (Fe hO x);have hrl:=Qj Aq x;obtain⟨R,hR⟩:∃R,R=DD Aq x:=⟨_,rfl⟩;rw[<-hR] at HR hrl;have HI:Hid (QG Aq x=(decide (R<Aq.length)&&(Aq.getD R []==x))):=Lib.hid (by rw[hR];rfl);rw[<-hR];clear hR hO;go_enter Tryz.func107,Tryz.ntmps107
 go_wp2;go_loopw [6,7,8] (fun lo hi _ wr=>∃l r:Nat,l<=R/\R<=r/\r<=Aq.length/\lo = .int .i64 l/\hi = .int .i64 r/\AC w wr) (fun lo hi _ _=>(intOf hi).toNat-(intOf lo).toNat)
 case atStart=>exact⟨0,Aq.length,Nat.zero_le _,hrl,Nat.le_refl _,rfl,rfl,AC.refl _⟩
 case round=>
  obtain⟨l,r,h1,h2,h3,rfl,rfl,hK⟩:=hrel;by_cases hlt:l<r
  ·
   obtain⟨p,hp1,hp2⟩:∃p:Nat,Int.tdiv ((l:Int)+(r:Int)) 2=(p:Int)/\p=(l+r) / 2:=⟨(l+r) / 2,by rw[Int.tdiv_eq_ediv_of_nonneg (by omega)];omega,rfl⟩;have hpl:p<Aq.length:=by omega
   rcases h with h|⟨b,o,rfl,hb,hc⟩
   . exfalso;rw[h] at hpl;simp at hpl
   obtain⟨vi,d1,rd⟩:=hc p hpl;have d1:=(hK.cell hb).trans d1;have CL:=SD wr vi vo _ x (rd.keep hK) (hx.keep hK) (hm p hpl);have HP:=HR.out p hpl;rw[show Bu (Aq.getD p []) x=Bu Aq[p] x from by rw[List.getD_eq_getElem?_getD,List.getElem?_eq_getElem hpl];rfl,HP] at CL;clear hc rd HP hm hx;have i1:(0:Int)<=(p:Int):=Int.natCast_nonneg _;have i2:(p:Int)<(Aq.length:Int):=by omega
   have HP2:=Lib.hid hp2;clear hp2;go_wp2_with fail
   refine CL.mono ?_;rintro e wz ⟨rfl,kk⟩;by_cases hR:p<R
   ·
    have hb:decide (p<R)=true:=by simpa using hR
    go_wp2;go_roundw;case rel=>exact⟨p+1,r,by omega,h2,h3,by go_num,rfl,hK.trans kk⟩
    case measure=>
     have:=HP2.out;simp[intOf];omega
   ·
    have hb:decide (p<R)=false:=by simpa using hR
    go_wp2;go_roundw;case rel=>exact⟨l,p,h1,by omega,by omega,rfl,rfl,hK.trans kk⟩
    case measure=>
     have:=HP2.out;simp[intOf];omega
  ·
   obtain rfl:l=R:=by omega
   by_cases hR:l<Aq.length
   ·
    rcases h with h|⟨b,o,rfl,hb,hc⟩
    . exfalso;rw[h] at hR;simp at hR
    obtain⟨vi,d1,rd⟩:=hc l hR;have d1:=(hK.cell hb).trans d1;have CS:=Sf wr vi vo _ x (rd.keep hK) (hx.keep hK) (hm l hR);rw[decide_eq_true hR,Bool.true_and,show (Aq.getD l []==x)=decide (Aq.getD l []=x) from by rw[Bool.eq_iff_iff];simp] at HI;generalize decide (Aq.getD l []=x)=E at *;have i1:(0:Int)<=(l:Int):=Int.natCast_nonneg _;have i2:(l:Int)<(Aq.length:Int):=by omega
    clear hc rd hm hx;go_wp2_with fail
    refine CS.mono ?_;rintro e wz ⟨rfl,kk⟩;go_wp2;go_ret2
    exact⟨by rw[HI.out];rfl,hK.trans kk⟩
   ·
    rw[decide_eq_false hR,Bool.false_and] at HI;go_wp2;go_ret2
    exact⟨by rw[HI.out];rfl,hK⟩
structure Gh (w:World)(P:Nat->Prop)(base:Nat)(v:Value)(vs:List Value)(Aq:List (List Int)):Prop where
 row:w.ownsRow base 28 1 v Aq.length vs
 np:∀g,v.ownBlock=some g->¬P g
 each:∀i,i<Aq.length->Rd w (vs.getD i AE) (Aq.getD i [])/\∀g,(vs.getD i AE).ownBlock=some g->P g
theorem JZ {w w':World}(h:w.grownBy w' none)(row:Option Nat):w.grownBy w' row:=⟨h.os,h.tape,h.output,h.size,fun k hk _=>h.block k hk (by simp)⟩
theorem Te {a b c:World}{r:Option Nat}{g:Nat}(h:a.grownBy b r)(k:b.grownBy c (some g))(hg:a.heap.size<=g):a.grownBy c r:=
 ⟨k.os.trans h.os,k.tape.trans h.tape,k.output.trans h.output,Nat.le_trans h.size k.size,fun q hq hr=>(k.block q (Nat.lt_of_lt_of_le hq h.size) (fun e=>by have:=Option.some.inj e;omega)).trans (h.block q hq hr)⟩
theorem Qk {w w':World}{v:Value}{zs:List Int}(h:Rd w v zs)(hs:w.heap.size<=w'.heap.size)(hb:∀g,v.ownBlock=some g->g<w.heap.size->w'.heap[g]? = w.heap[g]?):Rd w' v zs:=by
 obtain⟨a,c,rfl,h⟩:=h;refine⟨a,c,rfl,?_⟩;rcases h with h|⟨b,o,rfl,hb',hc⟩
 . exact .inl h
 ·
  refine .inr ⟨b,o,rfl,Nat.lt_of_lt_of_le hb' hs,fun i hi=>?_⟩;rw[World.cell?_of_block (w:=w) (hb b rfl hb')];exact hc i hi
theorem Gh.lt {w:World}{P:Nat->Prop}{base:Nat}{v:Value}{vs:List Value}{Aq:List (List Int)}(h:Gh w P base v vs Aq):∀g,v.ownBlock=some g->base<=g/\g<w.heap.size:=World.ownsRow.lt h.row
theorem Gh.kept {w w':World}{P:Nat->Prop}{base:Nat}{v:Value}{vs:List Value}{Aq:List (List Int)}{r:Option Nat}(h:Gh w P base v vs Aq)(hg:w.grownBy w' r)(hr:∀g,r=some g->¬P g/\v.ownBlock≠some g):Gh w' P base v vs Aq:=by
 refine⟨World.ownsRow.kept h.row hg ?_,h.np,fun i hi=>⟨Qk (h.each i hi).1 hg.size (fun g hv hl=>hg.block g hl (fun e=>(hr g e.symm).1 ((h.each i hi).2 g hv))),(h.each i hi).2⟩⟩
 cases hv:v.ownBlock with
 |none=>exact .inl rfl
 |some g=>exact .inr (fun e=>(hr g e.symm).2 hv)
theorem Gh.mono {w:World}{P P':Nat->Prop}{base:Nat}{v:Value}{vs:List Value}{Aq:List (List Int)}(h:Gh w P base v vs Aq)(hp:∀g,P g->P' g)(hn:∀g,v.ownBlock=some g->¬P' g):Gh w P' base v vs Aq:=
 ⟨h.row,hn,fun i hi=>⟨(h.each i hi).1,fun g hg=>hp g ((h.each i hi).2 g hg)⟩⟩
theorem Gh.wE {w:World}{P:Nat->Prop}{base:Nat}{v:Value}{vs:List Value}{Aq:List (List Int)}(h:Gh w P base v vs Aq):RJ w v Aq:=by
 have hl:=h.row.1;have h2:=h.row;rcases h.row.2 with ⟨rfl,hz⟩|⟨g,cap,cur,rfl,hb,hg,_⟩
 . exact⟨none,0,by rw[hz],.inl (List.eq_nil_of_length_eq_zero hz)⟩
 ·
  refine⟨_,_,rfl,.inr ⟨g,0,rfl,(h.lt g rfl).2,fun i hi=>?_⟩⟩;have hi':i<vs.length:=by omega
  refine⟨vs.getD i AE,?_,(h.each i hi).1⟩;rw[Nat.zero_add,World.ownsRow.cellAt h2 i (by omega),List.getD_eq_getElem?_getD,List.getElem?_eq_getElem hi'];rfl
theorem IA {α:Type}(l:List α)(k i:Nat)(u z:α)(hk:k<=l.length):(l.take k++u::l.drop k).getD i z=if i<k then l.getD i z else if i=k then u else l.getD (i-1) z:=by
 simp only[List.getD_eq_getElem?_getD];by_cases h1:i<k
 . rw[if_pos h1,List.getElem?_append_left (by simp;omega),List.getElem?_take_of_lt h1]
 ·
  rw[if_neg h1,List.getElem?_append_right (by simp;omega),List.length_take,Nat.min_eq_left hk];by_cases h2:i=k
  . rw[if_pos h2,h2];simp
  ·
   rw[if_neg h2,show i-k=(i-k-1)+1 by omega,List.getElem?_cons_succ,List.getElem?_drop]
   congr 2
   omega
theorem VP {α:Type}(l:List α)(k:Nat)(y u:α)(hk:k<=l.length):(l.take k++y::l.drop k).set k u=l.take k++u::l.drop k:=by
 rw[List.set_append_right _ _ (by simp;omega),List.length_take,Nat.min_eq_left hk,Nat.sub_self,List.set_cons_zero]
theorem W7 {α:Type}(l:List α)(k:Nat)(y z:α)(hk:k+1<=l.length):(l.take (k+1)++y::l.drop (k+1)).set (k+1) (l.getD k z)=l.take k++l.getD k z::l.drop k:=by
 rw[VP _ _ _ _ hk]
 have e:l.drop k=l.getD k z::l.drop (k+1):=by
  rw[List.getD_eq_getElem?_getD,List.getElem?_eq_getElem (by omega),Option.getD_some,List.drop_eq_getElem_cons (by omega)]
 have e2:l.take (k+1)=l.take k++[l.getD k z]:=by
  rw[List.take_add_one,List.getD_eq_getElem?_getD,List.getElem?_eq_getElem (by omega)];rfl
 rw[e2,e];simp
theorem M8 (w:World)(P:Nat->Prop)(base:Nat)(v u:Value)(vs:List Value)(Aq:List (List Int))(x:List Int)(h:Gh w P base v vs Aq)(hP:∀g,P g->g<w.heap.size)(hu:Rd w u x)(hup:∀g,u.ownBlock=some g->P g)(hO:OW Aq)(hl:Aq.length<=1099511627776)(hm:∀i,i<Aq.length->(Aq.getD i []).length<=1048576)(hb:base<=w.heap.size):
  Calls Tryz.prog 76 #[v,u] w fun e w'=>∃v' vs',e = .returned (.tuple #[v',.bool (!(QG Aq x))])/\Gh w' P base v' vs' (EL Aq x)/\w.grownBy w' v.ownBlock/\(v'.ownBlock=v.ownBlock\/∃g,v'.ownBlock=some g/\w.heap.size<=g):=by
 obtain⟨j0,hj,hy0,hy1,hy2⟩:=info_parts Tryz.rf;have CF:=SC w v u Aq x h.wE hu hO hl hm;obtain⟨R,hR⟩:∃R,R=DD Aq x:=⟨_,rfl⟩;have hrl:=Qj Aq x;have uo:Hid (EL Aq x=if QG Aq x=true then Aq else Aq.take R++x::Aq.drop R):=Lib.hid (by rw[hR];rfl);rw[<-hR] at CF hrl;clear hR hO hm;obtain⟨a0,c0,rfl⟩:∃a c,v = .slice a Aq.length c:=by obtain⟨a,c,e,-⟩:=h.wE;exact⟨a,c,e⟩
 obtain⟨au,cu,rfl,-⟩:=id hu;go_enter Tryz.func76,Tryz.ntmps76
 go_wp2_with fail
 refine CF.mono ?_;rintro e w1 ⟨rfl,k1⟩;have H1:=h.kept k1.grownBy (by simp);have s1:=k1.size;have U1:=hu.keep k1;have HU:=Lib.hid hu;clear CF hu;cases hi:QG Aq x
 ·
  rw[hi,if_neg (by simp)] at uo;have k2:AC w1 (w1.alloc (.cells #[.slice au x.length cu] 28)):=(AC.refl w1).alloc _;have H2:=H1.kept k2.grownBy (by simp);have U2:=U1.keep k2;go_wp2_with (at_builtin;refine wpList_append_own_at _ rfl _ _ 26 rfl base 28 j0 (.slice none 0 0) 1 24 Tryz.underlying26 hj hy0 hy1 hy2 rfl (by decide) _ _ _ rfl H2.row ⟨_,0,none⟩ 1 1 [.slice au x.length cu] rfl rfl ?e1 ?e2 ?e3 ?e4 ?e5 ?_)
  case e1=>
   intro j u hj
   match j,hj with
   | 0,hj=>simp at hj;subst hj;simp[Addr.add]
  case e2=>intro u hu;simp at hu;subst hu;rfl
  case e3=>unfold maxLen;omega
  case e4=>omega
  case e5=>simp;omega
  intro v3 w3 hown3 hgrow3 _ hblk3
  obtain⟨g,c3,rfl⟩:∃g c,v3 = .slice (some ⟨g,0,none⟩) (Aq.length+1) c:=by
   rcases hown3.2 with ⟨_,hz⟩|⟨g,cap,cur,e,_⟩
   . omega
   . exact⟨g,cap,e⟩
  have hlv:vs.length=Aq.length:=by have:=h.row.1;omega
  have G13:w1.grownBy w3 (Value.slice a0 Aq.length c0).ownBlock:=BF (JZ k2.grownBy _) hgrow3
  have hgP:¬P g/\(some g=(Value.slice a0 Aq.length c0).ownBlock\/w1.heap.size<=g):=by
   rcases hblk3 with q|q
   . exact⟨h.np g q.symm,.inl q⟩
   ·
    have q:g=w1.heap.size+1:=Option.some.inj q;exact⟨fun hp=>by have:=hP g hp;omega,.inr (by omega)⟩
  have HG:=Lib.hid G13;have wQ:=Lib.hid hgP;have HO3:=Lib.hid hown3;have H1':=Lib.hid H1;have HH:=Lib.hid h;have U1':=Lib.hid U1;have s3:=hgrow3.size;rw[AD] at s3;clear hown3 hgrow3 hblk3 H2 U2 k2 G13 hgP H1 h U1;go_wp2;go_loopw [8] (fun i wr=>∃(k:Nat) (y:Value),i = .int .i64 (k:Int)/\R<=k/\k<=Aq.length/\World.ownsRow wr base 28 1 (.slice (some ⟨g,0,none⟩) (Aq.length+1) c3) (Aq.length+1) (vs.take k++y::vs.drop k)/\w3.grownBy wr (some g)) (fun i _=>(intOf i).toNat)
  case atStart=>
   refine⟨Aq.length,.slice au x.length cu,by go_num,hrl,Nat.le_refl _,?_,World.grownBy.refl _ _⟩;rw[<-hlv,List.take_length,List.drop_length,hlv];exact HO3.out
  case round=>
   obtain⟨k,y,rfl,hk1,hk2,ho,hg⟩:=hrel;by_cases hgt:R<k
   ·
    obtain⟨m,rfl⟩:∃m,k=m+1:=⟨k-1,by omega⟩;obtain⟨am,nm,cm,em⟩:∃a n c,vs.getD m AE = .slice a n c:=by obtain⟨a,c,e,-⟩:=(H1'.out.each m (by omega)).1;exact⟨_,_,_,e⟩
    obtain⟨z1,z2,z3⟩:=Rw.put (r:=EP 28 (vs.take (m+1)++y::vs.drop (m+1)) (.slice (some ⟨g,0,none⟩) (Aq.length+1) c3)) (g:=g) (cap:=c3) (k:=m+1) (show Rw.own wr base _ from by unfold Rw.own;rw[show (EP 28 (vs.take (m+1)++y::vs.drop (m+1)) (.slice (some ⟨g,0,none⟩) (Aq.length+1) c3)).n=Aq.length+1 from by simp;omega];exact ho) (by simp;omega) (vs.getD m AE)
    have d1:wr.cell? ⟨g,m,none⟩=some (.slice am nm cm):=by
     rw[World.ownsRow.cellAt ho m (by omega),<-em];have:=IA vs (m+1) m y AE (by omega);rw[if_pos (by omega),List.getD_eq_getElem?_getD,List.getElem?_eq_getElem (by simp;omega),Option.getD_some] at this;rw[List.getElem?_eq_getElem (by simp;omega),this]
    have d2:wr.cell? ⟨g,m+1,none⟩=some y:=by
     rw[World.ownsRow.cellAt ho (m+1) (by omega)];have:=IA vs (m+1) (m+1) y AE (by omega);rw[if_neg (by omega),if_pos rfl,List.getD_eq_getElem?_getD,List.getElem?_eq_getElem (by simp;omega),Option.getD_some] at this;rw[List.getElem?_eq_getElem (by simp;omega),this]
    have Z1:=Lib.hid z1;have Z2:=Lib.hid z2;have EM:=Lib.hid em;clear z1 z2 em ho;rw[show ((m+1:Nat):Int)=(m:Int)+1 from rfl];have i1:(0:Int)<=(m:Int):=Int.natCast_nonneg _;have i2:(m:Int)+1<(Aq.length:Int)+1:=by omega
    go_wp2;go_roundw
    case rel=>
     refine⟨m,vs.getD m AE,by go_num,by omega,by omega,?_,?_⟩
     ·
      have q:=Z1.out;unfold Rw.own at q;simp only[W7 vs m y AE (by omega)] at q;rw[show (vs.take (m+1)++y::vs.drop (m+1)).length=Aq.length+1 from by simp;omega] at q;rw[<-EM.out];exact q
     ·
      rw[<-EM.out];exact BF hg Z2.out
    case measure=>simp[intOf]
   ·
    obtain rfl:k=R:=by omega
    obtain⟨z1,z2,z3⟩:=Rw.put (r:=EP 28 (vs.take k++y::vs.drop k) (.slice (some ⟨g,0,none⟩) (Aq.length+1) c3)) (g:=g) (cap:=c3) (k:=k) (show Rw.own wr base _ from by unfold Rw.own;rw[show (EP 28 (vs.take k++y::vs.drop k) (.slice (some ⟨g,0,none⟩) (Aq.length+1) c3)).n=Aq.length+1 from by simp;omega];exact ho) (by simp;omega) (.slice au x.length cu)
    have d2:wr.cell? ⟨g,k,none⟩=some y:=by
     rw[World.ownsRow.cellAt ho k (by omega)];have:=IA vs k k y AE (by omega);rw[if_neg (by omega),if_pos rfl,List.getD_eq_getElem?_getD,List.getElem?_eq_getElem (by simp;omega),Option.getD_some] at this;rw[List.getElem?_eq_getElem (by simp;omega),this]
    have Z1:=Lib.hid z1;have Z2:=Lib.hid z2;clear z1 z2 ho;have i1:(0:Int)<=(k:Int):=Int.natCast_nonneg _;have i2:(k:Int)<(Aq.length:Int)+1:=by omega
    go_wp2;go_ret2
    have GT:w.grownBy (wr.setCell ⟨g,k,none⟩ (.slice au x.length cu)) (Value.slice a0 Aq.length c0).ownBlock:=by
     have q1:=BF (JZ k1.grownBy (Value.slice a0 Aq.length c0).ownBlock) HG.out;have q2:=BF hg Z2.out;rcases wQ.out.2 with e|e
     ·
      rw[e] at q2;exact BF q1 q2
     . exact Te q1 q2 (by omega)
    have EA:∀(y:Value) (zs:List Int),Rd w y zs->(∀q,y.ownBlock=some q->P q)->Rd (wr.setCell ⟨g,k,none⟩ (.slice au x.length cu)) y zs:=fun y zs hy hp=>Qk hy GT.size (fun q hq hl=>GT.block q hl (fun e=>HH.out.np q e.symm (hp q hq)))
    refine⟨_,rfl,⟨vs.take k++.slice au x.length cu::vs.drop k,?_⟩,GT,?_⟩
    ·
     rw[uo.out];refine⟨?_,fun q hq=>?_,fun i hi'=>?_⟩
     ·
      have q:=Z1.out;unfold Rw.own at q;simp only[VP vs k y (.slice au x.length cu) (by omega)] at q;rw[show (vs.take k++y::vs.drop k).length=Aq.length+1 from by simp;omega] at q;rw[show (Aq.take k++x::Aq.drop k).length=Aq.length+1 from by simp;omega];exact q
     ·
      have q:=Option.some.inj hq;exact q ▸ wQ.out.1
     ·
      have hi':i<Aq.length+1:=by rw[show (Aq.take k++x::Aq.drop k).length=Aq.length+1 from by simp;omega] at hi';exact hi'
      rw[IA _ _ _ _ _ (by omega),IA _ _ _ _ _ (by omega)];by_cases h1:i<k
      ·
       rw[if_pos h1,if_pos h1];have q:=HH.out.each i (by omega);exact⟨EA _ _ q.1 q.2,q.2⟩
      ·
       rw[if_neg h1,if_neg h1];by_cases h2:i=k
       ·
        rw[if_pos h2,if_pos h2];exact⟨EA _ _ HU.out hup,hup⟩
       ·
        rw[if_neg h2,if_neg h2];have q:=HH.out.each (i-1) (by omega);exact⟨EA _ _ q.1 q.2,q.2⟩
    ·
     rcases wQ.out.2 with e|e
     . exact .inl e
     . exact .inr ⟨g,rfl,by omega⟩
 ·
  rw[hi,if_pos rfl] at uo;go_wp2;go_ret2
  exact⟨_,_,by rw[hi];rfl,by rw[uo.out];exact H1,JZ k1.grownBy _,.inl rfl⟩
abbrev RY:BV:=⟨AE,AE,AE,AE,AE,AE,AE,AE⟩
abbrev MV:Bd:=⟨[],[],[],[],[],[],[]⟩
structure Au (P:Nat->Prop)(w w':World):Prop where
 size:w.heap.size<=w'.heap.size
 blk:∀g,g<w.heap.size->P g->w'.heap[g]? = w.heap[g]?
theorem Au.trans {P:Nat->Prop}{a b c:World}(h:Au P a b)(k:Au P b c):Au P a c:=
 ⟨Nat.le_trans h.size k.size,fun g hg hp=>(k.blk g (Nat.lt_of_lt_of_le hg h.size) hp).trans (h.blk g hg hp)⟩
theorem Au.mono {P P':Nat->Prop}{a b:World}(h:Au P' a b)(hp:∀g,P g->P' g):Au P a b:=⟨h.size,fun g hg hq=>h.blk g hg (hp g hq)⟩
theorem Au.Bq {P:Nat->Prop}{a b:World}(k:AC a b):Au P a b:=⟨k.size,fun g hg _=>Below.block k g hg⟩
theorem Au.Cx {P:Nat->Prop}{a b:World}{r:Option Nat}(k:a.grownBy b r)(hr:∀g,r=some g->¬P g):Au P a b:=⟨k.size,fun g hg hp=>k.block g hg (fun e=>hr g e.symm hp)⟩
def GK (m:Nat)(w:World)(v:Value)(Aq:List (List Int)):Prop:=∀w':World,Au (fun g=>m<=g) w w'->RJ w' v Aq
theorem GK.rd {m:Nat}{w:World}{v:Value}{Aq:List (List Int)}(h:GK m w v Aq):RJ w v Aq:=h w ⟨Nat.le_refl _,fun _ _ _=>rfl⟩
theorem GK.on {m:Nat}{w w':World}{v:Value}{Aq:List (List Int)}(h:GK m w v Aq)(k:Au (fun g=>m<=g) w w'):GK m w' v Aq:=fun w'' k'=>h w'' (k.trans k')
theorem GK.low {m m':Nat}{w:World}{v:Value}{Aq:List (List Int)}(h:GK m w v Aq)(hm:m'<=m):GK m' w v Aq:=fun w' k=>h w' (k.mono (fun _ hg=>Nat.le_trans hm hg))
theorem Oz (m:Nat)(w:World)(a:Option Addr)(c:Nat):GK m w (.slice a 0 c) []:=fun _ _=>⟨a,c,rfl,.inl rfl⟩
theorem Gh.rM {w:World}{P:Nat->Prop}{base:Nat}{v:Value}{vs:List Value}{Aq:List (List Int)}(h:Gh w P base v vs Aq)(hP:∀g,P g->base<=g/\g<w.heap.size):GK base w v Aq:=by
 intro w' k;have h':Gh w' P base v vs Aq:=⟨EZ (r:=⟨28,1,v,Aq.length,vs⟩) h.row (fun _ hg=>k.blk _ (h.lt _ hg).2 (h.lt _ hg).1),h.np,fun i hi=>⟨Qk (h.each i hi).1 k.size (fun _ hg hl=>k.blk _ hl (hP _ ((h.each i hi).2 _ hg)).1),(h.each i hi).2⟩⟩;exact h'.wE
def C4 (w:World)(P:Nat->Prop)(v:BV)(AA:List (List Dd))(b:Bd):Prop:=∀w':World,Au P w w'->CV w' v AA b
theorem C4.rd {w:World}{P:Nat->Prop}{v:BV}{AA:List (List Dd)}{b:Bd}(h:C4 w P v AA b):CV w v AA b:=h w ⟨Nat.le_refl _,fun _ _ _=>rfl⟩
theorem C4.on {w w':World}{P:Nat->Prop}{v:BV}{AA:List (List Dd)}{b:Bd}(h:C4 w P v AA b)(k:Au P w w'):C4 w' P v AA b:=fun w'' k'=>h w'' (k.trans k')
theorem C4.mono {w:World}{P P':Nat->Prop}{v:BV}{AA:List (List Dd)}{b:Bd}(h:C4 w P v AA b)(hp:∀g,P g->P' g):C4 w P' v AA b:=fun w' k=>h w' (k.mono hp)
theorem BG.held {w:World}{m:Nat}{v:BV}{nv rv:List Value}{bs N:Nat}{AA:List (List Dd)}{b:Bd}(h:BG w m v nv rv bs N AA b)(hm:m<=bs):C4 w (fun g=>m<=g/\g<w.heap.size) v AA b:=by
 intro w' k;have hh:∀g,m<=g->g<w.heap.size->w'.heap[g]? = w.heap[g]?:=fun g h1 h2=>k.blk g h2 ⟨h1,h2⟩
 have:BG w' m v nv rv bs N AA b:=⟨⟨fun i hi=>EZ (h.Ai.own i hi) (fun g hg=>hh g (h.Ai.lt hi g hg).1 (h.Ai.lt hi g hg).2),h.Ai.apart⟩,h.ln,h.lr,h.work.same k.size (fun g h1 h2=>hh g (by omega) (Nat.lt_of_lt_of_le h2 h.top)),Nat.le_trans h.top k.size,h.out⟩;exact this.rd0
def cB (v:BV):List Value:=[v.W,v.P,v.L,v.N,v.X,v.S,v.F,v.R]
theorem Jw:∀vs:List BV,(vs.flatMap cB).length=vs.length*8
 | []=>rfl
 |v::vs=>by rw[List.flatMap_cons,List.length_append,Jw vs,List.length_cons];show 8+_=_;omega
theorem YY:∀(vs:List BV) (i j:Nat),i<vs.length->j<8->(vs.flatMap cB)[i*8+j]? = (cB (vs.getD i RY))[j]?
 | [],_,_,h,_=>by simp at h
 |v::vs,0,j,_,hj=>by
  rw[List.flatMap_cons,Nat.zero_mul,Nat.zero_add,List.getElem?_append_left (by show j<8;exact hj)];rfl
 |v::vs,i+1,j,h,hj=>by
  rw[List.flatMap_cons,List.getElem?_append_right (by show 8<=_;omega),show (i+1)*8+j-(cB v).length=i*8+j by show _-8=_;omega];exact YY vs i j (by simpa using h) hj
theorem fJ (vs:List BV)(n:Nat)(h:n<=vs.length):(vs.flatMap cB).take (n*8)=(vs.take n).flatMap cB:=by
 have e:vs.flatMap cB=(vs.take n).flatMap cB++(vs.drop n).flatMap cB:=by rw[<-List.flatMap_append,List.take_append_drop]
 rw[e,List.take_append_of_le_length (by rw[Jw,List.length_take,Nat.min_eq_left h];exact Nat.le_refl _),List.take_of_length_le (by rw[Jw,List.length_take,Nat.min_eq_left h];exact Nat.le_refl _)]
structure FJ (w:World)(P:Nat->Prop)(base:Nat)(v:Value)(vs:List BV)(AA:List (List Dd))(l:List Bd):Prop where
 row:w.ownsRow base 36 8 v l.length (vs.flatMap cB)
 np:∀g,v.ownBlock=some g->¬P g
 each:∀i,i<l.length->C4 w P (vs.getD i RY) AA (l.getD i MV)
theorem FJ.len {w:World}{P:Nat->Prop}{base:Nat}{v:Value}{vs:List BV}{AA:List (List Dd)}{l:List Bd}(h:FJ w P base v vs AA l):vs.length=l.length:=by
 have:=h.row.1;rw[Jw] at this;omega
theorem FJ.lt {w:World}{P:Nat->Prop}{base:Nat}{v:Value}{vs:List BV}{AA:List (List Dd)}{l:List Bd}(h:FJ w P base v vs AA l):∀g,v.ownBlock=some g->base<=g/\g<w.heap.size:=World.ownsRow.lt h.row
theorem FJ.kept {w w':World}{P:Nat->Prop}{base:Nat}{v:Value}{vs:List BV}{AA:List (List Dd)}{l:List Bd}{r:Option Nat}(h:FJ w P base v vs AA l)(hg:w.grownBy w' r)(hr:∀g,r=some g->¬P g/\v.ownBlock≠some g):FJ w' P base v vs AA l:=by
 refine⟨World.ownsRow.kept h.row hg ?_,h.np,fun i hi=>(h.each i hi).on (Au.Cx hg (fun g e=>(hr g e).1))⟩
 cases hv:v.ownBlock with
 |none=>exact .inl rfl
 |some g=>exact .inr (fun e=>(hr g e.symm).2 hv)
theorem FJ.mono {w:World}{P P':Nat->Prop}{base:Nat}{v:Value}{vs:List BV}{AA:List (List Dd)}{l:List Bd}(h:FJ w P base v vs AA l)(hp:∀g,P g->P' g)(hn:∀g,v.ownBlock=some g->¬P' g):FJ w P' base v vs AA l:=
 ⟨h.row,hn,fun i hi=>(h.each i hi).mono hp⟩
theorem FJ.pop {w:World}{P:Nat->Prop}{base:Nat}{v:Value}{vs:List BV}{AA:List (List Dd)}{l:List Bd}{b:Bd}(h:FJ w P base v vs AA (l++[b])):
  ∃g cap bv,v = .slice (some ⟨g,0,none⟩) (l.length+1) cap/\l.length+1<=cap/\C4 w P bv AA b/\FJ w P base (.slice (some ⟨g,0,none⟩) l.length cap) (vs.take l.length) AA l/\∀j,j<8->w.cell? ⟨g,l.length*8+j,none⟩=(cB bv)[j]?:=by
 have hlen:=h.len;rw[List.length_append,List.length_singleton] at hlen;have hrow:=h.row;rw[List.length_append,List.length_singleton] at hrow;rcases hrow.2 with ⟨_,h2⟩|⟨g,cap,cur,rfl,hb,hg,hc,hm,hs,ht⟩
 . omega
 ·
  have he:=h.each l.length (by simp);rw[show (l++[b]).getD l.length MV=b from by simp] at he;refine⟨g,cap,vs.getD l.length RY,rfl,hc,he,⟨⟨?_,.inr ⟨g,cap,cur,rfl,hb,hg,by omega,hm,hs,?_⟩⟩,h.np,fun i hi=>?_⟩,fun j hj=>?_⟩
  . rw[Jw,List.length_take,Nat.min_eq_left (by omega)]
  ·
   have:=congrArg (List.take (l.length*8)) ht
   rwa [List.take_take,Nat.min_eq_left (by omega),fJ _ _ (by omega)] at this
  ·
   have q:=h.each i (by simp;omega);have e1:(l++[b]).getD i MV=l.getD i MV:=by rw[List.getD_eq_getElem?_getD,List.getElem?_append_left hi,<-List.getD_eq_getElem?_getD]
   have e2:(vs.take l.length).getD i RY=vs.getD i RY:=by rw[List.getD_eq_getElem?_getD,List.getElem?_take_of_lt hi,<-List.getD_eq_getElem?_getD]
   rw[e1] at q;rw[e2];exact q
  ·
   rw[World.ownsRow.cellAt hrow (l.length*8+j) (by omega)];exact YY vs _ _ (by omega) hj
theorem FJ.push {w w':World}{P:Nat->Prop}{base:Nat}{v v':Value}{vs:List BV}{AA:List (List Dd)}{l:List Bd}{b:Bd}{bv:BV}(h:FJ w P base v vs AA l)(hb:C4 w P bv AA b)(ho:w'.ownsRow base 36 8 v' (l.length+1) (vs.flatMap cB++cB bv))(hg:w.grownBy w' v.ownBlock)(hn:∀g,v'.ownBlock=some g->¬P g):FJ w' P base v' (vs++[bv]) AA (l++[b]):=by
 have hlen:=h.len;have st:Au P w w':=Au.Cx hg h.np;refine⟨by rw[List.length_append,List.length_singleton,List.flatMap_append];simpa using ho,hn,fun i hi=>?_⟩;by_cases e:i<l.length
 ·
  rw[show (vs++[bv]).getD i RY=vs.getD i RY from by simp only[List.getD_eq_getElem?_getD];rw[List.getElem?_append_left (by omega)],show (l++[b]).getD i MV=l.getD i MV from by simp only[List.getD_eq_getElem?_getD];rw[List.getElem?_append_left e]];exact (h.each i e).on st
 ·
  have e:i=l.length:=by rw[List.length_append,List.length_singleton] at hi;omega
  subst e;rw[show (l++[b]).getD l.length MV=b from by simp,show (vs++[bv]).getD l.length RY=bv from by rw[<-hlen];simp];exact hb.on st
def S8 (AA:List (List Dd))(b:Bd)(c:Nat):Dd:=if Ao b c<(AA.getD c []).length then Al AA c (Ao b c) else zD
def Xq (AA:List (List Dd))(b:Bd)(c:Nat):Bool:=decide (Ao b c<(AA.getD c []).length)
structure p9 (AA:List (List Dd))(b:Bd)(c:Nat):Prop where
 ck:c<AA.length
 l:b.AL.length=AA.length
 n0:0<=b.AL.getD c 0
 n1:b.AL.getD c 0<=((AA.getD c []).length:Int)
 top:(AA.getD c []).length<=1048576
theorem IG (w:World)(v:BV)(AA:List (List Dd))(b:Bd)(c:Nat)(h:CV w v AA b)(hc:p9 AA b c):
  Calls Tryz.prog 87 #[v.agg,.int .i64 c] w fun e w'=>e = .returned (.tuple #[dV (S8 AA b c),.bool (Xq AA b c)])/\AC w w':=by
 obtain⟨aW,aP,aL,aN,aX,aS,aF,aR,cW,cP,cL,cN,cX,cS,cF,cR,rfl⟩:=h.shapes;obtain⟨hcl,hl,hn0,hn1,htop⟩:=hc;have hcx:c<b.AL.length:=by omega
 have KW:AC w ((w.alloc (.cells #[.slice aW AA.length cW,.slice aP b.AM.length cP,.slice aL b.AO.length cL,.slice aN b.AG.length cN,.slice aX b.AL.length cX,.slice aS b.sn.length cS,.slice aF b.fr.length cF,.slice aR b.rws.length cR] 36)).alloc (.cells #[.int .i64 0,.int .i64 0,.int .i64 0,.int .i64 0] 65)):=((AC.refl w).alloc _).alloc _;have h':=h.keep KW;obtain⟨a',c',he',hX⟩:=h'.X;simp only[Value.slice.injEq,true_and] at he';obtain⟨rfl,rfl⟩:=he';rcases hX with h0|⟨bx,ox,rfl,hbx,hcx'⟩
 . exfalso;rw[h0] at hcx;simp at hcx
 obtain⟨a',c',he',hW⟩:=h'.W;simp only[Value.slice.injEq,true_and] at he';obtain⟨rfl,rfl⟩:=he';rcases hW with h0|⟨bw,ow,rfl,hbw,hcw⟩
 . exfalso;rw[h0] at hcl;simp at hcl
 obtain⟨vd,d3,r3⟩:=hcw c hcl;obtain⟨k,hk⟩:=Int.eq_ofNat_of_zero_le hn0;have d1:=hcx' c hcx;rw[hk] at d1 hn1;have hkN:Ao b c=k:=by unfold Ao;rw[hk,Int.toNat_natCast]
 have HB:Hid (Xq AA b c=decide (k<(AA.getD c []).length)):=Lib.hid (by rw[Xq,hkN]);have HD:Hid (S8 AA b c=if k<(AA.getD c []).length then Al AA c k else zD):=Lib.hid (by rw[S8,hkN]);generalize S8 AA b c=ND at HD ⊢;generalize Xq AA b c=NI at HB ⊢;obtain⟨ad,cd,rfl,r3⟩:=r3;unfold Al at HD;generalize AA.getD c []=ds at *;have j1:(0:Int)<=(c:Int):=Int.natCast_nonneg _;have j2:(c:Int)<(b.AL.length:Int):=by omega
 have j3:(c:Int)<(AA.length:Int):=by omega
 have k1:(0:Int)<=(k:Int):=Int.natCast_nonneg _;clear hcw hcx' h h' hkN hl;by_cases hlt:k<ds.length
 ·
  have HB:Hid (NI=true):=Lib.hid (by rw[HB.out,decide_eq_true hlt]);have HD:Hid (ND=ds.getD k zD):=Lib.hid (by rw[HD.out,if_pos hlt]);rcases r3 with h0|⟨bd,od,rfl,hbd,hcd⟩
  . exfalso;rw[h0] at hlt;simp at hlt
  obtain⟨q0,q1,q2,q3⟩:=hcd k hlt;generalize ds.getD k zD=y at q0 q1 q2 q3 HD;obtain⟨y0,y1,y2,y3⟩:=y;simp only at q0 q1 q2 q3;have k2:(k:Int)<(ds.length:Int):=by omega
  have k3:((k:Int)==(ds.length:Int))=false:=by simp;omega
  clear hcd hn1;go_enter Tryz.func87,Tryz.ntmps87
  go_wp2;refine bodyPost_ret (As (by rfl) _ _ (w.heap.size+1) 65 #[.int .i64 y0,.int .i64 y1,.int .i64 y2,.int .i64 y3] (0,0) _ (.bool true) rfl (by rw[Bw,if_pos (by rw[AD])]) rfl Tryz.underlying65 rfl (by kernel_rfl)) rfl ?_;exact⟨by rw[HD.out,HB.out],((AC.refl w).alloc _).alloc _⟩
 ·
  have HB2:Hid (NI=false):=Lib.hid (by rw[HB.out,decide_eq_false hlt]);have HD2:Hid (ND=zD):=Lib.hid (by rw[HD.out,if_neg hlt]);obtain rfl:k=ds.length:=by omega
  have k3:((ds.length:Int)==(ds.length:Int))=true:=by simp
  clear hn1 HB HD;go_enter Tryz.func87,Tryz.ntmps87
  go_wp2;refine bodyPost_ret (As (by rfl) _ _ (w.heap.size+1) 65 #[.int .i64 0,.int .i64 0,.int .i64 0,.int .i64 0] (0,0) _ (.bool false) rfl (by rw[Bw,if_pos (by rw[AD])]) rfl Tryz.underlying65 rfl (by kernel_rfl)) rfl ?_;exact⟨by rw[HD2.out,HB2.out];rfl,((AC.refl w).alloc _).alloc _⟩
structure X9 (AA:List (List Dd))(b:Bd):Prop where
 n:b.AG.length=AA.length
 x:b.AL.length=AA.length
 m:AA.length<=1048576
 each:∀c,c<AA.length->0<=b.AL.getD c 0/\b.AL.getD c 0<=((AA.getD c []).length:Int)/\(AA.getD c []).length<=1048576/\(b.AG.getD c []).length<=1048576
theorem X9.nx {AA:List (List Dd)}{b:Bd}(h:X9 AA b){c:Nat}(hc:c<AA.length):p9 AA b c:=
 ⟨hc,h.x,(h.each c hc).1,(h.each c hc).2.1,(h.each c hc).2.2.1⟩
theorem Yc (AA:List (List Dd))(b:Bd)(c:Nat):Bh AA b c=(Xq AA b c&&((decide ((S8 AA b c).1<=2)&&decide ((S8 AA b c).2.2.2=0))||(b.AG.getD c []).isEmpty)):=by
 unfold Bh Xq S8 BP;by_cases h:Ao b c<(AA.getD c []).length
 . rw[if_pos h,decide_eq_true h]
 . rw[decide_eq_false h];rfl
theorem Tk (w:World)(v:BV)(AA:List (List Dd))(b:Bd)(c:Nat)(h:CV w v AA b)(hp:X9 AA b)(hc:c<AA.length):
  Calls Tryz.prog 85 #[v.agg,.int .i64 c] w fun e w'=>e = .returned (.bool (Bh AA b c))/\AC w w':=by
 have C:=fun (W:World) (kW:AC w W)=>IG W v AA b c (h.keep kW) (hp.nx hc)
 have HC:Hid (Bh AA b c=(Xq AA b c&&((decide ((S8 AA b c).1<=2)&&decide ((S8 AA b c).2.2.2=0))||(b.AG.getD c []).isEmpty))):=Lib.hid (Yc AA b c);have hcn:c<b.AG.length:=by rw[hp.n];exact hc
 have hN:=h.N;obtain⟨aW,aP,aL,aN,aX,aS,aF,aR,cW,cP,cL,cN,cX,cS,cF,cR,rfl⟩:=h.shapes;obtain⟨a',c',he',hN⟩:=hN;simp only[Value.slice.injEq,true_and] at he';obtain⟨rfl,rfl⟩:=he';rcases hN with h0|⟨bn,on,rfl,hbn,hcn'⟩
 . exfalso;rw[h0] at hcn;simp at hcn
 obtain⟨vn,d3,r3⟩:=hcn' c hcn;obtain⟨an,cn,rfl,-⟩:=r3;generalize Bh AA b c=ANS at HC ⊢;generalize S8 AA b c=D at C HC;generalize Xq AA b c=I at C HC;generalize b.AG.getD c []=ns at *;obtain⟨y0,y1,y2,y3⟩:=D;simp only at HC;have j1:(0:Int)<=(c:Int):=Int.natCast_nonneg _;have j2:(c:Int)<(b.AG.length:Int):=by omega
 clear hcn' h;go_enter Tryz.func85,Tryz.ntmps85
 go_wp2_with fail
 refine (C _ ((AC.refl w).alloc _)).mono ?_;rintro e w1 ⟨rfl,k1⟩;have K1:=((AC.refl w).alloc _).trans k1;have e3:w1.cell? ⟨w.heap.size,3,none⟩=some (.slice (some ⟨bn,on,none⟩) b.AG.length cN):=AU k1 3;have d4:=(K1.cell hbn).trans d3;have s1:=K1.size;have z1:w.heap.size<w1.heap.size:=by have:=k1.size;simp at this;omega
 have z2:bn<w1.heap.size:=Nat.lt_of_lt_of_le hbn s1;have e5:(w1.alloc (.cells #[.int .i64 y0,.int .i64 y1,.int .i64 y2,.int .i64 y3] 65)).cell? ⟨w.heap.size,3,none⟩=some (.slice (some ⟨bn,on,none⟩) b.AG.length cN):=(((AC.refl w1).alloc _).cell z1).trans e3;have e6:(w1.alloc (.cells #[.int .i64 y0,.int .i64 y1,.int .i64 y2,.int .i64 y3] 65)).cell? ⟨bn,on+c,none⟩=some (.slice an ns.length (ns.length+cn)):=(((AC.refl w1).alloc _).cell z2).trans d4;clear C d3;cases I
 ·
  have HE:Hid (ANS=false):=Lib.hid (by rw[HC.out];rfl);go_wp2;go_ret;exact⟨by rw[HE.out];rfl,K1.alloc _⟩
 ·
  by_cases h2:y0<=2
  ·
   by_cases h0:y3=0
   ·
    have HE:Hid (ANS=true):=Lib.hid (by rw[HC.out,decide_eq_true h2,decide_eq_true h0];rfl);have b0:(y3==0)=true:=by simp[h0]
    clear HC;subst h0;go_wp2;go_ret;exact⟨by rw[HE.out];rfl,K1.alloc _⟩
   ·
    have HE:Hid (ANS=ns.isEmpty):=Lib.hid (by rw[HC.out,decide_eq_true h2,decide_eq_false h0];simp);have b0:(y3==0)=false:=by simp[h0]
    have HQ:Hid (((ns.length:Int)==0)=ns.isEmpty):=Lib.hid (by cases ns<;>simp;omega);clear HC;go_wp2;go_ret;exact⟨by rw[HE.out,<-HQ.out];rfl,K1.alloc _⟩
  ·
   have HE:Hid (ANS=ns.isEmpty):=Lib.hid (by rw[HC.out,decide_eq_false h2];simp);have HQ:Hid (((ns.length:Int)==0)=ns.isEmpty):=Lib.hid (by cases ns<;>simp;omega);have h2':¬(y0<=2):=h2;clear HC;go_wp2;go_ret;exact⟨by rw[HE.out,<-HQ.out];rfl,K1.alloc _⟩
theorem VH {AA:List (List Dd)}{b:Bd}(h:AW AA b=true):X9 AA b:=by
 have S:=Di.of h;have u:=Ay S.work;refine⟨S.AG,S.AL,by omega,fun c hc=>?_⟩;have h1:=Fq h hc;have h2:=u.2 c hc;simp only[GI,Bool.and_eq_true,decide_eq_true_eq] at h2;have h3:=S.nl c;exact⟨h1.1,h1.2,by omega,by omega⟩
theorem FU (w:World)(v:Value)(l:List Int)(lo hi:Int)(most:Nat)(h:Rd w v l)(hn:l.length<=1048576):
  Calls Tryz.prog 84 #[v,.int .i64 lo,.int .i64 hi,.int .i64 most] w fun e w'=>e = .returned (.bool (DW l lo hi most))/\w'=w:=by
 obtain⟨a,c,rfl,h⟩:=h;go_enter Tryz.func84,Tryz.ntmps84
 go_wp2;go_loop [9] (fun i=>∃k:Nat,k<=l.length/\i = .int .i64 k/\Hid (∀j,j<k->(decide (lo<=l.getD j 0)&&decide (l.getD j 0<=hi))=true)) (fun i=>l.length-(intOf i).toNat)
 case atStart=>exact⟨0,Nat.zero_le _,rfl,Lib.hid (fun j hj=>absurd hj (Nat.not_lt_zero _))⟩
 case round=>
  obtain⟨k,hk,rfl,hno⟩:=hrel;by_cases hlt:k<l.length
  ·
   rcases h with h|⟨b,o,rfl,hb,hc⟩
   . exfalso;rw[h] at hlt;simp at hlt
   have d1:=hc k hlt;have HF:=fun e=>Lib.hid (YI (most:=most) (lo:=lo) (hi:=hi) hlt e)
   have HT:(decide (lo<=l.getD k 0)&&decide (l.getD k 0<=hi))=true->Hid (∀j,j<k+1->(decide (lo<=l.getD j 0)&&decide (l.getD j 0<=hi))=true):=fun e=>Lib.hid (fun j hj=>by
    by_cases e':j=k
    . rw[e'];exact e
    . exact hno.out j (by omega))
   have HB:Hid (Cj (l.getD k 0) lo hi=(decide (lo<=l.getD k 0)&&decide (l.getD k 0<=hi))):=Lib.hid (by unfold Cj;rw[Bool.eq_iff_iff];simp);have CI:=Dp (l.getD k 0) lo hi w;rw[HB.out] at CI;clear hc HB;generalize l.getD k 0=p at d1 HF HT CI;generalize (decide (lo<=p)&&decide (p<=hi))=B at HF HT CI;have i1:(0:Int)<=(k:Int):=Int.natCast_nonneg _;have i2:(k:Int)<(l.length:Int):=by omega
   cases B
   ·
    have HE:=HF rfl;clear HF HT;go_wp2_with fail
    refine CI.mono ?_;rintro e w' ⟨rfl,rfl⟩;go_wp2;go_ret;exact⟨by rw[HE.out];rfl,rfl⟩
   ·
    have HE:=HT rfl;clear HF HT;go_wp2_with fail
    refine CI.mono ?_;rintro e w' ⟨rfl,rfl⟩;go_wp2;go_round
    case rel=>exact⟨k+1,by omega,by go_num,HE⟩
    case measure=>simp[intOf];omega
  ·
   obtain rfl:k=l.length:=by omega
   have HE:Hid (DW l lo hi most=decide (l.length<=most)):=Lib.hid (Vp hno.out);have HD:Hid (decide ((l.length:Int)<=(most:Int))=decide (l.length<=most)):=Lib.hid (by rw[decide_eq_decide];omega);go_wp2;go_ret;exact⟨by rw[HE.out,<-HD.out];rfl,rfl⟩
theorem Zh {d:Dd}(h:Fm d=true):d.1=1\/d.1=2\/d.1=3\/d.1=4:=by
 simp[Fm,D8] at h;omega
theorem Wf {d:Dd}(h:Fm d=true):0<=d.2.2.2/\d.2.2.2<=9:=by
 simp[Fm,D8] at h;omega
theorem KP (w:World)(v:Value)(AA:List (List Dd))(h:JJ w v AA)(hx:AA.length<=3)(hok:∀i,i<AA.length->GI (AA.getD i [])=true):
  Calls Tryz.prog 46 #[v] w fun e w'=>e = .returned (.int .i64 (Ro AA AA.length))/\AC w w':=by
 obtain⟨a,c,rfl,h⟩:=h;go_enter Tryz.func46,Tryz.ntmps46
 go_wp2;go_loopw [3,4] (fun n i wr=>∃k:Nat,∃m:Int,k<=AA.length/\n = .int .i64 m/\i = .int .i64 k/\Hid (m=Ro AA k)/\0<=m/\m<=10*k/\AC w wr) (fun _ i _=>AA.length-(intOf i).toNat)
 case atStart=>exact⟨0,0,Nat.zero_le _,rfl,rfl,Lib.hid rfl,by omega,by omega,AC.refl _⟩
 case round=>
  obtain⟨k,m,hk,rfl,rfl,hm,m0,m1,hK⟩:=hrel;by_cases hlt:k<AA.length
  ·
   rcases h with h|⟨b,o,rfl,hb,hc⟩
   . exfalso;rw[h] at hlt;simp at hlt
   obtain⟨u,e1,r1⟩:=hc k hlt;have d1:=(hK.cell hb).trans e1;have r1:=r1.keep hK;have MS:=hok k hlt;clear hc e1 hok;obtain⟨ds,hds⟩:∃ds,ds=AA.getD k []:=⟨_,rfl⟩;have MB:=Lib.hid hds;rw[<-hds] at r1 MS;clear hds;obtain⟨ai,ci,rfl,r1⟩:=r1;have i1:(0:Int)<=(k:Int):=Int.natCast_nonneg _;have i2:(k:Int)<(AA.length:Int):=by omega
   have hl5:ds.length<=5:=by simp[GI] at MS;omega
   have hbw:b<wr.heap.size:=Nat.lt_of_lt_of_le hb hK.size;go_wp2;obtain⟨wo,hwo⟩:∃wo:World,wo=wr:=⟨_,rfl⟩;subst hwo;go_loopw [3,5] (fun n i wq=>∃q:Nat,∃t:Int,q<=ds.length/\n = .int .i64 t/\i = .int .i64 q/\Hid (t=m+Oo ds q)/\0<=t/\t<=10*k+2*q/\AC wo wq) (fun _ i _=>ds.length-(intOf i).toNat)
   case atStart=>exact⟨0,m,Nat.zero_le _,rfl,rfl,Lib.hid (by simp[Oo]),by omega,by omega,AC.refl _⟩
   case round=>
    obtain⟨q,t,hq,rfl,rfl,ht,t0,t1,hQ⟩:=hrel;have d1:=(hQ.cell hbw).trans d1;have hbq:b<wr.heap.size:=Nat.lt_of_lt_of_le hbw hQ.size;by_cases hlq:q<ds.length
    ·
     rcases r1 with h|⟨b2,o2,rfl,hb2,hc2⟩
     . exfalso;rw[h] at hlq;simp at hlq
     have AT:=(hc2 q hlq).keep hb2 hQ
     have VD:Fm (ds.getD q zD)=true:=by
      simp only[GI,Bool.and_eq_true] at MS;exact Bo zD MS.1 q hlq
     clear hc2 MS;have hb3:b2<wr.heap.size:=Nat.lt_of_lt_of_le hb2 hQ.size;have pW:Hid (t+TW (ds.getD q zD)=m+Oo ds (q+1)):=Lib.hid (by rw[Oo,ht.out];omega);clear ht;obtain⟨d,hd⟩:∃d,d=ds.getD q zD:=⟨_,rfl⟩;rw[<-hd] at AT VD pW;clear hd;have KD:=Zh VD;obtain⟨x0,x1,x2,x3⟩:=d;obtain⟨A0,-,-,-⟩:=AT;simp only at A0 KD;have j1:(0:Int)<=(q:Int):=Int.natCast_nonneg _;have j2:(q:Int)<(ds.length:Int):=by omega
     rcases KD with rfl|rfl|rfl|rfl
     all_goals
      go_wp2;go_roundw;case rel=>exact⟨q+1,_,by omega,rfl,by go_num,Lib.hid (by have:=pW.out;simp[TW] at this;omega),by omega,by omega,hQ.alloc _⟩
      case measure=>simp[intOf];omega
    ·
     obtain rfl:q=ds.length:=by omega
     go_wp2;go_roundw;case rel=>exact⟨k+1,t,by omega,rfl,by go_num,Lib.hid (by rw[Ro,<-MB.out,ht.out,hm.out]),t0,by omega,hK.trans hQ⟩
     case measure=>simp[intOf];omega
  ·
   obtain rfl:k=AA.length:=by omega
   go_wp2;go_ret;exact⟨by rw[hm.out];rfl,hK⟩
theorem SH:(madeCells (Value.int .i64 0).cells (10*1)).toList=((List.replicate 10 (0:Int)).map (Value.int .i64)):=by
 rw[Nat.mul_one,List.map_replicate];exact toList_madeCells_one _ _
theorem Y5 {i:Nat}{own o:List Int}{ds:List Dd}{k:Nat}(h:Cq i own ds k=some o)(hg:(ds.getD k zD).2.2.2=0):Cq i own ds (k+1)=some o:=by
 rw[Cq,h];simp only[hg,if_true]
theorem gQ {i:Nat}{own o:List Int}{ds:List Dd}{k:Nat}(h:Cq i own ds k=some o)(hg:(ds.getD k zD).2.2.2≠0)
  (hb:o.getD (ds.getD k zD).2.2.2.toNat 0≠0/\(o.getD (ds.getD k zD).2.2.2.toNat 0≠(i:Int)+1\/k=0\/(ds.getD (k-1) zD).2.2.2≠(ds.getD k zD).2.2.2)):Cq i own ds (k+1)=none:=by
 rw[Cq,h];simp only;rw[if_neg hg,if_pos hb]
theorem gU {i:Nat}{own o:List Int}{ds:List Dd}{k:Nat}(h:Cq i own ds k=some o)(hg:(ds.getD k zD).2.2.2≠0)
  (hb:¬(o.getD (ds.getD k zD).2.2.2.toNat 0≠0/\(o.getD (ds.getD k zD).2.2.2.toNat 0≠(i:Int)+1\/k=0\/(ds.getD (k-1) zD).2.2.2≠(ds.getD k zD).2.2.2))):
  Cq i own ds (k+1)=some (o.set (ds.getD k zD).2.2.2.toNat ((i:Int)+1)):=by
 rw[Cq,h];simp only;rw[if_neg hg,if_neg hb]
theorem P0 {AA:List (List Dd)}{k:Nat}{own:List Int}(hk:k<AA.length)(h:Eg AA k=some own){q:Nat}(hq:q<=(AA.getD k []).length)(hn:Cq k own (AA.getD k []) q=none):KE AA=false:=by
 have h1:Eg AA (k+1)=none:=by
  rw[Eg,h];exact LB hn _ hq
 rw[KE,LC h1 _ hk];rfl
theorem QO (w:World)(v:Value)(AA:List (List Dd))(h:JJ w v AA)(hx:AA.length<=3)(hok:∀i,i<AA.length->GI (AA.getD i [])=true):
  Calls Tryz.prog 47 #[v] w fun e w'=>e = .returned (.bool (KE AA))/\AC w w':=by
 obtain⟨a,c,rfl,h⟩:=h;obtain⟨i0,hi,hz0,hz1,hz2⟩:=info_parts Tryz.GU;go_enter Tryz.func47,Tryz.ntmps47
 go_wp2_with (at_make;refine wpList_make_full _ rfl _ _ 28 rfl w.heap.size 2 i0 (.int .i64 0) 1 Tryz.underlying28 hi hz0 hz1 .i64 .i64 _ _ 10 rfl rfl rfl rfl (by rw[hz2];omega) (by unfold maxLen;omega) (Nat.le_refl _) ?_;intro w1 hown hgrow)
 have k1:AC w w1:=(AC.refl w).grown hgrow (by simp)
 have rb:DN w1 w.heap.size (List.replicate 10 0):=by
  have o:BM w1 w.heap.size (.slice (some ⟨w.heap.size,0,none⟩) 10 10) (List.replicate 10 0):=by
   rw[SH] at hown;unfold BM;simpa using hown
  rcases o.row with ⟨e,_⟩|⟨g,cap,e,_,hr⟩
  . cases e
  ·
   have e1:=congrArg Value.ownBlock e;simp[Value.ownBlock] at e1;rw[e1];exact hr
 clear hgrow hown hi hz0 hz1 hz2;go_loopw [4] (fun i wr=>∃k:Nat,∃own:List Int,k<=AA.length/\i = .int .i64 k/\Hid (Eg AA k=some own)/\DN wr w.heap.size own/\AC w wr) (fun i _=>AA.length-(intOf i).toNat)
 case atStart=>exact⟨0,List.replicate 10 0,Nat.zero_le _,rfl,Lib.hid rfl,rb,k1⟩
 case round=>
  obtain⟨k,own,hk,rfl,hG,hR,hK⟩:=hrel;clear rb k1;by_cases hlt:k<AA.length
  ·
   rcases h with h|⟨b,o,rfl,hb,hc⟩
   . exfalso;rw[h] at hlt;simp at hlt
   obtain⟨u,e1,r1⟩:=hc k hlt;have MS:=hok k hlt;clear hc hok;obtain⟨ds,hds⟩:∃ds,ds=AA.getD k []:=⟨_,rfl⟩;have MB:=Lib.hid hds;rw[<-hds] at r1 MS;clear hds;obtain⟨ai,ci,rfl,r1⟩:=r1;have d1:=(hK.cell hb).trans e1;have i1:(0:Int)<=(k:Int):=Int.natCast_nonneg _;have i2:(k:Int)<(AA.length:Int):=by omega
   have hl5:ds.length<=5:=by simp[GI] at MS;omega
   go_wp2;go_loopw [5] (fun i wq=>∃q:Nat,∃ow:List Int,q<=ds.length/\i = .int .i64 q/\Hid (Cq k own ds q=some ow)/\DN wq w.heap.size ow/\AC w wq) (fun i _=>ds.length-(intOf i).toNat)
   case atStart=>exact⟨0,own,Nat.zero_le _,rfl,Lib.hid rfl,hR,hK⟩
   case round=>
    obtain⟨q,ow,hq,rfl,hQ,hS,hL⟩:=hrel;have d1:=(hL.cell hb).trans e1;by_cases hlq:q<ds.length
    ·
     rcases r1 with h|⟨b2,o2,rfl,hb2,hc2⟩
     . exfalso;rw[h] at hlq;simp at hlq
     have A3:=((hc2 q hlq).keep hb2 hL).2.2.2
     have VD:Fm (ds.getD q zD)=true:=by
      simp only[GI,Bool.and_eq_true] at MS;exact Bo zD MS.1 q hlq
     have g09:0<=(ds.getD q zD).2.2.2/\(ds.getD q zD).2.2.2<=9:=Wf VD;clear MS VD;have AP:0<q->wr.cell? ⟨b2,o2+(q-1)*4+3,none⟩=some (.int .i64 (ds.getD (q-1) zD).2.2.2):=fun _=>((hc2 (q-1) (by omega)).keep hb2 hL).2.2.2
     clear hc2;have S1:=@Y5 k own ow ds q hQ.out;have S2:=@gQ k own ow ds q hQ.out;have S3:=@gU k own ow ds q hQ.out;have hlen:ow.length=10:=(KH hQ.out).trans (Mu hG.out);clear hQ;obtain⟨g,hg⟩:∃g:Nat,(ds.getD q zD).2.2.2=(g:Int):=⟨_,(Int.toNat_of_nonneg g09.1).symm⟩;rw[hg] at A3 g09 S1 S2 S3;rw[Int.toNat_natCast] at S2 S3;clear hg;have hg9:g<10:=by omega
     obtain⟨p,hp⟩:∃p:Int,p=(ds.getD (q-1) zD).2.2.2:=⟨_,rfl⟩;rw[<-hp] at AP S2 S3;clear hp;have Y7:=hS.cell (j:=g) (by omega);obtain⟨y,hy⟩:∃y:Int,y=ow.getD g 0:=⟨_,rfl⟩;rw[<-hy] at Y7 S2 S3;clear hy g09;have j1:(0:Int)<=(q:Int):=Int.natCast_nonneg _;have j2:(q:Int)<(ds.length:Int):=by omega
     have j3:(0:Int)<=(g:Int):=Int.natCast_nonneg _;have j4:(g:Int)<10:=by omega
     have hbq:b<wr.heap.size:=Nat.lt_of_lt_of_le hb hL.size;have hb3:b2<wr.heap.size:=Nat.lt_of_lt_of_le hb2 hL.size;by_cases g0:g=0
     ·
      have eg:((g:Int)==0)=true:=by simp[g0]
      have HE:=Lib.hid (S1 (by omega));clear S1 S2 S3 AP;go_wp2;go_roundw;case rel=>exact⟨q+1,ow,by omega,by go_num,HE,hS,hL⟩
      case measure=>simp[intOf];omega
     ·
      have HN:Hid ((g:Int)≠0):=Lib.hid (by omega);have eg:((g:Int)==0)=false:=by simp;omega
      have hF:=hS.free g;clear S1;by_cases y0:y=0
      ·
       subst y0;have HE:=Lib.hid (S3 HN.out (by simp));clear S2 S3 AP;go_wp2;go_roundw;case rel=>exact⟨q+1,_,by omega,by go_num,HE,hS.set g _,hL.set (Nat.le_refl _) g _⟩
       case measure=>simp[intOf];omega
      ·
       have ey:(y != 0)=true:=by simp[y0]
       by_cases yk:y=(k:Int)+1
       ·
        subst yk;have ek:((k:Int)+1 != (k:Int)+1)=false:=by simp
        by_cases q0:q=0
        ·
         have eq:((q:Int)==0)=true:=by simp[q0]
         have HE:Hid (KE AA=false):=Lib.hid (P0 hlt hG.out (q:=q+1) (by rw[<-MB.out];omega) (by rw[<-MB.out];exact S2 HN.out ⟨y0,.inr (.inl q0)⟩));clear S2 S3 AP y0 q0;go_wp2;go_ret;exact⟨by rw[HE.out];rfl,hL⟩
        ·
         have eq:((q:Int)==0)=false:=by simp;omega
         have AP:=AP (by omega);obtain⟨r,rfl⟩:∃r:Nat,q=r+1:=⟨q-1,by omega⟩;rw[Nat.add_sub_cancel] at AP;have j5:(0:Int)<=(r:Int):=Int.natCast_nonneg _;have j6:(r:Int)<(ds.length:Int):=by omega
         by_cases pg:p=(g:Int)
         ·
          subst pg;have ep:((g:Int) != (g:Int))=false:=by simp
          have HE:=Lib.hid (S3 HN.out (by simp));clear S2 S3 y0;go_wp2;go_roundw;case rel=>exact⟨r+1+1,_,by omega,by go_num,HE,hS.set g _,hL.set (Nat.le_refl _) g _⟩
          case measure=>simp[intOf];omega
         ·
          have ep:(p != (g:Int))=true:=by simp[pg]
          have HE:Hid (KE AA=false):=Lib.hid (P0 hlt hG.out (q:=r+1+1) (by rw[<-MB.out];omega) (by rw[<-MB.out];exact S2 HN.out ⟨y0,.inr (.inr pg)⟩));clear S2 S3 y0 pg;go_wp2;go_ret;exact⟨by rw[HE.out];rfl,hL⟩
       ·
        have ek:(y != (k:Int)+1)=true:=by simp[yk]
        have HE:Hid (KE AA=false):=Lib.hid (P0 hlt hG.out (q:=q+1) (by rw[<-MB.out];omega) (by rw[<-MB.out];exact S2 HN.out ⟨y0,.inl yk⟩));clear S2 S3 AP yk y0;go_wp2;go_ret;exact⟨by rw[HE.out];rfl,hL⟩
    ·
     obtain rfl:q=ds.length:=by omega
     go_wp2;go_roundw;case rel=>exact⟨k+1,ow,by omega,by go_num,Lib.hid (by rw[Eg,hG.out,<-MB.out];exact hQ.out),hS,hL⟩
     case measure=>simp[intOf];omega
  ·
   obtain rfl:k=AA.length:=by omega
   go_wp2;go_ret;exact⟨by rw[KE,hG.out];rfl,hK⟩
end Go.Proofs.YtnmelakgmgenjaaGreat
