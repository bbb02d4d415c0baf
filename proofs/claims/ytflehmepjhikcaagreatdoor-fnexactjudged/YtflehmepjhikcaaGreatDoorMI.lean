/- Gathered texts. -/
import Derived.Test.YtflehmepjhikcaaGreatDoorMH
import Derived.Outline
import Derived.Lib.Hide
import Derived.RegionTactic
import Derived.Deep.QuietTactic
import Derived.BigQuiet
import Derived.Maps.AppendAt
import Derived.Laws.OwnMore
import Derived.Deep.Cut
import Derived.Laws.AppendOwn
import Derived.OwnWalk
import Derived.Deep.RegionHeld3
set_option maxRecDepth 100000
set_option maxHeartbeats 8000000
namespace Go.Proofs.YtflehmepjhikcaaGreatDoor
open Go.ChangeShapes Go.WideShapes Go.ChangeAt Go.RowKit
abbrev AI:=@Lib.hid
abbrev KAe:=@wpList_append_own_at
abbrev KA3:=@info_parts
abbrev KA7:=@bodyPost_ret
abbrev KBW:=@World.grownBy.refl
abbrev KC2:=@List.getElem?_cons_succ
abbrev KDF:=@List.mem_flatMap
section
section
variable {w w1 w2 w':World} {m D:Nat} {v:BV} {nv rv:List Value} {bs N:Nat} {AA:List (List Dd)} {b:Bd}
theorem AU.Zr (h:AU w m D v nv rv bs N AA b){u:Value}{zs:List Int}(hg:w.grownBy w2 v.P.ownBlock)(hb:u.ownBlock=v.P.ownBlock\/u.ownBlock=some w.heap.size\/u.ownBlock=none)(ho:A8 w2 m u zs):
  AU (w2.setCell ⟨D,1,none⟩ u) m D { v with P:=u } nv rv bs N AA { b with AM:=zs }/\w2.cell? ⟨D,1,none⟩=some v.P/\w2.frozen? ⟨D,1,none⟩=false:=by
 have F1:=h.Ag.set (i:= .AM) trivial (r:=Bk zs u) hg hb ho;have o1:(Hi D v).own w2 m:=F1.own .bd trivial;obtain⟨q1,q2,q3⟩:=Jl (k:=1) (x:=u) (v':={ v with P:=u }) o1 rfl;have F2:=F1.set (i:= .bd) trivial (r:=Hi D { v with P:=u }) q2 (.inl rfl) q1;have hf:∀j,Ay D { v with P:=u } nv rv { b with AM:=zs } j=JR (JR (Ay D v nv rv b) .AM (Bk zs u)) .bd (Hi D { v with P:=u }) j:=fun j=>by cases j<;>rfl
 refine⟨h.mk2 (F2.congr (fun _ hj=>hj) (fun j _=>hf j)) h.ln h.lr rfl (KAU hg.size q2.size) ((h.work.kept hg (fun g e=>h.out .AM trivial g e)).kept q2 h.nD) (fun j hj k hk=>?_),(h.stay .AM trivial (by simp) hg 1).trans h.cells.2.1,q3⟩;by_cases e:j = .AM
 ·
  subst e;have hk:u.ownBlock=some k:=hk;rcases hb with e|e|e
  . exact .inl ⟨.AM,trivial,by rw[<-hk,e];rfl⟩
  . rw[e] at hk;exact .inr (KBP (KAI hk))
  . rw[e] at hk;cases hk
 ·
  refine .inl ⟨j,hj,?_⟩;cases j<;>first|exact hk|exact absurd rfl e
theorem AU.Zq (h:AU w m D v nv rv bs N AA b){u:Value}{zs:List Int}(hg:w.grownBy w2 v.L.ownBlock)(hb:u.ownBlock=v.L.ownBlock\/u.ownBlock=some w.heap.size\/u.ownBlock=none)(ho:A8 w2 m u zs):
  AU (w2.setCell ⟨D,2,none⟩ u) m D { v with L:=u } nv rv bs N AA { b with AQ:=zs }/\w2.cell? ⟨D,2,none⟩=some v.L/\w2.frozen? ⟨D,2,none⟩=false:=by
 have F1:=h.Ag.set (i:= .AQ) trivial (r:=Bk zs u) hg hb ho;have o1:(Hi D v).own w2 m:=F1.own .bd trivial;obtain⟨q1,q2,q3⟩:=Jl (k:=2) (x:=u) (v':={ v with L:=u }) o1 rfl;have F2:=F1.set (i:= .bd) trivial (r:=Hi D { v with L:=u }) q2 (.inl rfl) q1;have hf:∀j,Ay D { v with L:=u } nv rv { b with AQ:=zs } j=JR (JR (Ay D v nv rv b) .AQ (Bk zs u)) .bd (Hi D { v with L:=u }) j:=fun j=>by cases j<;>rfl
 refine⟨h.mk2 (F2.congr (fun _ hj=>hj) (fun j _=>hf j)) h.ln h.lr rfl (KAU hg.size q2.size) ((h.work.kept hg (fun g e=>h.out .AQ trivial g e)).kept q2 h.nD) (fun j hj k hk=>?_),(h.stay .AQ trivial (by simp) hg 2).trans h.cells.2.2.1,q3⟩;by_cases e:j = .AQ
 ·
  subst e;have hk:u.ownBlock=some k:=hk;rcases hb with e|e|e
  . exact .inl ⟨.AQ,trivial,by rw[<-hk,e];rfl⟩
  . rw[e] at hk;exact .inr (KBP (KAI hk))
  . rw[e] at hk;cases hk
 ·
  refine .inl ⟨j,hj,?_⟩;cases j<;>first|exact hk|exact absurd rfl e
theorem AU.Zs (h:AU w m D v nv rv bs N AA b){u:Value}{zs:List Int}(hg:w.grownBy w2 v.X.ownBlock)(hb:u.ownBlock=v.X.ownBlock\/u.ownBlock=some w.heap.size\/u.ownBlock=none)(ho:A8 w2 m u zs):
  AU (w2.setCell ⟨D,4,none⟩ u) m D { v with X:=u } nv rv bs N AA { b with AK:=zs }/\w2.cell? ⟨D,4,none⟩=some v.X/\w2.frozen? ⟨D,4,none⟩=false:=by
 have F1:=h.Ag.set (i:= .AK) trivial (r:=Bk zs u) hg hb ho;have o1:(Hi D v).own w2 m:=F1.own .bd trivial;obtain⟨q1,q2,q3⟩:=Jl (k:=4) (x:=u) (v':={ v with X:=u }) o1 rfl;have F2:=F1.set (i:= .bd) trivial (r:=Hi D { v with X:=u }) q2 (.inl rfl) q1;have hf:∀j,Ay D { v with X:=u } nv rv { b with AK:=zs } j=JR (JR (Ay D v nv rv b) .AK (Bk zs u)) .bd (Hi D { v with X:=u }) j:=fun j=>by cases j<;>rfl
 refine⟨h.mk2 (F2.congr (fun _ hj=>hj) (fun j _=>hf j)) h.ln h.lr rfl (KAU hg.size q2.size) ((h.work.kept hg (fun g e=>h.out .AK trivial g e)).kept q2 h.nD) (fun j hj k hk=>?_),(h.stay .AK trivial (by simp) hg 4).trans h.cells.2.2.2.2.1,q3⟩;by_cases e:j = .AK
 ·
  subst e;have hk:u.ownBlock=some k:=hk;rcases hb with e|e|e
  . exact .inl ⟨.AK,trivial,by rw[<-hk,e];rfl⟩
  . rw[e] at hk;exact .inr (KBP (KAI hk))
  . rw[e] at hk;cases hk
 ·
  refine .inl ⟨j,hj,?_⟩;cases j<;>first|exact hk|exact absurd rfl e
end
structure ED (w:World)(bs N:Nat)(v:Value)(wv:List Value)(AA:List (List Dd)):Prop where
 ll:Ch 72 Th w bs v wv AA
 lt:∀o,FI wv.length o->∀k,(Lk 72 Th v wv AA o).v.ownBlock=some k->k<N
theorem ED.kept {w w':World}{bs N:Nat}{v:Value}{wv:List Value}{AA:List (List Dd)}(h:ED w bs N v wv AA){row:Option Nat}(hg:w.grownBy w' row)(hr:∀g,row=some g->g<bs\/N<=g):ED w' bs N v wv AA:=
 ⟨⟨h.ll.Ag.far hg (fun i hi=>by
  cases e:(Lk 72 Th v wv AA i).v.ownBlock with
  |none=>exact .inl rfl
  |some k=>exact .inr (fun e'=>by have:=(h.ll.Ag.lt hi k e).1;have:=h.lt i hi k e;have:=hr k e'.symm;omega)),h.ll.len⟩,h.lt⟩
theorem ED.keep {w w':World}{bs N:Nat}{v:Value}{wv:List Value}{AA:List (List Dd)}(h:ED w bs N v wv AA)(k:AC w w'):ED w' bs N v wv AA:=h.kept k.grownBy (by simp)
theorem Cg.mq {w:World}{base N:Nat}{v:Value}{V:Nat->Value}{AA:List (List Dd)}(h:Cg w base N v V AA):ED w base N v ((List.range AA.length).map V) AA:=by
 have e:∀i,i<AA.length->((List.range AA.length).map V).getD i AF=V i:=fun i hi=>by rw[IT,Fu V _ i hi];rfl
 have hl:((List.range AA.length).map V).length=AA.length:=by simp
 have at0:∀i,FI ((List.range AA.length).map V).length (some i)->i<AA.length:=fun i hi=>by rw[<-hl];exact hi
 refine⟨⟨⟨fun o ho=>?_,fun o o' ho ho' hne=>?_⟩,hl⟩,fun o ho k hk=>?_⟩
 ·
  cases o with
  |none=>
   show w.ownsRow base _ 1 v ((List.range AA.length).map V).length ((List.range AA.length).map V);rw[hl];exact h.row
  |some i=>
   show w.ownsRow base _ 4 (((List.range AA.length).map V).getD i AF) (AA.getD i []).length _;rw[e i (at0 i ho)];exact h.each i (at0 i ho)
 ·
  cases o with
  |none=>
   cases o' with
   |none=>exact absurd rfl hne
   |some i=>
    show v.ownBlock=none\/v.ownBlock≠(((List.range AA.length).map V).getD i AF).ownBlock;rw[e i (at0 i ho')]
    cases hv:(V i).ownBlock with
    |none=>cases v.ownBlock<;>simp
    |some k=>exact .inr (h.out i (at0 i ho') k hv)
  |some i=>
   show (((List.range AA.length).map V).getD i AF).ownBlock=none\/(((List.range AA.length).map V).getD i AF).ownBlock≠_;rw[e i (at0 i ho)]
   cases hv:(V i).ownBlock with
   |none=>exact .inl rfl
   |some k=>
    right
    cases o' with
    |none=>exact fun q=>h.out i (at0 i ho) k hv q.symm
    |some j=>
     show _≠(((List.range AA.length).map V).getD j AF).ownBlock;rw[e j (at0 j ho')];have hij:i≠j:=fun q=>hne (by rw[q])
     rcases KCQ i j with q|q
     . exact fun x=>h.apart i j q (at0 j ho') k hv x.symm
     . exact fun x=>h.apart j i (by omega) (at0 i ho) k x.symm hv
 ·
  cases o with
  |none=>exact h.lt k hk
  |some i=>
   have hk:(((List.range AA.length).map V).getD i AF).ownBlock=some k:=hk;rw[e i (at0 i ho)] at hk;exact h.ja i (at0 i ho) k hk
theorem NQ {a b c:World}{row r2:Option Nat}(h:a.grownBy b row)(k:b.grownBy c r2)(hr:∀g,r2=some g->a.heap.size<=g):a.grownBy c row:=
 ⟨k.os.trans h.os,k.tape.trans h.tape,k.output.trans h.output,KAU h.size k.size,fun q hq hne=>(k.block q (KAC hq h.size) (fun e=>by have:=hr q e.symm;omega)).trans (h.block q hq hne)⟩
theorem UO {a b c:World}{row:Option Nat}(h:a.grownBy b row)(k:b.grownBy c row):a.grownBy c row:=
 ⟨k.os.trans h.os,k.tape.trans h.tape,k.output.trans h.output,KAU h.size k.size,fun q hq hne=>(k.block q (KAC hq h.size) hne).trans (h.block q hq hne)⟩
theorem TA {w:World}{bs N:Nat}{v:Value}{AA:List (List Dd)}(h:Jh w bs N v AA)(ht:N<=w.heap.size)(m:Nat):BT w m ⟨v,AF,AF,AF,AF,AF,AF,AF⟩ [] [] bs N AA ⟨[],[],[],[],[],[],[]⟩:=by
 have hv:∀i,BW [] [] i->i≠.bd->(Ay 0 ⟨v,AF,AF,AF,AF,AF,AF,AF⟩ [] [] ⟨[],[],[],[],[],[],[]⟩ i).v.ownBlock=none:=fun i hi hb=>by
  cases i with
  |bd=>exact absurd rfl hb
  |nt c=>exact absurd (show c<0 from hi) (by omega)
  |rw c=>exact absurd (show c<0 from hi) (by omega)
  |_=>rfl
 refine⟨⟨fun i hi=>?_,fun i j hi _ _ => .inl (hv i hi.1 hi.2)⟩,rfl,rfl,h,ht,fun i hi hb k hk=>by rw[hv i hi hb] at hk;cases hk⟩;obtain⟨hi,hb⟩:=hi
 cases i with
 |bd=>exact absurd rfl hb
 |nt c=>exact absurd (show c<0 from hi) (by omega)
 |rw c=>exact absurd (show c<0 from hi) (by omega)
 |_=>exact⟨rfl,.inl ⟨rfl,rfl⟩⟩
structure NB (wb w:World)(m D:Nat)(v:BV)(nv rv:List Value)(bs N:Nat)(AA:List (List Dd))(b:Bd):Prop where
 ob:AU w m D v nv rv bs N AA b
 lo:∀i,BW nv rv i->i≠.bd->∀k,(Ay D v nv rv b i).v.ownBlock=some k->wb.heap.size<=k
 sm:wb.grownBy w (some D)
section
variable {wb w w1 w2 w':World} {m D:Nat} {v:BV} {nv rv wv:List Value} {bs N:Nat} {AA:List (List Dd)} {b:Bd}
theorem NB.start {W:Value}(h:AU w m D ⟨W,AF,AF,AF,AF,AF,AF,AF⟩ [] [] bs N AA ⟨[],[],[],[],[],[],[]⟩):NB w w m D ⟨W,AF,AF,AF,AF,AF,AF,AF⟩ [] [] bs N AA ⟨[],[],[],[],[],[],[]⟩:=by
 refine⟨h,fun i hi hb k hk=>?_,KBW _ _⟩
 cases i with
 |bd=>exact absurd rfl hb
 |nt c=>exact absurd (show c<0 from hi) (by omega)
 |rw c=>exact absurd (show c<0 from hi) (by omega)
 |_=>exact absurd (show (none:Option Nat)=some k from hk) (by simp)
theorem NB.keep (h:NB wb w m D v nv rv bs N AA b)(k:AC w w'):NB wb w' m D v nv rv bs N AA b:=⟨h.ob.keep k,h.lo,NQ h.sm k.grownBy (by simp)⟩
theorem NB.put (h:NB wb w m D v nv rv bs N AA b)(i:BI)(hi:BW nv rv i)(hb:i≠.bd)(hg:w.grownBy w2 (Ay D v nv rv b i).v.ownBlock)(k:Nat)(u:Value):wb.grownBy (w2.setCell ⟨D,k,none⟩ u) (some D):=
 UO (NQ h.sm hg (fun g e=>h.lo i hi hb g e)) (Ad w2 D k u)
theorem NB.Zr (h:NB wb w m D v nv rv bs N AA b){u:Value}{zs:List Int}(hg:w.grownBy w2 v.P.ownBlock)(hb:u.ownBlock=v.P.ownBlock\/u.ownBlock=some w.heap.size)(ho:A8 w2 m u zs):
  NB wb (w2.setCell ⟨D,1,none⟩ u) m D { v with P:=u } nv rv bs N AA { b with AM:=zs }/\w2.cell? ⟨D,1,none⟩=some v.P/\w2.frozen? ⟨D,1,none⟩=false:=by
 obtain⟨h1,h2,h3⟩:=h.ob.Zr hg (by rcases hb with e|e;exact .inl e;exact .inr (.inl e)) ho;refine⟨⟨h1,fun i hi hb' k hk=>?_,h.put .AM trivial (by simp) hg 1 u⟩,h2,h3⟩;by_cases e:i = .AM
 ·
  subst e;have hk:u.ownBlock=some k:=hk;rcases hb with e|e
  . exact h.lo .AM trivial (by simp) k (e.symm.trans hk)
  ·
   rw[e] at hk;have:=KAI hk;have:=h.sm.size;omega
 ·
  refine h.lo i hi hb' k ?_;cases i<;>first|exact hk|exact absurd rfl e|exact absurd rfl hb'
theorem NB.Zq (h:NB wb w m D v nv rv bs N AA b){u:Value}{zs:List Int}(hg:w.grownBy w2 v.L.ownBlock)(hb:u.ownBlock=v.L.ownBlock\/u.ownBlock=some w.heap.size)(ho:A8 w2 m u zs):
  NB wb (w2.setCell ⟨D,2,none⟩ u) m D { v with L:=u } nv rv bs N AA { b with AQ:=zs }/\w2.cell? ⟨D,2,none⟩=some v.L/\w2.frozen? ⟨D,2,none⟩=false:=by
 obtain⟨h1,h2,h3⟩:=h.ob.Zq hg (by rcases hb with e|e;exact .inl e;exact .inr (.inl e)) ho;refine⟨⟨h1,fun i hi hb' k hk=>?_,h.put .AQ trivial (by simp) hg 2 u⟩,h2,h3⟩;by_cases e:i = .AQ
 ·
  subst e;have hk:u.ownBlock=some k:=hk;rcases hb with e|e
  . exact h.lo .AQ trivial (by simp) k (e.symm.trans hk)
  ·
   rw[e] at hk;have:=KAI hk;have:=h.sm.size;omega
 ·
  refine h.lo i hi hb' k ?_;cases i<;>first|exact hk|exact absurd rfl e|exact absurd rfl hb'
theorem NB.Zs (h:NB wb w m D v nv rv bs N AA b){u:Value}{zs:List Int}(hg:w.grownBy w2 v.X.ownBlock)(hb:u.ownBlock=v.X.ownBlock\/u.ownBlock=some w.heap.size)(ho:A8 w2 m u zs):
  NB wb (w2.setCell ⟨D,4,none⟩ u) m D { v with X:=u } nv rv bs N AA { b with AK:=zs }/\w2.cell? ⟨D,4,none⟩=some v.X/\w2.frozen? ⟨D,4,none⟩=false:=by
 obtain⟨h1,h2,h3⟩:=h.ob.Zs hg (by rcases hb with e|e;exact .inl e;exact .inr (.inl e)) ho;refine⟨⟨h1,fun i hi hb' k hk=>?_,h.put .AK trivial (by simp) hg 4 u⟩,h2,h3⟩;by_cases e:i = .AK
 ·
  subst e;have hk:u.ownBlock=some k:=hk;rcases hb with e|e
  . exact h.lo .AK trivial (by simp) k (e.symm.trans hk)
  ·
   rw[e] at hk;have:=KAI hk;have:=h.sm.size;omega
 ·
  refine h.lo i hi hb' k ?_;cases i<;>first|exact hk|exact absurd rfl e|exact absurd rfl hb'
theorem NB.VY (h:NB wb w m D v nv rv bs N AA b){u:Value}{zs:List Int}(hg:w.grownBy w2 v.S.ownBlock)(hb:u.ownBlock=v.S.ownBlock\/u.ownBlock=some w.heap.size)(ho:A8 w2 m u zs):
  NB wb (w2.setCell ⟨D,5,none⟩ u) m D { v with S:=u } nv rv bs N AA { b with sn:=zs }/\w2.cell? ⟨D,5,none⟩=some v.S/\w2.frozen? ⟨D,5,none⟩=false:=by
 obtain⟨h1,h2,h3⟩:=h.ob.VY hg (by rcases hb with e|e;exact .inl e;exact .inr (.inl e)) ho;refine⟨⟨h1,fun i hi hb' k hk=>?_,h.put .sn trivial (by simp) hg 5 u⟩,h2,h3⟩;by_cases e:i = .sn
 ·
  subst e;have hk:u.ownBlock=some k:=hk;rcases hb with e|e
  . exact h.lo .sn trivial (by simp) k (e.symm.trans hk)
  ·
   rw[e] at hk;have:=KAI hk;have:=h.sm.size;omega
 ·
  refine h.lo i hi hb' k ?_;cases i<;>first|exact hk|exact absurd rfl e|exact absurd rfl hb'
theorem NB.VX (h:NB wb w m D v nv rv bs N AA b){u:Value}{zs:List Int}(hg:w.grownBy w2 v.F.ownBlock)(hb:u.ownBlock=v.F.ownBlock\/u.ownBlock=some w.heap.size)(ho:A8 w2 m u zs):
  NB wb (w2.setCell ⟨D,6,none⟩ u) m D { v with F:=u } nv rv bs N AA { b with fr:=zs }/\w2.cell? ⟨D,6,none⟩=some v.F/\w2.frozen? ⟨D,6,none⟩=false:=by
 obtain⟨h1,h2,h3⟩:=h.ob.VX hg (by rcases hb with e|e;exact .inl e;exact .inr (.inl e)) ho;refine⟨⟨h1,fun i hi hb' k hk=>?_,h.put .fr trivial (by simp) hg 6 u⟩,h2,h3⟩;by_cases e:i = .fr
 ·
  subst e;have hk:u.ownBlock=some k:=hk;rcases hb with e|e
  . exact h.lo .fr trivial (by simp) k (e.symm.trans hk)
  ·
   rw[e] at hk;have:=KAI hk;have:=h.sm.size;omega
 ·
  refine h.lo i hi hb' k ?_;cases i<;>first|exact hk|exact absurd rfl e|exact absurd rfl hb'
theorem NB.TC (h:NB wb w m D v nv rv bs N AA b){u u':Value}{ns:List Nt}(k1:AC w w1)(hu:∀k,u.ownBlock=some k->w.heap.size<=k)(ou:B5 cN 155 3 w1 m u ns)
  (hg:w1.grownBy w2 v.N.ownBlock) (hb:u'.ownBlock=v.N.ownBlock\/u'.ownBlock=some w1.heap.size) (ho:(Em 151 (nv++[u]) u').own w2 m):
  NB wb (w2.setCell ⟨D,3,none⟩ u') m D { v with N:=u' } (nv++[u]) rv bs N AA { b with AJ:=b.AJ++[ns] }/\w2.cell? ⟨D,3,none⟩=some v.N/\w2.frozen? ⟨D,3,none⟩=false:=by
 obtain⟨h1,h2,h3⟩:=h.ob.TC k1 hu ou hg (by rcases hb with e|e;exact .inl e;exact .inr (.inl e)) ho;have hs:=h.sm.size;have hs1:=k1.size;refine⟨⟨h1,fun i hi hb' k hk=>?_,(h.keep k1).put .AJ trivial (by simp) hg 3 u'⟩,h2,h3⟩
 cases i with
 |bd=>exact absurd rfl hb'
 |AJ=>
  have hk:u'.ownBlock=some k:=hk;rcases hb with e|e
  . exact h.lo .AJ trivial (by simp) k (e.symm.trans hk)
  ·
   rw[e] at hk;have:=KAI hk;omega
 |nt q=>
  have hk:((nv++[u]).getD q AF).ownBlock=some k:=hk;rw[Eu] at hk;by_cases e:q=nv.length
  . rw[KAP e] at hk;have:=hu k hk;omega
  ·
   rw[KAQ e] at hk;have hq:q<(nv++[u]).length:=hi;rw[KAJ] at hq;exact h.lo (.nt q) (show q<nv.length by simp at hq;omega) (by simp) k hk
 |rw q=>exact h.lo (.rw q) hi (by simp) k hk
 |AM=>exact h.lo .AM trivial (by simp) k hk
 |AQ=>exact h.lo .AQ trivial (by simp) k hk
 |AK=>exact h.lo .AK trivial (by simp) k hk
 |sn=>exact h.lo .sn trivial (by simp) k hk
 |fr=>exact h.lo .fr trivial (by simp) k hk
 |rws=>exact h.lo .rws trivial (by simp) k hk
theorem NB.LF (h:NB wb w m D v nv rv bs N AA b){u u':Value}{zs:List Int}(k1:AC w w1)(hu:∀k,u.ownBlock=some k->w.heap.size<=k)(ou:A8 w1 m u zs)
  (hg:w1.grownBy w2 v.R.ownBlock) (hb:u'.ownBlock=v.R.ownBlock\/u'.ownBlock=some w1.heap.size) (ho:(Em 25 (rv++[u]) u').own w2 m):
  NB wb (w2.setCell ⟨D,7,none⟩ u') m D { v with R:=u' } nv (rv++[u]) bs N AA { b with rws:=b.rws++[zs] }/\w2.cell? ⟨D,7,none⟩=some v.R/\w2.frozen? ⟨D,7,none⟩=false:=by
 obtain⟨h1,h2,h3⟩:=h.ob.LF k1 hu ou hg (by rcases hb with e|e;exact .inl e;exact .inr (.inl e)) ho;have hs:=h.sm.size;have hs1:=k1.size;refine⟨⟨h1,fun i hi hb' k hk=>?_,(h.keep k1).put .rws trivial (by simp) hg 7 u'⟩,h2,h3⟩
 cases i with
 |bd=>exact absurd rfl hb'
 |rws=>
  have hk:u'.ownBlock=some k:=hk;rcases hb with e|e
  . exact h.lo .rws trivial (by simp) k (e.symm.trans hk)
  ·
   rw[e] at hk;have:=KAI hk;omega
 |rw q=>
  have hk:((rv++[u]).getD q AF).ownBlock=some k:=hk;rw[Eu] at hk;by_cases e:q=rv.length
  . rw[KAP e] at hk;have:=hu k hk;omega
  ·
   rw[KAQ e] at hk;have hq:q<(rv++[u]).length:=hi;rw[KAJ] at hq;exact h.lo (.rw q) (show q<rv.length by simp at hq;omega) (by simp) k hk
 |nt q=>exact h.lo (.nt q) hi (by simp) k hk
 |AM=>exact h.lo .AM trivial (by simp) k hk
 |AQ=>exact h.lo .AQ trivial (by simp) k hk
 |AK=>exact h.lo .AK trivial (by simp) k hk
 |sn=>exact h.lo .sn trivial (by simp) k hk
 |fr=>exact h.lo .fr trivial (by simp) k hk
 |AJ=>exact h.lo .AJ trivial (by simp) k hk
theorem AU.all (ob:AU w m D v nv rv bs N AA b)(lw:ED w bs N v.W wv AA)(hm:m<=bs):GH w m v nv rv wv AA b:=by
 have fo:∀i,i≠BI.bd->Ay 0 v nv rv b i=Ay D v nv rv b i:=fun i hi=>by cases i<;>first|rfl|exact absurd rfl hi
 have wl:∀o,FI wv.length o->∀k,(Lk 72 Th v.W wv AA o).v.ownBlock=some k->bs<=k/\k<N:=fun o ho k hk=>⟨(lw.ll.Ag.lt ho k hk).1,lw.lt o ho k hk⟩
 have cross:∀i,BW nv rv i->∀o,FI wv.length o->(Ay D v nv rv b i).v.ownBlock=none\/(Ay D v nv rv b i).v.ownBlock≠(Lk 72 Th v.W wv AA o).v.ownBlock:=fun i hi o ho=>by
  cases e:(Ay D v nv rv b i).v.ownBlock with
  |none=>exact .inl rfl
  |some k=>exact .inr (fun q=>by have:=ob.out i hi k e;have:=wl o ho k q.symm;omega)
 have cross':∀o,FI wv.length o->∀i,BW nv rv i->(Lk 72 Th v.W wv AA o).v.ownBlock=none\/(Lk 72 Th v.W wv AA o).v.ownBlock≠(Ay D v nv rv b i).v.ownBlock:=fun o ho i hi=>by
  cases e:(Lk 72 Th v.W wv AA o).v.ownBlock with
  |none=>exact .inl rfl
  |some k=>exact .inr (fun q=>by have:=ob.out i hi k q.symm;have:=wl o ho k e;omega)
 refine⟨⟨fun j hj=>?_,fun i j hi hj hij=>?_⟩,ob.ln,ob.lr,lw.ll.len⟩
 ·
  cases j with
  |b i=>
   show (Ay 0 v nv rv b i).own w m;rw[fo i hj.2];exact ob.Ag.own i hj.1
  |wk=>exact Dp (lw.ll.Ag.own none trivial) hm
  |wd c=>exact Dp (lw.ll.Ag.own (some c) hj) hm
 ·
  cases i with
  |b i=>
   show (Ay 0 v nv rv b i).v.ownBlock=none\/(Ay 0 v nv rv b i).v.ownBlock≠_;rw[fo i hi.2]
   cases j with
   |b j=>
    show _\/_≠(Ay 0 v nv rv b j).v.ownBlock;rw[fo j hj.2];exact ob.Ag.apart i j hi.1 hj.1 (fun e=>hij (by rw[e]))
   |wk=>exact cross i hi.1 none trivial
   |wd c=>exact cross i hi.1 (some c) hj
  |wk=>
   cases j with
   |b j=>
    show _\/_≠(Ay 0 v nv rv b j).v.ownBlock;rw[fo j hj.2];exact cross' none trivial j hj.1
   |wk=>exact absurd rfl hij
   |wd c=>exact lw.ll.Ag.apart none (some c) trivial hj (by simp)
  |wd c=>
   cases j with
   |b j=>
    show _\/_≠(Ay 0 v nv rv b j).v.ownBlock;rw[fo j hj.2];exact cross' (some c) hi j hj.1
   |wk=>exact lw.ll.Ag.apart (some c) none hi trivial (by simp)
   |wd d=>exact lw.ll.Ag.apart (some c) (some d) hi hj (fun e=>hij (by have:=KAI e;rw[this]))
end
end
section
theorem E5 {w w':World}{m:Nat}{r:Rw}(h:r.own w m)(hb:∀g,r.v.ownBlock=some g->w'.heap[g]? = w.heap[g]?):r.own w' m:=by
 unfold Rw.own at h ⊢;refine⟨h.1,?_⟩;rcases h.2 with q|⟨g,cap,cur,e,hm,hg,rest⟩
 . exact .inl q
 . exact .inr ⟨g,cap,cur,e,hm,(hb g (by rw[e];rfl)).trans hg,rest⟩
theorem Jh.same {w w':World}{base N:Nat}{v:Value}{AA:List (List Dd)}(h:Jh w base N v AA)(hs:w.heap.size<=w'.heap.size)(hh:∀g,base<=g->g<N->w'.heap[g]? = w.heap[g]?):Jh w' base N v AA:=by
 obtain⟨a,cap,hv,h⟩:=h;refine⟨a,cap,hv,?_⟩;rcases h with h|⟨b,off,ha,h1,h2,h3,h4⟩
 . exact .inl h
 ·
  refine .inr ⟨b,off,ha,h1,h2,KAC h3 hs,fun i hi=>?_⟩;obtain⟨vi,e1,e2,e3⟩:=h4 i hi;refine⟨vi,(KAw (a:=⟨b,off+i,none⟩) (hh b h1 h2)).trans e1,?_,e3⟩;exact E5 (r:=Th (AA.getD i []) vi) e2 (fun g hg=>hh g (KAY e2 g hg).1 (e3 g hg))
theorem ED.same {w w':World}{bs N:Nat}{v:Value}{wv:List Value}{AA:List (List Dd)}(h:ED w bs N v wv AA)(hh:∀g,bs<=g->g<N->w'.heap[g]? = w.heap[g]?):ED w' bs N v wv AA:=
 ⟨⟨⟨fun o ho=>E5 (h.ll.Ag.own o ho) (fun g hg=>hh g (h.ll.Ag.lt ho g hg).1 (h.lt o ho g hg)),h.ll.Ag.apart⟩,h.ll.len⟩,h.lt⟩
theorem GU.part {ι:Type}{w w':World}{m:Nat}{live live':ι->Prop}{R R':ι->Rw}(S:ι->Prop)(h:GU w m live R)(hS:GU w' m (fun i=>live' i/\S i) R')(hl:∀i,¬S i->live' i->live i)(hR:∀i,¬S i->live' i->R' i=R i){F F':Nat->Prop}(t:Ai w w' F F')
  (hF:∀i,live i->¬S i->∀g,(R i).v.ownBlock=some g->¬F g) (hF':∀i,live' i->S i->∀g,(R' i).v.ownBlock=some g->F' g):GU w' m live' R':=by
 have far:∀i j,live' i->¬S i->live' j->S j->(R' i).v.ownBlock=none\/(R' i).v.ownBlock≠(R' j).v.ownBlock:=fun i j hi hni hj hsj=>by
  cases e:(R' i).v.ownBlock with
  |none=>exact .inl rfl
  |some g=>
   refine .inr (fun q=>?_);rw[hR i hni hi] at e;have h1:=hF i (hl i hni hi) hni g e;have h2:=(h.lt (hl i hni hi) g e).2;rcases t.news g (hF' j hj hsj g q.symm) with h3|h3
   . exact h1 h3
   . omega
 refine⟨fun i hi=>?_,fun i j hi hj hij=>?_⟩
 ·
  by_cases s:S i
  . exact hS.own i ⟨hi,s⟩
  ·
   rw[hR i s hi];exact E5 (h.own i (hl i s hi)) (fun g hg=>t.block g (h.lt (hl i s hi) g hg).2 (hF i (hl i s hi) s g hg))
 ·
  by_cases s:S i
  ·
   by_cases r:S j
   . exact hS.apart i j ⟨hi,s⟩ ⟨hj,r⟩ hij
   ·
    rcases far j i hj r hi s with q|q
    ·
     rw[q]
     cases (R' i).v.ownBlock with
     |none=>exact .inl rfl
     |some g=>exact .inr (by simp)
    . exact .inr (fun e=>q e.symm)
  ·
   by_cases r:S j
   . exact far i j hi s hj r
   . rw[hR i s hi,hR j r hj];exact h.apart i j (hl i s hi) (hl j r hj) hij
def Tj:BI->Prop
 | .AM=>True
 | .AQ=>True
 | .rws=>True
 | .rw _=>True
 |_=>False
def Dz (v:BV)(nv rv:List Value)(g:Nat):Prop:=∃i,BW nv rv i/\i≠.bd/\(vB 0 v nv rv i).ownBlock=some g
theorem VC {D:Nat}{v:BV}{nv rv:List Value}{g:Nat}(h:Bo D v nv rv g):Dz v nv rv g\/g=D:=by
 obtain⟨i,hi,e⟩:=h
 cases i with
 |bd=>exact .inr (KAI e).symm
 |AM=>exact .inl ⟨.AM,trivial,by simp,e⟩
 |AQ=>exact .inl ⟨.AQ,trivial,by simp,e⟩
 |AJ=>exact .inl ⟨.AJ,trivial,by simp,e⟩
 |AK=>exact .inl ⟨.AK,trivial,by simp,e⟩
 |sn=>exact .inl ⟨.sn,trivial,by simp,e⟩
 |fr=>exact .inl ⟨.fr,trivial,by simp,e⟩
 |rws=>exact .inl ⟨.rws,trivial,by simp,e⟩
 |nt c=>exact .inl ⟨.nt c,hi,by simp,e⟩
 |rw p=>exact .inl ⟨.rw p,hi,by simp,e⟩
theorem ZD {D:Nat}{v:BV}{nv rv:List Value}{g:Nat}(h:Dz v nv rv g):Bo D v nv rv g:=by
 obtain⟨i,hi,hb,e⟩:=h;refine⟨i,hi,?_⟩;cases i<;>first|exact e|exact absurd rfl hb
theorem QU {D:Nat}{v:BV}{nv rv:List Value}{g:Nat}(h:Fg v rv g):Bo D v nv rv g:=by
 obtain⟨i,hi,e⟩:=h
 cases i with
 |AM=>exact⟨.AM,trivial,e⟩
 |AQ=>exact⟨.AQ,trivial,e⟩
 |rws=>exact⟨.rws,trivial,e⟩
 |rw p=>exact⟨.rw p,hi,e⟩
 |_=>exact absurd hi (by simp[EP])
section
variable {w w':World} {m D:Nat} {v:BV} {nv rv rv' wv:List Value} {bs N:Nat} {AA:List (List Dd)} {b b':Bd}
theorem BT.blk (h:BT w m v nv rv bs N AA b):∀g,Dz v nv rv g->m<=g/\g<w.heap.size/\(g<bs\/N<=g):=fun g ⟨i,hi,hb,e⟩=>by
 rw[<-Lc 0 v nv rv b i] at e;exact⟨(h.Ag.lt ⟨hi,hb⟩ g e).1,(h.Ag.lt ⟨hi,hb⟩ g e).2,h.out i hi hb g e⟩
theorem ED.turn (h:ED w bs N v.W wv AA)(o:BT w m v nv rv bs N AA b){F':Nat->Prop}(t:Ai w w' (Dz v nv rv) F'):ED w' bs N v.W wv AA:=
 h.same (fun g h1 h2=>t.block g (KAC h2 o.top) (fun q=>by have:=(o.blk g q).2.2;omega))
theorem iy (v:BV)(nv rv:List Value)(b:Bd){i:BI}(h:Tj i):Ay 0 v [] rv b i=Ay D v nv rv b i:=by
 cases i<;>first|rfl|exact absurd h (by simp[Tj])
theorem AU.Z9 (h:AU w m D v nv rv bs N AA b):Dt w m v rv b:=by
 refine⟨h.Ag.congr (fun i hi=>?_) (fun i hi=>?_),h.lr⟩
 . cases i<;>first|trivial|exact hi|exact absurd hi (by simp[EP])
 . cases i<;>first|rfl|exact absurd hi (by simp[EP])
theorem AU.turn (h:AU w m D v nv rv bs N AA b)(o:Dt w' m v rv' b')(t:Ai w w' (Fg v rv) (Fg v rv'))(e1:b'.AJ=b.AJ)(e2:b'.AK=b.AK)(e3:b'.sn=b.sn)(e4:b'.fr=b.fr):
  AU w' m D v nv rv' bs N AA b'/\Ai w w' (Bo D v nv rv) (Bo D v nv rv'):=by
 have lI:∀i,BW nv rv' i/\Tj i->EP rv' i:=fun i ⟨h1,h2⟩=>by cases i<;>first|trivial|exact h1|exact absurd h2 (by simp[Tj])
 have nI:∀i,BW nv rv i->¬Tj i->∀g,(Ay D v nv rv b i).v.ownBlock=some g->¬Fg v rv g:=fun i hi hs g hg hB=>by
  obtain⟨j,hj,e⟩:=hB;have hij:i≠j:=fun q=>hs (by subst q;cases i<;>first|trivial|exact absurd hj (by simp[EP]))
  have lj:BW nv rv j:=by cases j<;>first|trivial|exact hj|exact absurd hj (by simp[EP])
  have ej:(Ay D v nv rv b j).v.ownBlock=some g:=by
   rw[Lc];cases j<;>first|exact e|exact absurd hj (by simp[EP])
  rcases h.Ag.apart i j hi lj hij with q|q
  . rw[hg] at q;cases q
  . exact q (hg.trans ej.symm)
 have F:=h.Ag.part (w':=w') (live':=BW nv rv') (R':=Ay D v nv rv' b') Tj (o.Ag.congr lI (fun i hi=>(iy (D:=D) v nv rv' b' hi.2).symm)) (fun i hs hi=>by cases i<;>first|trivial|exact hi|exact absurd trivial hs)
  (fun i hs _=>by cases i<;>first|exact absurd trivial hs|(simp only[Ay,e1,e2,e3,e4])) t nI (fun i hi hs g hg=>⟨i,lI i ⟨hi,hs⟩,by
   rw[Lc] at hg
   cases i<;>first|exact hg|exact absurd hs (by simp[Tj])⟩)
 have nB:∀g,Bo D v nv rv' g->Bo D v nv rv g\/w.heap.size<=g:=fun g ⟨i,hi,e⟩=>by
  by_cases s:Tj i
  ·
   rcases t.news g ⟨i,lI i ⟨hi,s⟩,by cases i<;>first|exact e|exact absurd s (by simp[Tj])⟩ with q|q
   . exact .inl (QU q)
   . exact .inr q
  . exact .inl ⟨i,by cases i<;>first|trivial|exact hi|exact absurd trivial s,by cases i<;>first|exact e|exact absurd trivial s⟩
 refine⟨⟨F,by rw[e1];exact h.ln,o.lr,h.work.same t.size (fun g h1 h2=>t.block g (KAC h2 h.top) (fun q=>by have:=(h.blk g (QU q)).2.2;omega)),KAU h.top t.size,fun i hi k hk=>?_⟩,⟨t.os,t.tape,t.output,t.size,fun g hg hn=>t.block g hg (fun q=>hn (QU q)),nB⟩⟩;rw[Lc] at hk;rcases nB k ⟨i,hi,hk⟩ with q|q
 . exact (h.blk k q).2.2
 . right;exact KAU h.top q
end
end
theorem Iw {xs ys:List Int}{k:Nat}(hx:k<xs.length)(hy:k<ys.length)(h:xs.take k=ys.take k)(e:xs.getD k 0=ys.getD k 0):xs.take (k+1)=ys.take (k+1):=by
 rw[FY xs k hx,FY ys k hy,h,e]
theorem qE {xs ys:List Int}{k:Nat}(h:xs.getD k 0≠ys.getD k 0):xs≠ys:=by
 intro e;subst e;exact h rfl
theorem Pt:∀(k:Nat) (a b:List Int),k<a.length->k<b.length->a.take k=b.take k->a.getD k 0≠b.getD k 0->Bz a b=decide (a.getD k 0<b.getD k 0)
 |_,[],_,h,_,_,_=>by simp at h
 |_,_::_,[],_,h,_,_=>by simp at h
 | 0,x::a,y::b,_,_,_,hne=>by
  simp only[List.getD_cons_zero] at hne ⊢;rw[Eh,KAP hne]
 |k+1,x::a,y::b,h1,h2,ht,hne=>by
  simp only[KDK,KCP,List.getD_cons_succ,KBJ] at *;rw[Eh,KAQ (by simp[ht.1])];exact Pt k a b (by omega) (by omega) ht.2 hne
theorem Nn:∀(k:Nat) (a b:List Int),a.take k=b.take k->k<=a.length->k<=b.length->(k=a.length\/k=b.length)->Bz a b=decide (a.length<b.length)
 |_,[],b,_,_,_,_=>by rw[Kq];simp
 |_,x::a,[],_,_,_,_=>by rw[GF];simp
 | 0,_::_,_::_,_,_,_,h=>by simp at h
 |k+1,x::a,y::b,ht,h1,h2,h=>by
  simp only[KDK,KCP,KBJ] at *;rw[Eh,KAQ (by simp[ht.1]),Nn k a b ht.2 (by omega) (by omega) (by omega)];simp
theorem dm (w:World)(v1 v2:Value)(xs ys:List Int)(h1:Rd w v1 xs)(h2:Rd w v2 ys)(hx:xs.length<=1048576):
  Calls Tryz.prog 123 #[v1,v2] w fun e w'=>e = .returned (.bool (decide (xs=ys)))/\AC w w':=by
 obtain⟨a1,c1,rfl,h1⟩:=h1;obtain⟨a2,c2,rfl,h2⟩:=h2;by_cases hl:xs.length=ys.length
 ·
  have hlb:((xs.length:Int) != (ys.length:Int))=false:=by simp[hl]
  have hl1:xs.length<=ys.length:=by omega
  have hl2:ys.length<=xs.length:=by omega
  clear hl;go_enter Tryz.func123,Tryz.ntmps123
  go_wp2;go_loopw [5] (fun i wr=>∃k:Nat,k<=xs.length/\i = .int .i64 k/\xs.take k=ys.take k/\AC w wr) (fun i _=>xs.length-(intOf i).toNat)
  case atStart=>exact⟨0,KAb _,rfl,by simp,AC.refl _⟩
  case round=>
   obtain⟨k,hk,rfl,ht,hK⟩:=hrel;by_cases hlt:k<xs.length
   ·
    rcases h1 with h|⟨b1,o1,rfl,hb1,hc1⟩
    . subst h;simp at hlt
    rcases h2 with h|⟨b2,o2,rfl,hb2,hc2⟩
    . exfalso;rw[h] at hl1;simp only[KCG] at hl1;omega
    have hy2:k<ys.length:=by omega
    have d1:=(hK.cell hb1).trans (hc1 k hlt);have d2:=(hK.cell hb2).trans (hc2 k hy2);clear hc1 hc2;obtain⟨p,hp⟩:∃p,p=xs.getD k 0:=⟨_,rfl⟩;obtain⟨q,hq⟩:∃q,q=ys.getD k 0:=⟨_,rfl⟩;rw[<-hp] at d1;rw[<-hq] at d2;have HP:Hid (p=xs.getD k 0):=hp;have HQ:Hid (q=ys.getD k 0):=hq;have HT:Hid (xs.take k=ys.take k):=ht;clear hp hq ht;by_cases he:p=q
    ·
     have hne:(p != q)=false:=by simp[he]
     have HE:Hid (p=q):=he;clear he;go_wp2;go_quiet (fail)
     go_wp2;go_roundw;case rel=>exact⟨k+1,by omega,by go_num,Iw hlt hy2 HT.out (by rw[<-HP.out,<-HQ.out];exact HE.out),hK.drewN _⟩
     case measure=>simp[intOf];omega
    ·
     have hne:(p != q)=true:=by simp[he]
     have HE:Hid (p≠q):=he;clear he;go_wp2;go_quiet (fail)
     go_wp2;go_ret;refine⟨BE ?_,?_⟩
     ·
      have:=qE (xs:=xs) (ys:=ys) (k:=k) (by rw[<-HP.out,<-HQ.out];exact HE.out);simp[this]
     . exact hK.drewN _
   ·
    go_wp2;go_ret;refine⟨BE ?_,hK⟩;rw[KBS (by omega),KBS (by omega)] at ht;simp[ht]
 ·
  have hlb:((xs.length:Int) != (ys.length:Int))=true:=by simp;omega
  have HL:Hid (¬xs.length=ys.length):=hl;clear hl;go_enter Tryz.func123,Tryz.ntmps123
  go_wp2;go_ret;refine⟨BE ?_,AC.refl _⟩;have:xs≠ys:=fun e=>HL.out (by rw[e])
  simp[this]
theorem Sm (w:World)(v1 v2:Value)(xs ys:List Int)(h1:Rd w v1 xs)(h2:Rd w v2 ys)(hx:xs.length<=1048576):
  Calls Tryz.prog 122 #[v1,v2] w fun e w'=>e = .returned (.bool (Bz xs ys))/\AC w w':=by
 obtain⟨a1,c1,rfl,h1⟩:=h1;obtain⟨a2,c2,rfl,h2⟩:=h2;go_enter Tryz.func122,Tryz.ntmps122
 go_wp2;go_loopw [5] (fun i wr=>∃k:Nat,k<=xs.length/\k<=ys.length/\i = .int .i64 k/\xs.take k=ys.take k/\AC w wr) (fun i _=>xs.length-(intOf i).toNat)
 case atStart=>exact⟨0,KAb _,KAb _,rfl,by simp,AC.refl _⟩
 case round=>
  obtain⟨k,hk1,hk2,rfl,ht,hK⟩:=hrel;by_cases hlt:k<xs.length
  ·
   by_cases uy:k<ys.length
   ·
    rcases h1 with h|⟨b1,o1,rfl,hb1,hc1⟩
    . subst h;simp at hlt
    rcases h2 with h|⟨b2,o2,rfl,hb2,hc2⟩
    . exfalso;rw[h] at uy;simp at uy
    have d1:=(hK.cell hb1).trans (hc1 k hlt);have d2:=(hK.cell hb2).trans (hc2 k uy);clear hc1 hc2;have HL:=AI (Pt k xs ys hlt uy ht);obtain⟨p,hp⟩:∃p,p=xs.getD k 0:=⟨_,rfl⟩;obtain⟨q,hq⟩:∃q,q=ys.getD k 0:=⟨_,rfl⟩;rw[<-hp] at d1;rw[<-hq] at d2;rw[<-hp,<-hq] at HL;have HP:Hid (p=xs.getD k 0):=hp;have HQ:Hid (q=ys.getD k 0):=hq;have HT:Hid (xs.take k=ys.take k):=ht;clear hp hq ht;by_cases he:p=q
    ·
     have hne:(p != q)=false:=by simp[he]
     have HE:Hid (p=q):=he;clear he HL;go_wp2;go_quiet (fail)
     go_wp2;go_roundw;case rel=>exact⟨k+1,by omega,by omega,by go_num,Iw hlt uy HT.out (by rw[<-HP.out,<-HQ.out];exact HE.out),hK.drewN _⟩
     case measure=>simp[intOf];omega
    ·
     have hne:(p != q)=true:=by simp[he]
     have HE:=AI (HL.out he);clear he HL;go_wp2;go_quiet (fail)
     go_wp2;go_quiet (fail)
     go_wp2;go_ret;exact⟨BE HE.out.symm,(hK.drewN _).drewN _⟩
   ·
    have HE:=AI (Nn k xs ys ht hk1 hk2 (by omega));clear ht;go_wp2;go_ret;exact⟨BE (by rw[HE.out]),hK⟩
  ·
   have HE:=AI (Nn k xs ys ht hk1 hk2 (by omega));clear ht;go_wp2;go_ret;exact⟨BE (by rw[HE.out]),hK⟩
theorem Sk (w:World)(v vo:Value)(Bn:List (List Int))(x:List Int)(h:fu w v Bn)(hx:Rd w vo x)(hO:PG Bn)(hl:Bn.length<=1099511627776)(hm:∀i,i<Bn.length->(Bn.getD i []).length<=1048576):
  Calls Tryz.prog 92 #[v,vo] w fun e w'=>e = .returned (.tuple #[.int .i64 (DW Bn x:Int),.bool (Qn Bn x)])/\AC w w':=by
 obtain⟨a,c,rfl,h⟩:=h;have HR:=AI (Fr hO x);have hrl:=RA Bn x;obtain⟨R,hR⟩:∃R,R=DW Bn x:=⟨_,rfl⟩;rw[<-hR] at HR hrl;have HI:Hid (Qn Bn x=(decide (R<Bn.length)&&(Bn.getD R []==x))):=AI (by rw[hR];rfl);rw[<-hR];clear hR hO;go_enter Tryz.func92,Tryz.ntmps92
 go_wp2;go_loopw [6,7,8] (fun lo hi _ wr=>∃l r:Nat,l<=R/\R<=r/\r<=Bn.length/\lo = .int .i64 l/\hi = .int .i64 r/\AC w wr) (fun lo hi _ _=>(intOf hi).toNat-(intOf lo).toNat)
 case atStart=>exact⟨0,Bn.length,KAb _,hrl,KAM _,rfl,rfl,AC.refl _⟩
 case round=>
  obtain⟨l,r,h1,h2,h3,rfl,rfl,hK⟩:=hrel;by_cases hlt:l<r
  ·
   obtain⟨p,hp1,hp2⟩:∃p:Nat,Int.tdiv ((l:Int)+(r:Int)) 2=(p:Int)/\p=(l+r) / 2:=⟨(l+r) / 2,by rw[Int.tdiv_eq_ediv_of_nonneg (by omega)];omega,rfl⟩;have hpl:p<Bn.length:=by omega
   rcases h with h|⟨b,o,rfl,hb,hc⟩
   . exfalso;rw[h] at hpl;simp at hpl
   obtain⟨vi,d1,rd⟩:=hc p hpl;have d1:=(hK.cell hb).trans d1;have CL:=Sm wr vi vo _ x (rd.keep hK) (hx.keep hK) (hm p hpl);have HP:=HR.out p hpl;rw[show Bz (Bn.getD p []) x=Bz Bn[p] x from by rw[IT,KAH hpl];rfl,HP] at CL;clear hc rd HP hm hx;have i1:(0:Int)<=(p:Int):=KAK _;have i2:(p:Int)<(Bn.length:Int):=by omega
   have HP2:=AI hp2;clear hp2;go_wp2_with fail
   refine CL.mono ?_;rintro e wz ⟨rfl,kk⟩;by_cases hR:p<R
   ·
    have hb:decide (p<R)=true:=by simpa using hR
    go_wp2;go_roundw;case rel=>exact⟨p+1,r,by omega,h2,h3,by go_num,rfl,hK.trans kk⟩
    case measure=>
     have:=HP2.out;simp[intOf];omega
   ·
    have hb:decide (p<R)=false:=by simpa using hR
    go_wp2;go_roundw;case rel=>exact⟨l,p,h1,by omega,by omega,rfl,rfl,hK.trans kk⟩
    case measure=>
     have:=HP2.out;simp[intOf];omega
  ·
   obtain rfl:l=R:=by omega
   by_cases hR:l<Bn.length
   ·
    rcases h with h|⟨b,o,rfl,hb,hc⟩
    . exfalso;rw[h] at hR;simp at hR
    obtain⟨vi,d1,rd⟩:=hc l hR;have d1:=(hK.cell hb).trans d1;have CS:=dm wr vi vo _ x (rd.keep hK) (hx.keep hK) (hm l hR);rw[KAl hR,KBi,show (Bn.getD l []==x)=decide (Bn.getD l []=x) from by rw[KBg];simp] at HI;generalize decide (Bn.getD l []=x)=E at *;have i1:(0:Int)<=(l:Int):=KAK _;have i2:(l:Int)<(Bn.length:Int):=by omega
    clear hc rd hm hx;go_wp2_with fail
    refine CS.mono ?_;rintro e wz ⟨rfl,kk⟩;go_wp2;go_ret2
    exact⟨by rw[HI.out];rfl,hK.trans kk⟩
   ·
    rw[KAi hR,KCe] at HI;go_wp2;go_ret2
    exact⟨by rw[HI.out];rfl,hK⟩
structure Gu (w:World)(P:Nat->Prop)(base:Nat)(v:Value)(vs:List Value)(Bn:List (List Int)):Prop where
 row:w.ownsRow base 25 1 v Bn.length vs
 np:∀g,v.ownBlock=some g->¬P g
 each:∀i,i<Bn.length->Rd w (vs.getD i AF) (Bn.getD i [])/\∀g,(vs.getD i AF).ownBlock=some g->P g
theorem Jr {w w':World}(h:w.grownBy w' none)(row:Option Nat):w.grownBy w' row:=⟨h.os,h.tape,h.output,h.size,fun k hk _=>h.block k hk (by simp)⟩
theorem UN {a b c:World}{r:Option Nat}{g:Nat}(h:a.grownBy b r)(k:b.grownBy c (some g))(hg:a.heap.size<=g):a.grownBy c r:=
 ⟨k.os.trans h.os,k.tape.trans h.tape,k.output.trans h.output,KAU h.size k.size,fun q hq hr=>(k.block q (KAC hq h.size) (fun e=>by have:=KAI e;omega)).trans (h.block q hq hr)⟩
theorem RF {w w':World}{v:Value}{zs:List Int}(h:Rd w v zs)(hs:w.heap.size<=w'.heap.size)(hb:∀g,v.ownBlock=some g->g<w.heap.size->w'.heap[g]? = w.heap[g]?):Rd w' v zs:=by
 obtain⟨a,c,rfl,h⟩:=h;refine⟨a,c,rfl,?_⟩;rcases h with h|⟨b,o,rfl,hb',hc⟩
 . exact .inl h
 ·
  refine .inr ⟨b,o,rfl,KAC hb' hs,fun i hi=>?_⟩;rw[KAw (w:=w) (hb b rfl hb')];exact hc i hi
theorem Gu.lt {w:World}{P:Nat->Prop}{base:Nat}{v:Value}{vs:List Value}{Bn:List (List Int)}(h:Gu w P base v vs Bn):∀g,v.ownBlock=some g->base<=g/\g<w.heap.size:=KAY h.row
theorem Gu.kept {w w':World}{P:Nat->Prop}{base:Nat}{v:Value}{vs:List Value}{Bn:List (List Int)}{r:Option Nat}(h:Gu w P base v vs Bn)(hg:w.grownBy w' r)(hr:∀g,r=some g->¬P g/\v.ownBlock≠some g):Gu w' P base v vs Bn:=by
 refine⟨KAs h.row hg ?_,h.np,fun i hi=>⟨RF (h.each i hi).1 hg.size (fun g hv hl=>hg.block g hl (fun e=>(hr g e.symm).1 ((h.each i hi).2 g hv))),(h.each i hi).2⟩⟩
 cases hv:v.ownBlock with
 |none=>exact .inl rfl
 |some g=>exact .inr (fun e=>(hr g e.symm).2 hv)
theorem Gu.mono {w:World}{P P':Nat->Prop}{base:Nat}{v:Value}{vs:List Value}{Bn:List (List Int)}(h:Gu w P base v vs Bn)(hp:∀g,P g->P' g)(hn:∀g,v.ownBlock=some g->¬P' g):Gu w P' base v vs Bn:=
 ⟨h.row,hn,fun i hi=>⟨(h.each i hi).1,fun g hg=>hp g ((h.each i hi).2 g hg)⟩⟩
theorem Gu.yV {w:World}{P:Nat->Prop}{base:Nat}{v:Value}{vs:List Value}{Bn:List (List Int)}(h:Gu w P base v vs Bn):fu w v Bn:=by
 have hl:=h.row.1;have h2:=h.row;rcases h.row.2 with ⟨rfl,hz⟩|⟨g,cap,cur,rfl,hb,hg,_⟩
 . exact⟨none,0,by rw[hz],.inl (KAZ hz)⟩
 ·
  refine⟨_,_,rfl,.inr ⟨g,0,rfl,(h.lt g rfl).2,fun i hi=>?_⟩⟩;have hi':i<vs.length:=by omega
  refine⟨vs.getD i AF,?_,(h.each i hi).1⟩;rw[KBC,KAp h2 i (by omega),IT,KAH hi'];rfl
theorem IW {α:Type}(l:List α)(k i:Nat)(u z:α)(hk:k<=l.length):(l.take k++u::l.drop k).getD i z=if i<k then l.getD i z else if i=k then u else l.getD (i-1) z:=by
 simp only[IT];by_cases h1:i<k
 . rw[KAP h1,KAu (by simp;omega),List.getElem?_take_of_lt h1]
 ·
  rw[KAQ h1,KAy (by simp;omega),KAz,KBh hk];by_cases h2:i=k
  . rw[KAP h2,h2];simp
  ·
   rw[KAQ h2,show i-k=(i-k-1)+1 by omega,KC2,List.getElem?_drop]
   congr 2
   omega
theorem WB {α:Type}(l:List α)(k:Nat)(y u:α)(hk:k<=l.length):(l.take k++y::l.drop k).set k u=l.take k++u::l.drop k:=by
 rw[KCN _ _ (by simp;omega),KAz,KBh hk,Nat.sub_self,KAa]
theorem YQ {α:Type}(l:List α)(k:Nat)(y z:α)(hk:k+1<=l.length):(l.take (k+1)++y::l.drop (k+1)).set (k+1) (l.getD k z)=l.take k++l.getD k z::l.drop k:=by
 rw[WB _ _ _ _ hk]
 have e:l.drop k=l.getD k z::l.drop (k+1):=by
  rw[IT,KAH (by omega),KBR,KCw (by omega)]
 have e2:l.take (k+1)=l.take k++[l.getD k z]:=by
  rw[KBQ,IT,KAH (by omega)];rfl
 rw[e2,e];simp
theorem Ni (w:World)(P:Nat->Prop)(base:Nat)(v u:Value)(vs:List Value)(Bn:List (List Int))(x:List Int)(h:Gu w P base v vs Bn)(hP:∀g,P g->g<w.heap.size)(hu:Rd w u x)(hup:∀g,u.ownBlock=some g->P g)(hO:PG Bn)(hl:Bn.length<=1099511627776)(hm:∀i,i<Bn.length->(Bn.getD i []).length<=1048576)(hb:base<=w.heap.size):
  Calls Tryz.prog 57 #[v,u] w fun e w'=>∃v' vs',e = .returned (.tuple #[v',.bool (!(Qn Bn x))])/\Gu w' P base v' vs' (Ek Bn x)/\w.grownBy w' v.ownBlock/\(v'.ownBlock=v.ownBlock\/∃g,v'.ownBlock=some g/\w.heap.size<=g):=by
 obtain⟨j0,hj,hy0,hy1,hy2⟩:=KA3 Tryz.vK;have CF:=Sk w v u Bn x h.yV hu hO hl hm;obtain⟨R,hR⟩:∃R,R=DW Bn x:=⟨_,rfl⟩;have hrl:=RA Bn x;have xZ:Hid (Ek Bn x=if Qn Bn x=true then Bn else Bn.take R++x::Bn.drop R):=AI (by rw[hR];rfl);rw[<-hR] at CF hrl;clear hR hO hm;obtain⟨a0,c0,rfl⟩:∃a c,v = .slice a Bn.length c:=by obtain⟨a,c,e,-⟩:=h.yV;exact⟨a,c,e⟩
 obtain⟨au,cu,rfl,-⟩:=id hu;go_enter Tryz.func57,Tryz.ntmps57
 go_wp2_with fail
 refine CF.mono ?_;rintro e w1 ⟨rfl,k1⟩;have H1:=h.kept k1.grownBy (by simp);have s1:=k1.size;have U1:=hu.keep k1;have HU:=AI hu;clear CF hu;cases hi:Qn Bn x
 ·
  rw[hi,KAQ (by simp)] at xZ;have k2:AC w1 (w1.alloc (.cells #[.slice au x.length cu] 25)):=(AC.refl w1).alloc _;have H2:=H1.kept k2.grownBy (by simp);have U2:=U1.keep k2;go_wp2_with (at_builtin;refine KAe _ rfl _ _ 36 rfl base 25 j0 (.slice none 0 0) 1 24 Tryz.underlying36 hj hy0 hy1 hy2 rfl (by decide) _ _ _ rfl H2.row ⟨_,0,none⟩ 1 1 [.slice au x.length cu] rfl rfl ?e1 ?e2 ?e3 ?e4 ?e5 ?_)
  case e1=>
   intro j u hj
   match j,hj with
   | 0,hj=>simp at hj;subst hj;simp[Addr.add]
  case e2=>intro u hu;simp at hu;subst hu;rfl
  case e3=>unfold maxLen;omega
  case e4=>omega
  case e5=>simp;omega
  intro v3 w3 hown3 hgrow3 _ hblk3
  obtain⟨g,c3,rfl⟩:∃g c,v3 = .slice (some ⟨g,0,none⟩) (Bn.length+1) c:=by
   rcases hown3.2 with ⟨_,hz⟩|⟨g,cap,cur,e,_⟩
   . omega
   . exact⟨g,cap,e⟩
  have hlv:vs.length=Bn.length:=by have:=h.row.1;omega
  have G13:w1.grownBy w3 (Value.slice a0 Bn.length c0).ownBlock:=Ak (Jr k2.grownBy _) hgrow3
  have hgP:¬P g/\(some g=(Value.slice a0 Bn.length c0).ownBlock\/w1.heap.size<=g):=by
   rcases hblk3 with q|q
   . exact⟨h.np g q.symm,.inl q⟩
   ·
    have q:g=w1.heap.size+1:=KAI q;exact⟨fun hp=>by have:=hP g hp;omega,.inr (by omega)⟩
  have HG:=AI G13;have yw:=AI hgP;have HO3:=AI hown3;have H1':=AI H1;have HH:=AI h;have U1':=AI U1;have s3:=hgrow3.size;rw[AD] at s3;clear hown3 hgrow3 hblk3 H2 U2 k2 G13 hgP H1 h U1;go_wp2;go_loopw [8] (fun i wr=>∃(k:Nat) (y:Value),i = .int .i64 (k:Int)/\R<=k/\k<=Bn.length/\World.ownsRow wr base 25 1 (.slice (some ⟨g,0,none⟩) (Bn.length+1) c3) (Bn.length+1) (vs.take k++y::vs.drop k)/\w3.grownBy wr (some g)) (fun i _=>(intOf i).toNat)
  case atStart=>
   refine⟨Bn.length,.slice au x.length cu,by go_num,hrl,KAM _,?_,KBW _ _⟩;rw[<-hlv,KBK,List.drop_length,hlv];exact HO3.out
  case round=>
   obtain⟨k,y,rfl,hk1,hk2,ho,hg⟩:=hrel;by_cases hgt:R<k
   ·
    obtain⟨m,rfl⟩:∃m,k=m+1:=⟨k-1,by omega⟩;obtain⟨am,nm,cm,em⟩:∃a n c,vs.getD m AF = .slice a n c:=by obtain⟨a,c,e,-⟩:=(H1'.out.each m (by omega)).1;exact⟨_,_,_,e⟩
    obtain⟨z1,z2,z3⟩:=Rw.put (r:=Em 25 (vs.take (m+1)++y::vs.drop (m+1)) (.slice (some ⟨g,0,none⟩) (Bn.length+1) c3)) (g:=g) (cap:=c3) (k:=m+1) (show Rw.own wr base _ from by unfold Rw.own;rw[show (Em 25 (vs.take (m+1)++y::vs.drop (m+1)) (.slice (some ⟨g,0,none⟩) (Bn.length+1) c3)).n=Bn.length+1 from by simp;omega];exact ho) (by simp;omega) (vs.getD m AF)
    have d1:wr.cell? ⟨g,m,none⟩=some (.slice am nm cm):=by
     rw[KAp ho m (by omega),<-em];have:=IW vs (m+1) m y AF (by omega);rw[KAP (by omega),IT,KAH (by simp;omega),KBR] at this;rw[KAH (by simp;omega),this]
    have d2:wr.cell? ⟨g,m+1,none⟩=some y:=by
     rw[KAp ho (m+1) (by omega)];have:=IW vs (m+1) (m+1) y AF (by omega);rw[KAQ (by omega),KAP rfl,IT,KAH (by simp;omega),KBR] at this;rw[KAH (by simp;omega),this]
    have Z1:=AI z1;have Z2:=AI z2;have EM:=AI em;clear z1 z2 em ho;rw[show ((m+1:Nat):Int)=(m:Int)+1 from rfl];have i1:(0:Int)<=(m:Int):=KAK _;have i2:(m:Int)+1<(Bn.length:Int)+1:=by omega
    go_wp2;go_roundw
    case rel=>
     refine⟨m,vs.getD m AF,by go_num,by omega,by omega,?_,?_⟩
     ·
      have q:=Z1.out;unfold Rw.own at q;simp only[YQ vs m y AF (by omega)] at q;rw[show (vs.take (m+1)++y::vs.drop (m+1)).length=Bn.length+1 from by simp;omega] at q;rw[<-EM.out];exact q
     ·
      rw[<-EM.out];exact Ak hg Z2.out
    case measure=>simp[intOf]
   ·
    obtain rfl:k=R:=by omega
    obtain⟨z1,z2,z3⟩:=Rw.put (r:=Em 25 (vs.take k++y::vs.drop k) (.slice (some ⟨g,0,none⟩) (Bn.length+1) c3)) (g:=g) (cap:=c3) (k:=k) (show Rw.own wr base _ from by unfold Rw.own;rw[show (Em 25 (vs.take k++y::vs.drop k) (.slice (some ⟨g,0,none⟩) (Bn.length+1) c3)).n=Bn.length+1 from by simp;omega];exact ho) (by simp;omega) (.slice au x.length cu)
    have d2:wr.cell? ⟨g,k,none⟩=some y:=by
     rw[KAp ho k (by omega)];have:=IW vs k k y AF (by omega);rw[KAQ (by omega),KAP rfl,IT,KAH (by simp;omega),KBR] at this;rw[KAH (by simp;omega),this]
    have Z1:=AI z1;have Z2:=AI z2;clear z1 z2 ho;have i1:(0:Int)<=(k:Int):=KAK _;have i2:(k:Int)<(Bn.length:Int)+1:=by omega
    go_wp2;go_ret2
    have GT:w.grownBy (wr.setCell ⟨g,k,none⟩ (.slice au x.length cu)) (Value.slice a0 Bn.length c0).ownBlock:=by
     have q1:=Ak (Jr k1.grownBy (Value.slice a0 Bn.length c0).ownBlock) HG.out;have q2:=Ak hg Z2.out;rcases yw.out.2 with e|e
     ·
      rw[e] at q2;exact Ak q1 q2
     . exact UN q1 q2 (by omega)
    have EA:∀(y:Value) (zs:List Int),Rd w y zs->(∀q,y.ownBlock=some q->P q)->Rd (wr.setCell ⟨g,k,none⟩ (.slice au x.length cu)) y zs:=fun y zs hy hp=>RF hy GT.size (fun q hq hl=>GT.block q hl (fun e=>HH.out.np q e.symm (hp q hq)))
    refine⟨_,rfl,⟨vs.take k++.slice au x.length cu::vs.drop k,?_⟩,GT,?_⟩
    ·
     rw[xZ.out];refine⟨?_,fun q hq=>?_,fun i hi'=>?_⟩
     ·
      have q:=Z1.out;unfold Rw.own at q;simp only[WB vs k y (.slice au x.length cu) (by omega)] at q;rw[show (vs.take k++y::vs.drop k).length=Bn.length+1 from by simp;omega] at q;rw[show (Bn.take k++x::Bn.drop k).length=Bn.length+1 from by simp;omega];exact q
     ·
      have q:=KAI hq;exact q ▸ yw.out.1
     ·
      have hi':i<Bn.length+1:=by rw[show (Bn.take k++x::Bn.drop k).length=Bn.length+1 from by simp;omega] at hi';exact hi'
      rw[IW _ _ _ _ _ (by omega),IW _ _ _ _ _ (by omega)];by_cases h1:i<k
      ·
       rw[KAP h1,KAP h1];have q:=HH.out.each i (by omega);exact⟨EA _ _ q.1 q.2,q.2⟩
      ·
       rw[KAQ h1,KAQ h1];by_cases h2:i=k
       ·
        rw[KAP h2,KAP h2];exact⟨EA _ _ HU.out hup,hup⟩
       ·
        rw[KAQ h2,KAQ h2];have q:=HH.out.each (i-1) (by omega);exact⟨EA _ _ q.1 q.2,q.2⟩
    ·
     rcases yw.out.2 with e|e
     . exact .inl e
     . exact .inr ⟨g,rfl,by omega⟩
 ·
  rw[hi,KAP rfl] at xZ;go_wp2;go_ret2
  exact⟨_,_,by rw[hi];rfl,by rw[xZ.out];exact H1,Jr k1.grownBy _,.inl rfl⟩
abbrev Rz:BV:=⟨AF,AF,AF,AF,AF,AF,AF,AF⟩
abbrev OW:Bd:=⟨[],[],[],[],[],[],[]⟩
structure BA (P:Nat->Prop)(w w':World):Prop where
 size:w.heap.size<=w'.heap.size
 blk:∀g,g<w.heap.size->P g->w'.heap[g]? = w.heap[g]?
theorem BA.trans {P:Nat->Prop}{a b c:World}(h:BA P a b)(k:BA P b c):BA P a c:=
 ⟨KAU h.size k.size,fun g hg hp=>(k.blk g (KAC hg h.size) hp).trans (h.blk g hg hp)⟩
theorem BA.mono {P P':Nat->Prop}{a b:World}(h:BA P' a b)(hp:∀g,P g->P' g):BA P a b:=⟨h.size,fun g hg hq=>h.blk g hg (hp g hq)⟩
theorem BA.B7 {P:Nat->Prop}{a b:World}(k:AC a b):BA P a b:=⟨k.size,fun g hg _=>KAW k g hg⟩
theorem BA.Dn {P:Nat->Prop}{a b:World}{r:Option Nat}(k:a.grownBy b r)(hr:∀g,r=some g->¬P g):BA P a b:=⟨k.size,fun g hg hp=>k.block g hg (fun e=>hr g e.symm hp)⟩
def KF (m:Nat)(w:World)(v:Value)(Bn:List (List Int)):Prop:=∀w':World,BA (fun g=>m<=g) w w'->fu w' v Bn
theorem KF.rd {m:Nat}{w:World}{v:Value}{Bn:List (List Int)}(h:KF m w v Bn):fu w v Bn:=h w ⟨KAM _,fun _ _ _=>rfl⟩
theorem KF.low {m m':Nat}{w:World}{v:Value}{Bn:List (List Int)}(h:KF m w v Bn)(hm:m'<=m):KF m' w v Bn:=fun w' k=>h w' (k.mono (fun _ hg=>KAU hm hg))
theorem Xd (m:Nat)(w:World)(a:Option Addr)(c:Nat):KF m w (.slice a 0 c) []:=fun _ _=>⟨a,c,rfl,.inl rfl⟩
theorem Gu.uq {w:World}{P:Nat->Prop}{base:Nat}{v:Value}{vs:List Value}{Bn:List (List Int)}(h:Gu w P base v vs Bn)(hP:∀g,P g->base<=g/\g<w.heap.size):KF base w v Bn:=by
 intro w' k;have h':Gu w' P base v vs Bn:=⟨E5 (r:=⟨25,1,v,Bn.length,vs⟩) h.row (fun _ hg=>k.blk _ (h.lt _ hg).2 (h.lt _ hg).1),h.np,fun i hi=>⟨RF (h.each i hi).1 k.size (fun _ hg hl=>k.blk _ hl (hP _ ((h.each i hi).2 _ hg)).1),(h.each i hi).2⟩⟩;exact h'.yV
def DJ (w:World)(P:Nat->Prop)(v:BV)(AA:List (List Dd))(b:Bd):Prop:=∀w':World,BA P w w'->Cw w' v AA b
theorem DJ.rd {w:World}{P:Nat->Prop}{v:BV}{AA:List (List Dd)}{b:Bd}(h:DJ w P v AA b):Cw w v AA b:=h w ⟨KAM _,fun _ _ _=>rfl⟩
theorem DJ.on {w w':World}{P:Nat->Prop}{v:BV}{AA:List (List Dd)}{b:Bd}(h:DJ w P v AA b)(k:BA P w w'):DJ w' P v AA b:=fun w'' k'=>h w'' (k.trans k')
theorem DJ.mono {w:World}{P P':Nat->Prop}{v:BV}{AA:List (List Dd)}{b:Bd}(h:DJ w P v AA b)(hp:∀g,P g->P' g):DJ w P' v AA b:=fun w' k=>h w' (k.mono hp)
theorem BT.held {w:World}{m:Nat}{v:BV}{nv rv:List Value}{bs N:Nat}{AA:List (List Dd)}{b:Bd}(h:BT w m v nv rv bs N AA b)(hm:m<=bs):DJ w (fun g=>m<=g/\g<w.heap.size) v AA b:=by
 intro w' k;have hh:∀g,m<=g->g<w.heap.size->w'.heap[g]? = w.heap[g]?:=fun g h1 h2=>k.blk g h2 ⟨h1,h2⟩
 have:BT w' m v nv rv bs N AA b:=⟨⟨fun i hi=>E5 (h.Ag.own i hi) (fun g hg=>hh g (h.Ag.lt hi g hg).1 (h.Ag.lt hi g hg).2),h.Ag.apart⟩,h.ln,h.lr,h.work.same k.size (fun g h1 h2=>hh g (by omega) (KAC h2 h.top)),KAU h.top k.size,h.out⟩;exact this.rd0
def cB (v:BV):List Value:=[v.W,v.P,v.L,v.N,v.X,v.S,v.F,v.R]
theorem KP:∀vs:List BV,(vs.flatMap cB).length=vs.length*8
 | []=>rfl
 |v::vs=>by rw[KBH,KAJ,KP vs,KBJ];show 8+_=_;omega
theorem ZL:∀(vs:List BV) (i j:Nat),i<vs.length->j<8->(vs.flatMap cB)[i*8+j]? = (cB (vs.getD i Rz))[j]?
 | [],_,_,h,_=>by simp at h
 |v::vs,0,j,_,hj=>by
  rw[KBH,Nat.zero_mul,KBC,KAu (by show j<8;exact hj)];rfl
 |v::vs,i+1,j,h,hj=>by
  rw[KBH,KAy (by show 8<=_;omega),show (i+1)*8+j-(cB v).length=i*8+j by show _-8=_;omega];exact ZL vs i j (by simpa using h) hj
theorem iM (vs:List BV)(n:Nat)(h:n<=vs.length):(vs.flatMap cB).take (n*8)=(vs.take n).flatMap cB:=by
 have e:vs.flatMap cB=(vs.take n).flatMap cB++(vs.drop n).flatMap cB:=by rw[<-KB7,KCm]
 rw[e,List.take_append_of_le_length (by rw[KP,KAz,KBh h];exact KAM _),KBS (by rw[KP,KAz,KBh h];exact KAM _)]
structure Fd (w:World)(P:Nat->Prop)(base:Nat)(v:Value)(vs:List BV)(AA:List (List Dd))(l:List Bd):Prop where
 row:w.ownsRow base 103 8 v l.length (vs.flatMap cB)
 np:∀g,v.ownBlock=some g->¬P g
 each:∀i,i<l.length->DJ w P (vs.getD i Rz) AA (l.getD i OW)
theorem Fd.len {w:World}{P:Nat->Prop}{base:Nat}{v:Value}{vs:List BV}{AA:List (List Dd)}{l:List Bd}(h:Fd w P base v vs AA l):vs.length=l.length:=by
 have:=h.row.1;rw[KP] at this;omega
theorem Fd.lt {w:World}{P:Nat->Prop}{base:Nat}{v:Value}{vs:List BV}{AA:List (List Dd)}{l:List Bd}(h:Fd w P base v vs AA l):∀g,v.ownBlock=some g->base<=g/\g<w.heap.size:=KAY h.row
theorem Fd.kept {w w':World}{P:Nat->Prop}{base:Nat}{v:Value}{vs:List BV}{AA:List (List Dd)}{l:List Bd}{r:Option Nat}(h:Fd w P base v vs AA l)(hg:w.grownBy w' r)(hr:∀g,r=some g->¬P g/\v.ownBlock≠some g):Fd w' P base v vs AA l:=by
 refine⟨KAs h.row hg ?_,h.np,fun i hi=>(h.each i hi).on (BA.Dn hg (fun g e=>(hr g e).1))⟩
 cases hv:v.ownBlock with
 |none=>exact .inl rfl
 |some g=>exact .inr (fun e=>(hr g e.symm).2 hv)
theorem Fd.mono {w:World}{P P':Nat->Prop}{base:Nat}{v:Value}{vs:List BV}{AA:List (List Dd)}{l:List Bd}(h:Fd w P base v vs AA l)(hp:∀g,P g->P' g)(hn:∀g,v.ownBlock=some g->¬P' g):Fd w P' base v vs AA l:=
 ⟨h.row,hn,fun i hi=>(h.each i hi).mono hp⟩
theorem Fd.pop {w:World}{P:Nat->Prop}{base:Nat}{v:Value}{vs:List BV}{AA:List (List Dd)}{l:List Bd}{b:Bd}(h:Fd w P base v vs AA (l++[b])):
  ∃g cap bv,v = .slice (some ⟨g,0,none⟩) (l.length+1) cap/\l.length+1<=cap/\DJ w P bv AA b/\Fd w P base (.slice (some ⟨g,0,none⟩) l.length cap) (vs.take l.length) AA l/\∀j,j<8->w.cell? ⟨g,l.length*8+j,none⟩=(cB bv)[j]?:=by
 have hlen:=h.len;rw[KAJ,KA5] at hlen;have hrow:=h.row;rw[KAJ,KA5] at hrow;rcases hrow.2 with ⟨_,h2⟩|⟨g,cap,cur,rfl,hb,hg,hc,hm,hs,ht⟩
 . omega
 ·
  have he:=h.each l.length (by simp);rw[show (l++[b]).getD l.length OW=b from by simp] at he;refine⟨g,cap,vs.getD l.length Rz,rfl,hc,he,⟨⟨?_,.inr ⟨g,cap,cur,rfl,hb,hg,by omega,hm,hs,?_⟩⟩,h.np,fun i hi=>?_⟩,fun j hj=>?_⟩
  . rw[KP,KAz,KBh (by omega)]
  ·
   have:=KBf (List.take (l.length*8)) ht
   rwa [List.take_take,KBh (by omega),iM _ _ (by omega)] at this
  ·
   have q:=h.each i (by simp;omega);have e1:(l++[b]).getD i OW=l.getD i OW:=by rw[IT,KAu hi,<-IT]
   have e2:(vs.take l.length).getD i Rz=vs.getD i Rz:=by rw[IT,List.getElem?_take_of_lt hi,<-IT]
   rw[e1] at q;rw[e2];exact q
  ·
   rw[KAp hrow (l.length*8+j) (by omega)];exact ZL vs _ _ (by omega) hj
theorem Fd.push {w w':World}{P:Nat->Prop}{base:Nat}{v v':Value}{vs:List BV}{AA:List (List Dd)}{l:List Bd}{b:Bd}{bv:BV}(h:Fd w P base v vs AA l)(hb:DJ w P bv AA b)(ho:w'.ownsRow base 103 8 v' (l.length+1) (vs.flatMap cB++cB bv))(hg:w.grownBy w' v.ownBlock)(hn:∀g,v'.ownBlock=some g->¬P g):Fd w' P base v' (vs++[bv]) AA (l++[b]):=by
 have hlen:=h.len;have st:BA P w w':=BA.Dn hg h.np;refine⟨by rw[KAJ,KA5,KB7];simpa using ho,hn,fun i hi=>?_⟩;by_cases e:i<l.length
 ·
  rw[show (vs++[bv]).getD i Rz=vs.getD i Rz from by simp only[IT];rw[KAu (by omega)],show (l++[b]).getD i OW=l.getD i OW from by simp only[IT];rw[KAu e]];exact (h.each i e).on st
 ·
  have e:i=l.length:=by rw[KAJ,KA5] at hi;omega
  subst e;rw[show (l++[b]).getD l.length OW=b from by simp,show (vs++[bv]).getD l.length Rz=bv from by rw[<-hlen];simp];exact hb.on st
def Tk (AA:List (List Dd))(b:Bd)(c:Nat):Dd:=if Am b c<(AA.getD c []).length then Aj AA c (Am b c) else zD
def Ye (AA:List (List Dd))(b:Bd)(c:Nat):Bool:=decide (Am b c<(AA.getD c []).length)
structure sJ (AA:List (List Dd))(b:Bd)(c:Nat):Prop where
 ck:c<AA.length
 l:b.AK.length=AA.length
 n0:0<=b.AK.getD c 0
 n1:b.AK.getD c 0<=((AA.getD c []).length:Int)
 top:(AA.getD c []).length<=1048576
theorem IY (w:World)(v:BV)(AA:List (List Dd))(b:Bd)(c:Nat)(h:Cw w v AA b)(hc:sJ AA b c):
  Calls Tryz.prog 96 #[v.agg,.int .i64 c] w fun e w'=>e = .returned (.tuple #[dV (Tk AA b c),.bool (Ye AA b c)])/\AC w w':=by
 obtain⟨aW,aP,aL,aN,aX,aS,aF,aR,cW,cP,cL,cN,cX,cS,cF,cR,rfl⟩:=h.shapes;obtain⟨hcl,hl,hn0,hn1,htop⟩:=hc;have hcx:c<b.AK.length:=by omega
 have KW:AC w ((w.alloc (.cells #[.slice aW AA.length cW,.slice aP b.AM.length cP,.slice aL b.AQ.length cL,.slice aN b.AJ.length cN,.slice aX b.AK.length cX,.slice aS b.sn.length cS,.slice aF b.fr.length cF,.slice aR b.rws.length cR] 103)).alloc (.cells #[.int .i64 0,.int .i64 0,.int .i64 0,.int .i64 0] 82)):=((AC.refl w).alloc _).alloc _;have h':=h.keep KW;obtain⟨a',c',he',hX⟩:=h'.X;simp only[KAT,KA8] at he';obtain⟨rfl,rfl⟩:=he';rcases hX with h0|⟨bx,ox,rfl,hbx,hcx'⟩
 . exfalso;rw[h0] at hcx;simp at hcx
 obtain⟨a',c',he',hW⟩:=h'.W;simp only[KAT,KA8] at he';obtain⟨rfl,rfl⟩:=he';rcases hW with h0|⟨bw,ow,rfl,hbw,hcw⟩
 . exfalso;rw[h0] at hcl;simp at hcl
 obtain⟨vd,d3,r3⟩:=hcw c hcl;obtain⟨k,hk⟩:=KAn hn0;have d1:=hcx' c hcx;rw[hk] at d1 hn1;have hkN:Am b c=k:=by unfold Am;rw[hk,KAV]
 have HB:Hid (Ye AA b c=decide (k<(AA.getD c []).length)):=AI (by rw[Ye,hkN]);have HD:Hid (Tk AA b c=if k<(AA.getD c []).length then Aj AA c k else zD):=AI (by rw[Tk,hkN]);generalize Tk AA b c=ND at HD ⊢;generalize Ye AA b c=NI at HB ⊢;obtain⟨ad,cd,rfl,r3⟩:=r3;unfold Aj at HD;generalize AA.getD c []=ds at *;have j1:(0:Int)<=(c:Int):=KAK _;have j2:(c:Int)<(b.AK.length:Int):=by omega
 have j3:(c:Int)<(AA.length:Int):=by omega
 have k1:(0:Int)<=(k:Int):=KAK _;clear hcw hcx' h h' hkN hl;by_cases hlt:k<ds.length
 ·
  have HB:Hid (NI=true):=AI (by rw[HB.out,KAl hlt]);have HD:Hid (ND=ds.getD k zD):=AI (by rw[HD.out,KAP hlt]);rcases r3 with h0|⟨bd,od,rfl,hbd,hcd⟩
  . exfalso;rw[h0] at hlt;simp at hlt
  obtain⟨q0,q1,q2,q3⟩:=hcd k hlt;generalize ds.getD k zD=y at q0 q1 q2 q3 HD;obtain⟨y0,y1,y2,y3⟩:=y;simp only at q0 q1 q2 q3;have k2:(k:Int)<(ds.length:Int):=by omega
  have k3:((k:Int)==(ds.length:Int))=false:=by simp;omega
  clear hcd hn1;go_enter Tryz.func96,Tryz.ntmps96
  go_wp2;refine KA7 (Cm (by rfl) _ _ (w.heap.size+1) 82 #[.int .i64 y0,.int .i64 y1,.int .i64 y2,.int .i64 y3] (0,0) _ (.bool true) rfl (by rw[Bs,KAP (by rw[AD])]) rfl Tryz.underlying82 rfl (by kernel_rfl)) rfl ?_;exact⟨by rw[HD.out,HB.out],((AC.refl w).alloc _).alloc _⟩
 ·
  have HB2:Hid (NI=false):=AI (by rw[HB.out,KAi hlt]);have HD2:Hid (ND=zD):=AI (by rw[HD.out,KAQ hlt]);obtain rfl:k=ds.length:=by omega
  have k3:((ds.length:Int)==(ds.length:Int))=true:=by simp
  clear hn1 HB HD;go_enter Tryz.func96,Tryz.ntmps96
  go_wp2;refine KA7 (Cm (by rfl) _ _ (w.heap.size+1) 82 #[.int .i64 0,.int .i64 0,.int .i64 0,.int .i64 0] (0,0) _ (.bool false) rfl (by rw[Bs,KAP (by rw[AD])]) rfl Tryz.underlying82 rfl (by kernel_rfl)) rfl ?_;exact⟨by rw[HD2.out,HB2.out];rfl,((AC.refl w).alloc _).alloc _⟩
structure Yt (AA:List (List Dd))(b:Bd):Prop where
 n:b.AJ.length=AA.length
 x:b.AK.length=AA.length
 m:AA.length<=1048576
 each:∀c,c<AA.length->0<=b.AK.getD c 0/\b.AK.getD c 0<=((AA.getD c []).length:Int)/\(AA.getD c []).length<=1048576/\(b.AJ.getD c []).length<=1048576
theorem Yt.nx {AA:List (List Dd)}{b:Bd}(h:Yt AA b){c:Nat}(hc:c<AA.length):sJ AA b c:=
 ⟨hc,h.x,(h.each c hc).1,(h.each c hc).2.1,(h.each c hc).2.2.1⟩
theorem ZP (AA:List (List Dd))(b:Bd)(c:Nat):Ce AA b c=(Ye AA b c&&((decide ((Tk AA b c).1<=2)&&decide ((Tk AA b c).2.2.2=0))||(b.AJ.getD c []).isEmpty)):=by
 unfold Ce Ye Tk BP;by_cases h:Am b c<(AA.getD c []).length
 . rw[KAP h,KAl h]
 . rw[KAi h];rfl
theorem UT (w:World)(v:BV)(AA:List (List Dd))(b:Bd)(c:Nat)(h:Cw w v AA b)(hp:Yt AA b)(hc:c<AA.length):
  Calls Tryz.prog 94 #[v.agg,.int .i64 c] w fun e w'=>e = .returned (.bool (Ce AA b c))/\AC w w':=by
 have C:=fun (W:World) (kW:AC w W)=>IY W v AA b c (h.keep kW) (hp.nx hc)
 have HC:Hid (Ce AA b c=(Ye AA b c&&((decide ((Tk AA b c).1<=2)&&decide ((Tk AA b c).2.2.2=0))||(b.AJ.getD c []).isEmpty))):=AI (ZP AA b c);have hcn:c<b.AJ.length:=by rw[hp.n];exact hc
 have hN:=h.N;obtain⟨aW,aP,aL,aN,aX,aS,aF,aR,cW,cP,cL,cN,cX,cS,cF,cR,rfl⟩:=h.shapes;obtain⟨a',c',he',hN⟩:=hN;simp only[KAT,KA8] at he';obtain⟨rfl,rfl⟩:=he';rcases hN with h0|⟨bn,on,rfl,hbn,hcn'⟩
 . exfalso;rw[h0] at hcn;simp at hcn
 obtain⟨vn,d3,r3⟩:=hcn' c hcn;obtain⟨an,cn,rfl,-⟩:=r3;generalize Ce AA b c=ANS at HC ⊢;generalize Tk AA b c=D at C HC;generalize Ye AA b c=I at C HC;generalize b.AJ.getD c []=ns at *;obtain⟨y0,y1,y2,y3⟩:=D;simp only at HC;have j1:(0:Int)<=(c:Int):=KAK _;have j2:(c:Int)<(b.AJ.length:Int):=by omega
 clear hcn' h;go_enter Tryz.func94,Tryz.ntmps94
 go_wp2_with fail
 refine (C _ ((AC.refl w).alloc _)).mono ?_;rintro e w1 ⟨rfl,k1⟩;have K1:=((AC.refl w).alloc _).trans k1;have e3:w1.cell? ⟨w.heap.size,3,none⟩=some (.slice (some ⟨bn,on,none⟩) b.AJ.length cN):=AO k1 3;have d4:=(K1.cell hbn).trans d3;have s1:=K1.size;have z1:w.heap.size<w1.heap.size:=by have:=k1.size;simp at this;omega
 have z2:bn<w1.heap.size:=KAC hbn s1;have e5:(w1.alloc (.cells #[.int .i64 y0,.int .i64 y1,.int .i64 y2,.int .i64 y3] 82)).cell? ⟨w.heap.size,3,none⟩=some (.slice (some ⟨bn,on,none⟩) b.AJ.length cN):=(((AC.refl w1).alloc _).cell z1).trans e3;have e6:(w1.alloc (.cells #[.int .i64 y0,.int .i64 y1,.int .i64 y2,.int .i64 y3] 82)).cell? ⟨bn,on+c,none⟩=some (.slice an ns.length (ns.length+cn)):=(((AC.refl w1).alloc _).cell z2).trans d4;clear C d3;cases I
 ·
  have HE:Hid (ANS=false):=AI (by rw[HC.out];rfl);go_wp2;go_ret;exact⟨by rw[HE.out];rfl,K1.alloc _⟩
 ·
  by_cases h2:y0<=2
  ·
   by_cases h0:y3=0
   ·
    have HE:Hid (ANS=true):=AI (by rw[HC.out,KAl h2,KAl h0];rfl);have b0:(y3==0)=true:=by simp[h0]
    clear HC;subst h0;go_wp2;go_ret;exact⟨by rw[HE.out];rfl,K1.alloc _⟩
   ·
    have HE:Hid (ANS=ns.isEmpty):=AI (by rw[HC.out,KAl h2,KAi h0];simp);have b0:(y3==0)=false:=by simp[h0]
    have HQ:Hid (((ns.length:Int)==0)=ns.isEmpty):=AI (by cases ns<;>simp;omega);clear HC;go_wp2;go_ret;exact⟨by rw[HE.out,<-HQ.out];rfl,K1.alloc _⟩
  ·
   have HE:Hid (ANS=ns.isEmpty):=AI (by rw[HC.out,KAi h2];simp);have HQ:Hid (((ns.length:Int)==0)=ns.isEmpty):=AI (by cases ns<;>simp;omega);have h2':¬(y0<=2):=h2;clear HC;go_wp2;go_ret;exact⟨by rw[HE.out,<-HQ.out];rfl,K1.alloc _⟩
theorem wI {AA:List (List Dd)}{b:Bd}(h:Ap AA b=true):Yt AA b:=by
 have S:=Ee.of h;have u:=BM S.work;refine⟨S.AJ,S.AK,by omega,fun c hc=>?_⟩;have h1:=GD h hc;have h2:=u.2 c hc;simp only[GQ,KAO,KAN] at h2;have h3:=S.nl c;exact⟨h1.1,h1.2,by omega,by omega⟩
def DH (AA:List (List Dd))(b:Bd):List Int:=if Ap AA b=true then Aq AA b else []
section
section
variable {P:Program} {w:World}
theorem EY {o:Oper}{a:Act}{K:Act->World->Prop}{Q:Exit->Act->World->Prop}(s x:Operand)(t:TypeId)
  (ho:o.op = .call { callee:= .builtin .append,args:=#[s,x],argTypes:=#[t,t] })
  (base:Nat) (e:TypeId) (i:TypeInfo) (z:Value) (size bytes:Nat) (ht:P.underlying t=some (.slice e)) (hi:P.info? e=some i) (hz:i.zero=some z)
  (hsize:i.size=size) (hby:i.bytes=bytes) (hzs:z.cells.size=size) (hsz:0<size)
  (v:Value) (n:Nat) (xs:List Value) (hs:a.eval s=v) (hown:w.ownsRow base e size v n xs)
  (ad:Addr) (m c:Nat) (news:List Value) (hx:a.eval x = .slice (some ad) m c) (hl:news.length=m*size) (hnews:∀j u,news[j]? = some u->w.cell? (ad.add j)=some u) (h1:∀u∈news,u.oneCell'=true)
  (h63:n+m<=maxLen) (hbytes:(n+m)*bytes<=140737488355328) (hbase:base<=w.heap.size)
  (h:∀v' w',w'.ownsRow base e size v' (n+m) (xs++news)->w.grownBy w' v.ownBlock->(v'.ownBlock=v.ownBlock\/v'.ownBlock=some w.heap.size)->K (a.put o.dst v') w'):o.wp P a w K Q:=by
 obtain⟨v',w',hr,h2,h3,_,h5⟩:=run_append_own_at (P:=P) w base t o.type e i z size bytes ht hi hz hsize hby hzs hsz v n xs hown ad m c news hl hnews h1 h63 hbytes hbase;unfold Oper.wp execOp;simp only[ho,resolve,invoke,builtin,Sem.run_bind,KDL,KCo,KCs,KBy,KCY,hs,hx,hr];exact h v' w' h2 h3 h5
end
theorem Tryz.Z8:(Tryz.prog.info? 155).map (fun i=>(i.zero,i.size,i.bytes))=some (some (.agg #[.int .i64 0,.int .i64 0,.int .i64 0]),3,24):=by kernel_rfl
theorem Vq (ns:List Nt):(ns.flatMap cN).length=ns.length*3:=by
 induction ns with
 |nil=>rfl
 |cons d r ih=>rw[KBH,KAJ,ih,KBJ];simp[cN];omega
theorem je (ns:List Nt):∀u∈ns.flatMap cN,u.oneCell'=true:=fun u hu=>by
 obtain⟨x,_,hx⟩:=KDF.1 hu;simp only[cN,KBL,KBo,KCl] at hx;rcases hx with rfl|rfl|rfl<;>rfl
theorem qH (ns:List Nt):∀(i m:Nat),i<ns.length->m<3->(ns.flatMap cN)[i*3+m]? = (cN (ns.getD i zN))[m]?:=by
 induction ns with
 |nil=>intro i m hi _;simp at hi
 |cons d r ih=>
  intro i m hi hm;rw[KBH]
  cases i with
  |zero=>
   rw[KAu (by rw[Eg];omega)];simp
  |succ i=>
   rw[KAy (by rw[Eg];omega),Eg,show (i+1)*3+m-3=i*3+m by omega,ih i m (by simpa using hi) hm];simp
theorem Xu {w:World}{b off:Nat}{ns:List Nt}(h:∀i x,ns[i]? = some x->fZ cN w b (off+i*3) x):∀j u,(ns.flatMap cN)[j]? = some u->w.cell? ((⟨b,off,none⟩:Addr).add j)=some u:=fun j u hj=>by
 have hl:j<ns.length*3:=by rw[<-Vq];exact (KBE.1 hj).1
 have hi:j / 3<ns.length:=by omega
 have hm:j % 3<3:=Nat.mod_lt _ (by omega);have e:j=j / 3*3+j % 3:=by omega
 have h1:=qH ns (j / 3) (j % 3) hi hm;rw[<-e] at h1;rw[h1] at hj;have ea:(⟨b,off,none⟩:Addr).add j=⟨b,off+j / 3*3+j % 3,none⟩:=by rw[show off+j / 3*3+j % 3=off+j by omega];simp[Addr.add]
 rw[ea];exact h (j / 3) _ (Ky hi) (j % 3) u hj
theorem Hl {w:World}{o:Oper}{a:Act}{K:Act->World->Prop}{Q:Exit->Act->World->Prop}(s x:Operand)
  (ho:o.op = .call { callee:= .builtin .append,args:=#[s,x],argTypes:=#[151,151] })
  (base g:Nat) (hs:a.eval s = .slice (some ⟨g,0,none⟩) 0 0) (hown:B5 cN 155 3 w base (.slice (some ⟨g,0,none⟩) 0 0) [])
  (vx:Value) (hx:a.eval x=vx) (ns:List Nt) (hr:lV w vx ns) (hn:ns.length<=1048576) (hb:base<=w.heap.size)
  (h:∀v' w',B5 cN 155 3 w' base v' ns->w.grownBy w' (some g)->K (a.put o.dst v') w'):o.wp Tryz.prog a w K Q:=by
 obtain⟨i0,hi,hz0,hz1,hz2⟩:=KA3 Tryz.Z8;obtain⟨ax,cx,rfl,hr⟩:=hr;rcases hr with h0|⟨bx,ox,rfl,hbx,hcx⟩
 ·
  subst h0
  cases ax with
  |none=>
   have hh:=h (.slice (some ⟨g,0,none⟩) 0 0) w hown (KBW _ _);unfold Oper.wp execOp;simp only[ho,resolve,invoke,builtin,Sem.run_bind,KDL,KCo,KCs,KBy,KCY,hs,hx];go_simp;exact hh
  |some y=>
   refine wp_append_own w s x 151 ho base 155 i0 _ 3 24 Tryz.underlying151 hi hz0 hz1 hz2 rfl (by decide) _ 0 [] hs hown y 0 _ [] hx rfl (by simp) (by simp) (by simp) (by simp) hb ?_;intro v' w' h1 h2 _;exact h v' w' h1 h2
 ·
  refine wp_append_own w s x 151 ho base 155 i0 _ 3 24 Tryz.underlying151 hi hz0 hz1 hz2 rfl (by decide) _ 0 [] hs hown ⟨bx,ox,none⟩ ns.length _ (ns.flatMap cN) hx (Vq ns) (Xu hcx) (je ns) (by unfold maxLen;omega) (by omega) hb ?_;intro v' w' h1 h2 _;refine h v' w' ?_ h2;unfold B5
  simpa using h1
theorem C8 {w:World}{o:Oper}{a:Act}{K:Act->World->Prop}{Q:Exit->Act->World->Prop}(s x:Operand)
  (ho:o.op = .call { callee:= .builtin .append,args:=#[s,x],argTypes:=#[25,25] })
  (base:Nat) (v:Value) (zs:List Int) (hs:a.eval s=v) (hown:A8 w base v zs)
  (vx:Value) (hx:a.eval x=vx) (ys:List Int) (hr:Rd w vx ys) (hz:zs.length<=1048576) (hy:ys.length<=1048576) (hb:base<=w.heap.size)
  (h:∀v' w',A8 w' base v' (zs++ys)->w.grownBy w' v.ownBlock->(v'.ownBlock=v.ownBlock\/v'.ownBlock=some w.heap.size)->K (a.put o.dst v') w'):o.wp Tryz.prog a w K Q:=by
 obtain⟨i0,hi,hz0,hz1,hz2⟩:=KA3 Tryz.FM
 have law:∀(ad:Addr) (c:Nat),a.eval x = .slice (some ad) ys.length c->(∀j u,(ys.map (Value.int .i64))[j]? = some u->w.cell? (ad.add j)=some u)->o.wp Tryz.prog a w K Q:=fun ad c hx hn=>by
  refine EY s x 25 ho base 2 i0 _ 1 8 Tryz.underlying25 hi hz0 hz1 hz2 rfl (by decide) v zs.length (zs.map (Value.int .i64)) hs hown ad ys.length c (ys.map (Value.int .i64)) hx (by simp) hn (fun u hu=>?_) (by unfold maxLen;omega) (by omega) hb ?_
  . obtain⟨q,_,rfl⟩:=KAv.1 hu;rfl
  ·
   intro v' w' h1 h2 h3;refine h v' w' ?_ h2 h3;unfold A8;rw[KAJ,KBB];exact h1
 obtain⟨ax,cx,rfl,hr⟩:=hr;rcases hr with h0|⟨bx,ox,rfl,hbx,hcx⟩
 ·
  subst h0
  cases ax with
  |none=>
   have hh:=h v w (by rw[KBn];exact hown) (KBW _ _) (.inl rfl);rcases hown.2 with ⟨rfl,hn0⟩|⟨g,cap,cur,rfl,-,-,hcap,-⟩
   ·
    unfold Oper.wp execOp;simp only[ho,resolve,invoke,builtin,Sem.run_bind,KDL,KCo,KCs,KBy,KCY,hs,hx];go_simp;exact hh
   ·
    unfold Oper.wp execOp;simp only[ho,resolve,invoke,builtin,Sem.run_bind,KDL,KCo,KCs,KBy,KCY,hs,hx];go_simp;exact hh
  |some y=>exact law y _ hx (fun j u hu=>by simp at hu)
 ·
  refine law _ _ hx (fun j u hu=>?_);have hj:j<ys.length:=by have:=(KBE.1 hu).1;simpa using this
  have e:=hcx j hj;rw[KBN,KAH hj] at hu;simp only[Option.map_some,KAg] at hu;rw[IT,KAH hj] at e;simp only[KBR] at e;rw[<-hu]
  have ea:(⟨bx,ox,none⟩:Addr).add j=⟨bx,ox+j,none⟩:=by
   by_cases hj0:j=0
   . subst hj0;simp[Addr.add]
   . simp[Addr.add,hj0]
  rw[ea];exact e
end
theorem BG {w:World}{ops:Array Oper}{rest:List Oper}{o:Oper}{a:Act}{Q:Exit->Act->World->Prop}(hgd:o.guard=none)(s x:Operand)
  (ho:o.op = .call { callee:= .builtin .append,args:=#[s,x],argTypes:=#[25,25] })
  (base:Nat) (v:Value) (zs:List Int) (hs:a.eval s=v) (hown:A8 w base v zs)
  (vx:Value) (hx:a.eval x=vx) (ys:List Int) (hr:Rd w vx ys) (hz:zs.length<=1048576) (hy:ys.length<=1048576) (hb:base<=w.heap.size)
  (h:∀v' w',A8 w' base v' (zs++ys)->w.grownBy w' v.ownBlock->(v'.ownBlock=v.ownBlock\/v'.ownBlock=some w.heap.size)->wpList Tryz.prog ops Q rest (a.put o.dst v') w'):wpList Tryz.prog ops Q (o::rest) a w:=
 wpList_plain hgd fun _ hK=>C8 s x ho base v zs hs hown vx hx ys hr hz hy hb (fun v' w' h1 h2 h3=>hK _ _ (h v' w' h1 h2 h3))
section
theorem Gs {x:Bool}{C:Prop}(h:x=true)(q:x=false):C:=absurd (h.symm.trans q) (by simp)
def AY (B:Nat->Bool)(i:Nat):Nat->Bool:=fun k=>if k=i then true else B k
def Dw (rows:List Nat)(B:Nat->Bool)(j:Nat):Prop:=j∈rows/\B j=true
theorem Lj {rows:List Nat}{B:Nat->Bool}{i j:Nat}(h:Dw rows (AY B i) j):Dw rows B j\/j=i:=by
 obtain⟨h1,h2⟩:=h;by_cases e:j=i
 . exact .inr e
 ·
  refine .inl ⟨h1,?_⟩;unfold AY at h2;rw[KAQ e] at h2;exact h2
theorem Ei {rows:List Nat}{B:Nat->Bool}{i j:Nat}(hi:i∉rows)(h:Dw rows (AY B i) j):Dw rows B j:=by
 rcases Lj h with q|rfl
 . exact q
 . exact absurd h.1 hi
structure Mk (w:World)(m:Nat)(live:Nat->Prop)(R:Nat->Rw)(wk:Bool)(vW:Value)(bs N:Nat)(AA:List (List Dd)):Prop where
 Ag:GU w m live R
 work:wk=true->Jh w bs N vW AA/\N<=w.heap.size/\m<=bs
 out:wk=true->∀i,live i->∀k,(R i).v.ownBlock=some k->k<bs\/N<=k
section
variable {w w':World} {m:Nat} {rows:List Nat} {B:Nat->Bool} {R:Nat->Rw} {wk:Bool} {vW:Value} {bs N:Nat} {AA:List (List Dd)}
theorem Mk.start (w:World)(m:Nat)(rows:List Nat)(R:Nat->Rw)(vW:Value)(bs N:Nat)(AA:List (List Dd)):Mk w m (Dw rows (fun _=>false)) R false vW bs N AA:=
 ⟨⟨fun _ h=>(by cases h.2),fun _ _ h=>(by cases h.2)⟩,fun h=>(by cases h),fun h=>(by cases h)⟩
theorem Mk.keep {live:Nat->Prop}(h:Mk w m live R wk vW bs N AA)(k:AC w w'):Mk w' m live R wk vW bs N AA:=
 ⟨h.Ag.keep k,fun e=>⟨(h.work e).1.kept k.grownBy (by simp),KAU (h.work e).2.1 k.size,(h.work e).2.2⟩,h.out⟩
theorem Mk.pass (h:Mk w m (Dw rows B) R wk vW bs N AA){i:Nat}(hi:i∉rows):Mk w m (Dw rows (AY B i)) R wk vW bs N AA:=
 ⟨h.Ag.congr (fun _ hj=>Ei hi hj) (fun _ _=>rfl),h.work,fun e j hj=>h.out e j (Ei hi hj)⟩
theorem Mk.add (h:Mk w m (Dw rows B) R wk vW bs N AA){i:Nat}(hi:B i=false){r:Rw}(k:AC w w')(ho:r.own w' m)(hn:∀b,r.v.ownBlock=some b->w.heap.size<=b):Mk w' m (Dw rows (AY B i)) (JR R i r) wk vW bs N AA:=by
 have F:=h.Ag.add (i:=i) (fun q=>by have q2:=q.2;rw[hi] at q2;cases q2) (r:=r) rfl k ho hn;refine⟨F.congr (fun j hj=>Lj hj) (fun _ _=>rfl),(h.keep k).work,fun e j hj b hb=>?_⟩;by_cases ej:j=i
 ·
  subst ej;rw[Ao] at hb;have:=hn b hb;have:=(h.work e).2.1;right;omega
 ·
  rw[AV _ _ ej] at hb;exact h.out e j ((Lj hj).resolve_right ej) b hb
theorem Mk.copied (h:Mk w m (Dw rows B) R false vW bs N AA){i:Nat}(hi:i∉rows){v':Value}(k:AC w w')(hx:Ro w' w.heap.size v' AA)(hm:m<=w.heap.size):Mk w' m (Dw rows (AY B i)) R true v' w.heap.size w'.heap.size AA:=
 ⟨(h.Ag.keep k).congr (fun _ hj=>Ei hi hj) (fun _ _=>rfl),fun _=>⟨hx.upto,KAM _,hm⟩,fun _ _ hj b hb => .inl (h.Ag.lt (Ei hi hj) b hb).2⟩
theorem Mk.turn (h:Mk w m (Dw rows B) R wk vW bs N AA){i j:Nat}(hi:i∉rows)(hj:Dw rows B j){r:Rw}(hg:w.grownBy w' (R j).v.ownBlock)(hv:r.v=(R j).v)(ho:r.own w' m):Mk w' m (Dw rows (AY B i)) (JR R j r) wk vW bs N AA:=by
 have F:=h.Ag.set hj (r:=r) hg (.inl (by rw[hv])) ho;refine⟨F.congr (fun _ q=>Ei hi q) (fun _ _=>rfl),fun e=>⟨(h.work e).1.kept hg (fun g e'=>h.out e j hj g e'),KAU (h.work e).2.1 hg.size,(h.work e).2.2⟩,fun e q hq b hb=>?_⟩;by_cases eq:q=j
 ·
  subst eq;rw[Ao,hv] at hb;exact h.out e q hj b hb
 ·
  rw[AV _ _ eq] at hb;exact h.out e q (Ei hi hq) b hb
end
theorem GU.via {ι κ:Type}{w:World}{m:Nat}{live:ι->Prop}{R:ι->Rw}(h:GU w m live R)(g:κ->Option ι)(inj:∀a b i,g a=some i->g b=some i->a=b){live':κ->Prop}{R':κ->Rw}
  (h1:∀a i,live' a->g a=some i->live i/\R' a=R i) (h2:∀a,live' a->g a=none->(R' a).own w m/\(R' a).v.ownBlock=none):GU w m live' R':=by
 refine⟨fun a ha=>?_,fun a b ha hb hab=>?_⟩
 ·
  cases e:g a with
  |none=>exact (h2 a ha e).1
  |some i=>rw[(h1 a i ha e).2];exact h.own i (h1 a i ha e).1
 ·
  cases e:g a with
  |none=>exact .inl (h2 a ha e).2
  |some i=>
   cases e':g b with
   |none=>
    rw[(h2 b hb e').2]
    cases (R' a).v.ownBlock with
    |none=>exact .inl rfl
    |some q=>exact .inr (by simp)
   |some j=>
    rw[(h1 a i ha e).2,(h1 b j hb e').2];exact h.apart i j (h1 a i ha e).1 (h1 b j hb e').1 (fun q=>by subst q;exact hab (inj a b i e e'))
theorem Ig (w:World)(m:Nat)(t:TypeId)(s:Nat):Rw.own w m ⟨t,s,AF,0,[]⟩:=⟨by simp,.inl ⟨rfl,rfl⟩⟩
theorem LC (w:World){m:Nat}(hm:m<=w.heap.size)(t:TypeId)(cs:Array Value)(h:cs.size<=maxLen):Rw.own (w.alloc (.cells cs t)) m ⟨t,1,.slice (some ⟨w.heap.size,0,none⟩) cs.size cs.size,cs.size,cs.toList⟩:=by
 refine⟨by simp,.inr ⟨w.heap.size,cs.size,cs,rfl,hm,KAX w _,KAM _,h,by simp,?_⟩⟩;rw[KCj];exact KBS (by simp)
section
variable {P:Program} {ops:Array Oper} {Q:Exit->Act->World->Prop} {md:Region.Mode}
theorem Bi {listed:Array Bool}(h:Region.ready md ops listed=[])(i:Nat)(o:Oper)(ho:ops[i]? = some o)(hd:o.after.all (fun e=>!Region.binds md e||listed.getD e.on false)=true):listed.getD i true=true:=by
 cases e:listed.getD i true with
 |true=>rfl
 |false=>
  exfalso;have hi:i<ops.size:=(KAm.1 ho).1
  have:i∈Region.ready md ops listed:=by
   unfold Region.ready;rw[KBF,KAd];refine⟨hi,?_⟩;simp only[KAO,Bool.not_eq_true'];refine⟨e,?_⟩;rw[ho];exact hd
  rw[h] at this;cases this
theorem AH {listed:Array Bool}{i:Nat}(h:i∈Region.ready md ops listed)(k:Nat){o:Oper}(ho:ops[i]? = some o)(he:o.after.any (fun e=>e.on==k&&Region.binds md e)=true):listed.getD k false=true:=by
 have h1:=(AE h).2.2 o ho;rw[Array.any_eq_true'] at he;obtain⟨e,hm,he⟩:=he;rw[Array.all_eq_true'] at h1;have h2:=h1 e hm;rw[KAO,KCp] at he;rw[he.2,he.1] at h2
 simpa using h2
theorem Dx {listed:Array Bool}(h:Region.ready md ops listed=[])(hs:listed.size=ops.size)(ha:(List.range ops.size).all (fun i=>match ops[i]? with|some o=>o.after.all (fun e=>decide (e.on<i))|none=>true)=true):∀i,i<ops.size->listed.getD i false=true:=by
 intro i
 induction i using Nat.strongRecOn with
 |ind i ih=>
  intro hi;have hi':=KAx.1 ha i (KAd.2 hi);rw[KBq hi] at hi'
  have h1:=Bi h i ops[i] (KBq hi) (by
   rw[Array.all_eq_true'];intro e he;have h2:=(Array.all_eq_true'.1 hi') e he;rw[KAN] at h2;rw[ih e.on h2 (by omega)]
   simp)
  rw[Array.getD_eq_getD_getElem?,KBq (by omega)] at h1 ⊢;exact h1
theorem AG {i:Nat}{o:Oper}{K:Act->World->Prop}{a:Act}{w:World}(ho:ops[i]? = some o)(hg:Region.wanted o (yielded ops a.tmps)=true)
  (h:∀K':Act->World->Prop,Shut (∀a w,K a w->K' a w)->Oper.wp P o a w K' Q):wpOp P ops Q i K a w:=wpOp_step ho (fun K' hK=>by rw[KAP hg];exact h K' hK)
end
theorem LQ {o:Oper}{a:Act}{w:World}{K:Act->World->Prop}{Q:Exit->Act->World->Prop}(x y:Operand)(ho:o.op = .makeSlice 25 x y)(n:Nat)(hx:a.eval x = .int .i64 (n:Int))(hy:a.eval y = .int .i64 (n:Int))(hn:n<=1048576)(m:Nat)(hm:m<=w.heap.size)
  (h:∀w',A8 w' m (.slice (some ⟨w.heap.size,0,none⟩) n n) (List.replicate n 0)->AC w w'->K (a.put o.dst (.slice (some ⟨w.heap.size,0,none⟩) n n)) w'):o.wp Tryz.prog a w K Q:=by
 obtain⟨i0,hi,hz0,hz1,hz2⟩:=KA3 Tryz.FM;obtain⟨w',hrun,r1,r2⟩:=run_make_full (P:=Tryz.prog) w m 25 2 i0 (.int .i64 0) 1 Tryz.underlying25 hi hz0 hz1 .i64 .i64 n (by rw[hz2];omega) (by unfold maxLen;omega) hm;unfold Oper.wp;simp[execOp,ho,hx,hy,hrun,Result.andThen];refine h w' ?_ ((AC.refl w).grown r2 (by simp));unfold A8;rw[KCj,show (Value.int .i64 0).cells=#[.int .i64 0] from rfl,toList_madeCells_one] at r1
 simpa using r1
theorem GN {g n cap b:Nat}(h:(Value.slice (some ⟨g,0,none⟩) n cap).ownBlock=some b):g<=b:=KBP (KAI h)
end
end Go.Proofs.YtflehmepjhikcaaGreatDoor
