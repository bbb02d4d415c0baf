/- Gathered texts. -/
import Derived.Test.YtnmelakgmgenjaaGreatMI
import Derived.Outline
import Derived.Lib.Hide
import Derived.RegionTactic
import Derived.Deep.QuietTactic
import Derived.BigQuiet
import Derived.Maps.AppendAt
import Derived.Laws.OwnMore
import Derived.Deep.Cut
set_option maxRecDepth 100000
set_option maxHeartbeats 8000000
namespace Go.Proofs.YtnmelakgmgenjaaGreat
open Go.ChangeShapes Go.WideShapes Go.ChangeAt Go.RowKit
theorem C2.kept {w w':World}{base:Nat}{v:Value}{ds:List Dd}{row:Option Nat}(h:C2 w base v ds)(hg:w.grownBy w' row)(hne:v.ownBlock=none\/v.ownBlock≠row):C2 w' base v ds:=
 World.ownsRow.kept h hg hne
theorem C2.lt {w:World}{base:Nat}{v:Value}{ds:List Dd}(h:C2 w base v ds):∀k,v.ownBlock=some k->base<=k/\k<w.heap.size:=World.ownsRow.lt h
theorem C2.BM {w:World}{base base':Nat}{v:Value}{ds:List Dd}(h:C2 w base v ds)(hb:base'<=base):C2 w base' v ds:=by
 refine⟨h.1,?_⟩;rcases h.2 with q|⟨g,cap,cur,e,hg,r⟩
 . exact .inl q
 . exact .inr ⟨g,cap,cur,e,Nat.le_trans hb hg,r⟩
theorem Ki {v:Value}{base c:Nat}(h:∀k,v.ownBlock=some k->base<=k)(hc:c<base):v.ownBlock=none\/v.ownBlock≠some c:=by
 cases hv:v.ownBlock with
 |none=>exact .inl rfl
 |some k=>exact .inr (fun e=>by have:=h k hv;simp at e;omega)
theorem Zu (ds:List Dd)(k:Nat)(x:Int):k<ds.length->(ds.flatMap cD).set (k*4+3) (.int .i64 x)=(ds.set k ((ds.getD k zD).1,(ds.getD k zD).2.1,(ds.getD k zD).2.2.1,x)).flatMap cD:=by
 induction ds generalizing k with
 |nil=>intro hk;simp at hk
 |cons d r ih=>
  intro hk
  cases k with
  |zero=>simp[cD]
  |succ k=>
   have h1:=ih k (by simpa using hk);rw[List.flatMap_cons,List.set_append_right _ _ (by simp[cD];omega),show (k+1)*4+3-(cD d).length=k*4+3 by simp[cD];omega,h1];simp
theorem C2.put {w:World}{base g n c:Nat}{ds:List Dd}(h:C2 w base (.slice (some ⟨g,0,none⟩) n c) ds){k:Nat}(hk:k<ds.length)(x:Int):
  C2 (w.setCell ⟨g,k*4+3,none⟩ (.int .i64 x)) base (.slice (some ⟨g,0,none⟩) n c) (ds.set k ((ds.getD k zD).1,(ds.getD k zD).2.1,(ds.getD k zD).2.2.1,x)):=by
 have hlen:(ds.flatMap cD).length=ds.length*4:=h.1;have e:=Zu ds k x hk;rcases h.2 with ⟨q,_⟩|⟨g',cap,cur,e1,hb,hg,hc1,hc2,hs,ht⟩
 . cases q
 ·
  simp only[Value.slice.injEq,Option.some.injEq,Addr.mk.injEq,and_true] at e1;obtain⟨rfl,rfl,rfl⟩:=e1;refine⟨by rw[<-e,List.length_set,List.length_set];exact hlen,.inr ⟨g,_,cur.setIfInBounds (k*4+3) (.int .i64 x),by rw[List.length_set],hb,?_,by rw[List.length_set];exact hc1,hc2,by simpa using hs,?_⟩⟩
  . rw[heap_setCell_same w g (k*4+3) _ _ _ hg]
  . rw[Array.toList_setIfInBounds,List.length_set,List.take_set,ht,e]
structure Di (w:World)(base N:Nat)(v:Value)(V:Nat->Value)(AA:List (List Dd)):Prop where
 row:w.ownsRow base 62 1 v AA.length ((List.range AA.length).map V)
 lt:∀k,v.ownBlock=some k->k<N
 each:∀i,i<AA.length->C2 w base (V i) (AA.getD i [])
 nH:∀i,i<AA.length->∀k,(V i).ownBlock=some k->k<N
 out:∀i,i<AA.length->∀k,(V i).ownBlock=some k->v.ownBlock≠some k
 apart:∀i j,i<j->j<AA.length->∀k,(V i).ownBlock=some k->(V j).ownBlock≠some k
theorem Di.kept {w w':World}{base N c:Nat}{v:Value}{V:Nat->Value}{AA:List (List Dd)}(h:Di w base N v V AA)(hg:w.grownBy w' (some c))(hc:c<base):Di w' base N v V AA:=
 ⟨World.ownsRow.kept h.row hg (Ki (fun k hk=>(World.ownsRow.lt h.row k hk).1) hc),h.lt,fun i hi=>(h.each i hi).kept hg (Ki (h.each i hi).ge hc),h.nH,h.out,h.apart⟩
theorem Di.keep {w w':World}{base N:Nat}{v:Value}{V:Nat->Value}{AA:List (List Dd)}(h:Di w base N v V AA)(k:AC w w'):Di w' base N v V AA:=
 ⟨World.ownsRow.kept h.row k.grownBy (by cases v.ownBlock<;>simp),h.lt,fun i hi=>(h.each i hi).keep k,h.nH,h.out,h.apart⟩
theorem Di.up {w:World}{base N N':Nat}{v:Value}{V:Nat->Value}{AA:List (List Dd)}(h:Di w base N v V AA)(hN:N<=N'):Di w base N' v V AA:=
 ⟨h.row,fun k hk=>Nat.lt_of_lt_of_le (h.lt k hk) hN,h.each,fun i hi k hk=>Nat.lt_of_lt_of_le (h.nH i hi k hk) hN,h.out,h.apart⟩
theorem OH (V:Nat->Value)(n i:Nat)(h:i<n):((List.range n).map V)[i]? = some (V i):=by
 rw[List.getElem?_map,List.getElem?_range h];rfl
theorem Di.at {w:World}{base N:Nat}{v:Value}{V:Nat->Value}{AA:List (List Dd)}(h:Di w base N v V AA)(hn:0<AA.length):
  ∃g c,v = .slice (some ⟨g,0,none⟩) AA.length c/\base<=g/\g<N/\g<w.heap.size/\AA.length<=c/\(∀i,i<AA.length->w.cell? ⟨g,i,none⟩=some (V i))/\∀i,w.frozen? ⟨g,i,none⟩=false:=by
 have h2:=h.row;have hlt:=World.ownsRow.lt h2;have hN:=h.lt;rcases h2.2 with ⟨_,hz⟩|⟨g,cap,cur,rfl,hb,hg,hc,_⟩
 . omega
 ·
  refine⟨g,cap,rfl,hb,hN g rfl,(hlt g rfl).2,hc,fun i hi=>?_,fun i=>frozen_of_row w g i _ _ hg⟩;rw[World.ownsRow.cellAt h2 i (by simpa using hi),OH V _ i hi]
theorem Di.rdW {w:World}{base N:Nat}{v:Value}{V:Nat->Value}{AA:List (List Dd)}(h:Di w base N v V AA):Fz w v AA:=by
 by_cases hn:0<AA.length
 ·
  obtain⟨g,c,rfl,_,_,hg,_,hc,_⟩:=h.at hn;exact⟨_,_,rfl,.inr ⟨g,0,rfl,hg,fun i hi=>⟨V i,by rw[Nat.zero_add];exact hc i hi,(h.each i hi).Uw.rd⟩⟩⟩
 ·
  have h0:AA=[]:=List.eq_nil_of_length_eq_zero (by omega);subst h0;rcases h.row.2 with ⟨rfl,_⟩|⟨g,cap,cur,rfl,_⟩
  . exact⟨none,0,rfl,.inl rfl⟩
  . exact⟨_,_,rfl,.inl rfl⟩
theorem Wj.kept {w w':World}{base c:Nat}{v:Value}{AA:List (List Dd)}(h:Wj w base v AA)(hg:w.grownBy w' (some c))(hc:c<base):Wj w' base v AA:=by
 obtain⟨a,cap,hv,h⟩:=h;refine⟨a,cap,hv,?_⟩;rcases h with h|⟨b,off,ha,hbb,hb,hl⟩
 . exact .inl h
 ·
  refine .inr ⟨b,off,ha,hbb,Nat.lt_of_lt_of_le hb hg.size,fun i hi=>?_⟩;obtain⟨vi,h1,h2⟩:=hl i hi;have hblk:w'.heap[b]? = w.heap[b]?:=hg.block b hb (by simp;omega);refine⟨vi,?_,h2.kept hg (Ki h2.ge hc)⟩;simp only[World.cell?,hblk] at h1 ⊢;exact h1
theorem Di.rdX {w:World}{base N:Nat}{v:Value}{V:Nat->Value}{AA:List (List Dd)}(h:Di w base N v V AA):Wj w base v AA:=by
 by_cases hn:0<AA.length
 ·
  obtain⟨g,c,rfl,hb,_,hg,_,hc,_⟩:=h.at hn;exact⟨_,_,rfl,.inr ⟨g,0,rfl,hb,hg,fun i hi=>⟨V i,by rw[Nat.zero_add];exact hc i hi,h.each i hi⟩⟩⟩
 ·
  have h0:AA=[]:=List.eq_nil_of_length_eq_zero (by omega);subst h0;rcases h.row.2 with ⟨rfl,_⟩|⟨g,cap,cur,rfl,_⟩
  . exact⟨none,0,rfl,.inl rfl⟩
  . exact⟨_,_,rfl,.inl rfl⟩
theorem Di.push {w w1:World}{base N:Nat}{v v' u:Value}{V:Nat->Value}{AA:List (List Dd)}{ds:List Dd}(h:Di w base N v V AA)(hu:C2 w N u ds)(hb:base<=N)
  (hown:w1.ownsRow base 62 1 v' (AA.length+1) ((List.range AA.length).map V++[u])) (hgrow:w.grownBy w1 v.ownBlock) (hblk:v'.ownBlock=v.ownBlock\/v'.ownBlock=some w.heap.size) (hN:N<=w.heap.size):
  Di w1 base w1.heap.size v' (fun i=>if i=AA.length then u else V i) (AA++[ds]):=by
 have hl:(AA++[ds]).length=AA.length+1:=by simp
 have hs:=hgrow.size;have vne:∀k,u.ownBlock=some k->v.ownBlock≠some k:=fun k hk e=>by have:=(hu.lt k hk).1;have:=h.lt k e;omega
 have older:∀i,i<AA.length+1->i≠AA.length->i<AA.length:=fun i h1 h2=>by omega
 refine⟨?_,fun k hk=>(World.ownsRow.lt hown k hk).2,fun i hi=>?_,fun i hi k hk=>?_,fun i hi k hk=>?_,fun i j hij hj k hk=>?_⟩
 ·
  rw[hl,List.range_succ,List.map_append]
  have e:(List.range AA.length).map (fun i=>if i=AA.length then u else V i)=(List.range AA.length).map V:=by
   apply List.map_congr_left;intro i hi;rw[List.mem_range] at hi;rw[if_neg (by omega)]
  rw[e]
  simpa using hown
 ·
  rw[hl] at hi;by_cases e:i=AA.length
  ·
   subst e;rw[if_pos rfl,D7 AA ds []];refine (hu.BM hb).kept hgrow ?_
   cases hv:u.ownBlock with
   |none=>exact .inl rfl
   |some k=>exact .inr (fun e=>vne k hv e.symm)
  ·
   rw[if_neg e,DK AA [ds] i [] (older i hi e)];refine (h.each i (older i hi e)).kept hgrow ?_
   cases hv:(V i).ownBlock with
   |none=>exact .inl rfl
   |some k=>exact .inr (fun e2=>h.out i (older i hi e) k hv e2.symm)
 ·
  rw[hl] at hi;by_cases e:i=AA.length
  ·
   rw[if_pos e] at hk;have:=(hu.lt k hk).2;omega
  ·
   rw[if_neg e] at hk;have:=h.nH i (older i hi e) k hk;omega
 ·
  rw[hl] at hi;by_cases e:i=AA.length
  ·
   rw[if_pos e] at hk;rcases hblk with e2|e2
   . rw[e2];exact vne k hk
   ·
    rw[e2];have:=(hu.lt k hk).2;simp only[ne_eq,Option.some.injEq];omega
  ·
   rw[if_neg e] at hk;rcases hblk with e2|e2
   . rw[e2];exact h.out i (older i hi e) k hk
   ·
    rw[e2];have:=h.nH i (older i hi e) k hk;simp only[ne_eq,Option.some.injEq];omega
 ·
  rw[hl] at hj;rw[if_neg (show i≠AA.length by omega)] at hk;by_cases e:j=AA.length
  ·
   rw[if_pos e];intro e2;have:=(hu.lt k e2).1;have:=h.nH i (by omega) k hk;omega
  ·
   rw[if_neg e];exact h.apart i j hij (by omega) k hk
theorem Xl {α:Type}(l:List α)(i j:Nat)(x z:α)(hi:i<l.length):(l.set i x).getD j z=if i=j then x else l.getD j z:=by
 rw[List.getD_eq_getElem?_getD,List.getElem?_set];by_cases e:i=j
 . subst e;rw[if_pos rfl,if_pos hi,if_pos rfl];rfl
 . rw[if_neg e,if_neg e,List.getD_eq_getElem?_getD]
theorem Di.put {w:World}{base N:Nat}{v:Value}{V:Nat->Value}{AA:List (List Dd)}(h:Di w base N v V AA){i k g n c:Nat}(hi:i<AA.length)(hV:V i = .slice (some ⟨g,0,none⟩) n c)(hk:k<(AA.getD i []).length)(x:Int):
  ∃ds,ds.length=(AA.getD i []).length/\Di (w.setCell ⟨g,k*4+3,none⟩ (.int .i64 x)) base N v V (AA.set i ds):=by
 have ob:(V i).ownBlock=some g:=by rw[hV];rfl
 have hg:=D8 w g (k*4+3) (.int .i64 x);have hap:=h.each i hi;rw[hV] at hap;refine⟨(AA.getD i []).set k (((AA.getD i []).getD k zD).1,((AA.getD i []).getD k zD).2.1,((AA.getD i []).getD k zD).2.2.1,x),by rw[List.length_set],⟨?_,h.lt,fun j hj=>?_,fun j hj=>h.nH j (by simpa using hj),fun j hj=>h.out j (by simpa using hj),fun a b hab hb=>h.apart a b hab (by simpa using hb)⟩⟩
 ·
  rw[List.length_set];refine World.ownsRow.kept h.row hg ?_;exact .inr (h.out i hi g ob)
 ·
  rw[List.length_set] at hj;rw[Xl AA i j _ [] hi];by_cases e:i=j
  ·
   subst e;rw[if_pos rfl,hV];exact hap.put hk x
  ·
   rw[if_neg e];refine (h.each j hj).kept hg ?_
   cases hv:(V j).ownBlock with
   |none=>exact .inl rfl
   |some q=>
    refine .inr (fun e2=>?_);simp only[Option.some.injEq] at e2;subst e2;rcases Nat.lt_or_gt_of_ne e with hl|hl
    . exact h.apart i j hl hj q ob hv
    . exact h.apart j i hl hi q hv ob
section
section
variable {w w1 w2 w':World} {m D:Nat} {v:BV} {nv rv:List Value} {bs N:Nat} {AA:List (List Dd)} {b:Bd}
theorem AU.Z3 (h:AU w m D v nv rv bs N AA b){u:Value}{zs:List Int}(hg:w.grownBy w2 v.P.ownBlock)(hb:u.ownBlock=v.P.ownBlock\/u.ownBlock=some w.heap.size\/u.ownBlock=none)(ho:BO w2 m u zs):
  AU (w2.setCell ⟨D,1,none⟩ u) m D { v with P:=u } nv rv bs N AA { b with AM:=zs }/\w2.cell? ⟨D,1,none⟩=some v.P/\w2.frozen? ⟨D,1,none⟩=false:=by
 have F1:=h.Ag.set (i:= .AM) trivial (r:=Bk zs u) hg hb ho;have o1:(Gx D v).own w2 m:=F1.own .bd trivial;obtain⟨q1,q2,q3⟩:=JU (k:=1) (x:=u) (v':={ v with P:=u }) o1 rfl;have F2:=F1.set (i:= .bd) trivial (r:=Gx D { v with P:=u }) q2 (.inl rfl) q1;have hf:∀j,Av D { v with P:=u } nv rv { b with AM:=zs } j=IX (IX (Av D v nv rv b) .AM (Bk zs u)) .bd (Gx D { v with P:=u }) j:=fun j=>by cases j<;>rfl
 refine⟨h.mk2 (F2.congr (fun _ hj=>hj) (fun j _=>hf j)) h.ln h.lr rfl (Nat.le_trans hg.size q2.size) ((h.work.kept hg (fun g e=>h.out .AM trivial g e)).kept q2 h.nD) (fun j hj k hk=>?_),(h.stay .AM trivial (by simp) hg 1).trans h.cells.2.1,q3⟩;by_cases e:j = .AM
 ·
  subst e;have hk:u.ownBlock=some k:=hk;rcases hb with e|e|e
  . exact .inl ⟨.AM,trivial,by rw[<-hk,e];rfl⟩
  . rw[e] at hk;exact .inr (Nat.le_of_eq (Option.some.inj hk))
  . rw[e] at hk;cases hk
 ·
  refine .inl ⟨j,hj,?_⟩;cases j<;>first|exact hk|exact absurd rfl e
theorem AU.Z0 (h:AU w m D v nv rv bs N AA b){u:Value}{zs:List Int}(hg:w.grownBy w2 v.L.ownBlock)(hb:u.ownBlock=v.L.ownBlock\/u.ownBlock=some w.heap.size\/u.ownBlock=none)(ho:BO w2 m u zs):
  AU (w2.setCell ⟨D,2,none⟩ u) m D { v with L:=u } nv rv bs N AA { b with AQ:=zs }/\w2.cell? ⟨D,2,none⟩=some v.L/\w2.frozen? ⟨D,2,none⟩=false:=by
 have F1:=h.Ag.set (i:= .AQ) trivial (r:=Bk zs u) hg hb ho;have o1:(Gx D v).own w2 m:=F1.own .bd trivial;obtain⟨q1,q2,q3⟩:=JU (k:=2) (x:=u) (v':={ v with L:=u }) o1 rfl;have F2:=F1.set (i:= .bd) trivial (r:=Gx D { v with L:=u }) q2 (.inl rfl) q1;have hf:∀j,Av D { v with L:=u } nv rv { b with AQ:=zs } j=IX (IX (Av D v nv rv b) .AQ (Bk zs u)) .bd (Gx D { v with L:=u }) j:=fun j=>by cases j<;>rfl
 refine⟨h.mk2 (F2.congr (fun _ hj=>hj) (fun j _=>hf j)) h.ln h.lr rfl (Nat.le_trans hg.size q2.size) ((h.work.kept hg (fun g e=>h.out .AQ trivial g e)).kept q2 h.nD) (fun j hj k hk=>?_),(h.stay .AQ trivial (by simp) hg 2).trans h.cells.2.2.1,q3⟩;by_cases e:j = .AQ
 ·
  subst e;have hk:u.ownBlock=some k:=hk;rcases hb with e|e|e
  . exact .inl ⟨.AQ,trivial,by rw[<-hk,e];rfl⟩
  . rw[e] at hk;exact .inr (Nat.le_of_eq (Option.some.inj hk))
  . rw[e] at hk;cases hk
 ·
  refine .inl ⟨j,hj,?_⟩;cases j<;>first|exact hk|exact absurd rfl e
theorem AU.Z4 (h:AU w m D v nv rv bs N AA b){u:Value}{zs:List Int}(hg:w.grownBy w2 v.X.ownBlock)(hb:u.ownBlock=v.X.ownBlock\/u.ownBlock=some w.heap.size\/u.ownBlock=none)(ho:BO w2 m u zs):
  AU (w2.setCell ⟨D,4,none⟩ u) m D { v with X:=u } nv rv bs N AA { b with AK:=zs }/\w2.cell? ⟨D,4,none⟩=some v.X/\w2.frozen? ⟨D,4,none⟩=false:=by
 have F1:=h.Ag.set (i:= .AK) trivial (r:=Bk zs u) hg hb ho;have o1:(Gx D v).own w2 m:=F1.own .bd trivial;obtain⟨q1,q2,q3⟩:=JU (k:=4) (x:=u) (v':={ v with X:=u }) o1 rfl;have F2:=F1.set (i:= .bd) trivial (r:=Gx D { v with X:=u }) q2 (.inl rfl) q1;have hf:∀j,Av D { v with X:=u } nv rv { b with AK:=zs } j=IX (IX (Av D v nv rv b) .AK (Bk zs u)) .bd (Gx D { v with X:=u }) j:=fun j=>by cases j<;>rfl
 refine⟨h.mk2 (F2.congr (fun _ hj=>hj) (fun j _=>hf j)) h.ln h.lr rfl (Nat.le_trans hg.size q2.size) ((h.work.kept hg (fun g e=>h.out .AK trivial g e)).kept q2 h.nD) (fun j hj k hk=>?_),(h.stay .AK trivial (by simp) hg 4).trans h.cells.2.2.2.2.1,q3⟩;by_cases e:j = .AK
 ·
  subst e;have hk:u.ownBlock=some k:=hk;rcases hb with e|e|e
  . exact .inl ⟨.AK,trivial,by rw[<-hk,e];rfl⟩
  . rw[e] at hk;exact .inr (Nat.le_of_eq (Option.some.inj hk))
  . rw[e] at hk;cases hk
 ·
  refine .inl ⟨j,hj,?_⟩;cases j<;>first|exact hk|exact absurd rfl e
end
structure Dk (w:World)(bs N:Nat)(v:Value)(wv:List Value)(AA:List (List Dd)):Prop where
 ll:C4 62 Tv w bs v wv AA
 lt:∀o,ED wv.length o->∀k,(LI 62 Tv v wv AA o).v.ownBlock=some k->k<N
theorem Dk.kept {w w':World}{bs N:Nat}{v:Value}{wv:List Value}{AA:List (List Dd)}(h:Dk w bs N v wv AA){row:Option Nat}(hg:w.grownBy w' row)(hr:∀g,row=some g->g<bs\/N<=g):Dk w' bs N v wv AA:=
 ⟨⟨h.ll.Ag.far hg (fun i hi=>by
  cases e:(LI 62 Tv v wv AA i).v.ownBlock with
  |none=>exact .inl rfl
  |some k=>exact .inr (fun e'=>by have:=(h.ll.Ag.lt hi k e).1;have:=h.lt i hi k e;have:=hr k e'.symm;omega)),h.ll.len⟩,h.lt⟩
theorem Dk.keep {w w':World}{bs N:Nat}{v:Value}{wv:List Value}{AA:List (List Dd)}(h:Dk w bs N v wv AA)(k:AC w w'):Dk w' bs N v wv AA:=h.kept k.grownBy (by simp)
theorem Di.nQ {w:World}{base N:Nat}{v:Value}{V:Nat->Value}{AA:List (List Dd)}(h:Di w base N v V AA):Dk w base N v ((List.range AA.length).map V) AA:=by
 have e:∀i,i<AA.length->((List.range AA.length).map V).getD i AE=V i:=fun i hi=>by rw[List.getD_eq_getElem?_getD,OH V _ i hi];rfl
 have hl:((List.range AA.length).map V).length=AA.length:=by simp
 have at0:∀i,ED ((List.range AA.length).map V).length (some i)->i<AA.length:=fun i hi=>by rw[<-hl];exact hi
 refine⟨⟨⟨fun o ho=>?_,fun o o' ho ho' hne=>?_⟩,hl⟩,fun o ho k hk=>?_⟩
 ·
  cases o with
  |none=>
   show w.ownsRow base _ 1 v ((List.range AA.length).map V).length ((List.range AA.length).map V);rw[hl];exact h.row
  |some i=>
   show w.ownsRow base _ 4 (((List.range AA.length).map V).getD i AE) (AA.getD i []).length _;rw[e i (at0 i ho)];exact h.each i (at0 i ho)
 ·
  cases o with
  |none=>
   cases o' with
   |none=>exact absurd rfl hne
   |some i=>
    show v.ownBlock=none\/v.ownBlock≠(((List.range AA.length).map V).getD i AE).ownBlock;rw[e i (at0 i ho')]
    cases hv:(V i).ownBlock with
    |none=>cases v.ownBlock<;>simp
    |some k=>exact .inr (h.out i (at0 i ho') k hv)
  |some i=>
   show (((List.range AA.length).map V).getD i AE).ownBlock=none\/(((List.range AA.length).map V).getD i AE).ownBlock≠_;rw[e i (at0 i ho)]
   cases hv:(V i).ownBlock with
   |none=>exact .inl rfl
   |some k=>
    right
    cases o' with
    |none=>exact fun q=>h.out i (at0 i ho) k hv q.symm
    |some j=>
     show _≠(((List.range AA.length).map V).getD j AE).ownBlock;rw[e j (at0 j ho')];have hij:i≠j:=fun q=>hne (by rw[q])
     rcases Nat.lt_or_ge i j with q|q
     . exact fun x=>h.apart i j q (at0 j ho') k hv x.symm
     . exact fun x=>h.apart j i (by omega) (at0 i ho) k x.symm hv
 ·
  cases o with
  |none=>exact h.lt k hk
  |some i=>
   have hk:(((List.range AA.length).map V).getD i AE).ownBlock=some k:=hk;rw[e i (at0 i ho)] at hk;exact h.nH i (at0 i ho) k hk
theorem NT {a b c:World}{row r2:Option Nat}(h:a.grownBy b row)(k:b.grownBy c r2)(hr:∀g,r2=some g->a.heap.size<=g):a.grownBy c row:=
 ⟨k.os.trans h.os,k.tape.trans h.tape,k.output.trans h.output,Nat.le_trans h.size k.size,fun q hq hne=>(k.block q (Nat.lt_of_lt_of_le hq h.size) (fun e=>by have:=hr q e.symm;omega)).trans (h.block q hq hne)⟩
theorem Uc {a b c:World}{row:Option Nat}(h:a.grownBy b row)(k:b.grownBy c row):a.grownBy c row:=
 ⟨k.os.trans h.os,k.tape.trans h.tape,k.output.trans h.output,Nat.le_trans h.size k.size,fun q hq hne=>(k.block q (Nat.lt_of_lt_of_le hq h.size) hne).trans (h.block q hq hne)⟩
theorem TA {w:World}{bs N:Nat}{v:Value}{AA:List (List Dd)}(h:JP w bs N v AA)(ht:N<=w.heap.size)(m:Nat):A7 w m ⟨v,AE,AE,AE,AE,AE,AE,AE⟩ [] [] bs N AA ⟨[],[],[],[],[],[],[]⟩:=by
 have hv:∀i,Bf [] [] i->i≠.bd->(Av 0 ⟨v,AE,AE,AE,AE,AE,AE,AE⟩ [] [] ⟨[],[],[],[],[],[],[]⟩ i).v.ownBlock=none:=fun i hi hb=>by
  cases i with
  |bd=>exact absurd rfl hb
  |nt c=>exact absurd (show c<0 from hi) (by omega)
  |rw c=>exact absurd (show c<0 from hi) (by omega)
  |_=>rfl
 refine⟨⟨fun i hi=>?_,fun i j hi _ _ => .inl (hv i hi.1 hi.2)⟩,rfl,rfl,h,ht,fun i hi hb k hk=>by rw[hv i hi hb] at hk;cases hk⟩;obtain⟨hi,hb⟩:=hi
 cases i with
 |bd=>exact absurd rfl hb
 |nt c=>exact absurd (show c<0 from hi) (by omega)
 |rw c=>exact absurd (show c<0 from hi) (by omega)
 |_=>exact⟨rfl,.inl ⟨rfl,rfl⟩⟩
structure NB (wb w:World)(m D:Nat)(v:BV)(nv rv:List Value)(bs N:Nat)(AA:List (List Dd))(b:Bd):Prop where
 ob:AU w m D v nv rv bs N AA b
 lo:∀i,Bf nv rv i->i≠.bd->∀k,(Av D v nv rv b i).v.ownBlock=some k->wb.heap.size<=k
 sm:wb.grownBy w (some D)
section
variable {wb w w1 w2 w':World} {m D:Nat} {v:BV} {nv rv wv:List Value} {bs N:Nat} {AA:List (List Dd)} {b:Bd}
theorem NB.start {W:Value}(h:AU w m D ⟨W,AE,AE,AE,AE,AE,AE,AE⟩ [] [] bs N AA ⟨[],[],[],[],[],[],[]⟩):NB w w m D ⟨W,AE,AE,AE,AE,AE,AE,AE⟩ [] [] bs N AA ⟨[],[],[],[],[],[],[]⟩:=by
 refine⟨h,fun i hi hb k hk=>?_,World.grownBy.refl _ _⟩
 cases i with
 |bd=>exact absurd rfl hb
 |nt c=>exact absurd (show c<0 from hi) (by omega)
 |rw c=>exact absurd (show c<0 from hi) (by omega)
 |_=>exact absurd (show (none:Option Nat)=some k from hk) (by simp)
theorem NB.keep (h:NB wb w m D v nv rv bs N AA b)(k:AC w w'):NB wb w' m D v nv rv bs N AA b:=⟨h.ob.keep k,h.lo,NT h.sm k.grownBy (by simp)⟩
theorem NB.put (h:NB wb w m D v nv rv bs N AA b)(i:BI)(hi:Bf nv rv i)(hb:i≠.bd)(hg:w.grownBy w2 (Av D v nv rv b i).v.ownBlock)(k:Nat)(u:Value):wb.grownBy (w2.setCell ⟨D,k,none⟩ u) (some D):=
 Uc (NT h.sm hg (fun g e=>h.lo i hi hb g e)) (Ae w2 D k u)
theorem NB.Z3 (h:NB wb w m D v nv rv bs N AA b){u:Value}{zs:List Int}(hg:w.grownBy w2 v.P.ownBlock)(hb:u.ownBlock=v.P.ownBlock\/u.ownBlock=some w.heap.size)(ho:BO w2 m u zs):
  NB wb (w2.setCell ⟨D,1,none⟩ u) m D { v with P:=u } nv rv bs N AA { b with AM:=zs }/\w2.cell? ⟨D,1,none⟩=some v.P/\w2.frozen? ⟨D,1,none⟩=false:=by
 obtain⟨h1,h2,h3⟩:=h.ob.Z3 hg (by rcases hb with e|e;exact .inl e;exact .inr (.inl e)) ho;refine⟨⟨h1,fun i hi hb' k hk=>?_,h.put .AM trivial (by simp) hg 1 u⟩,h2,h3⟩;by_cases e:i = .AM
 ·
  subst e;have hk:u.ownBlock=some k:=hk;rcases hb with e|e
  . exact h.lo .AM trivial (by simp) k (e.symm.trans hk)
  ·
   rw[e] at hk;have:=Option.some.inj hk;have:=h.sm.size;omega
 ·
  refine h.lo i hi hb' k ?_;cases i<;>first|exact hk|exact absurd rfl e|exact absurd rfl hb'
theorem NB.Z0 (h:NB wb w m D v nv rv bs N AA b){u:Value}{zs:List Int}(hg:w.grownBy w2 v.L.ownBlock)(hb:u.ownBlock=v.L.ownBlock\/u.ownBlock=some w.heap.size)(ho:BO w2 m u zs):
  NB wb (w2.setCell ⟨D,2,none⟩ u) m D { v with L:=u } nv rv bs N AA { b with AQ:=zs }/\w2.cell? ⟨D,2,none⟩=some v.L/\w2.frozen? ⟨D,2,none⟩=false:=by
 obtain⟨h1,h2,h3⟩:=h.ob.Z0 hg (by rcases hb with e|e;exact .inl e;exact .inr (.inl e)) ho;refine⟨⟨h1,fun i hi hb' k hk=>?_,h.put .AQ trivial (by simp) hg 2 u⟩,h2,h3⟩;by_cases e:i = .AQ
 ·
  subst e;have hk:u.ownBlock=some k:=hk;rcases hb with e|e
  . exact h.lo .AQ trivial (by simp) k (e.symm.trans hk)
  ·
   rw[e] at hk;have:=Option.some.inj hk;have:=h.sm.size;omega
 ·
  refine h.lo i hi hb' k ?_;cases i<;>first|exact hk|exact absurd rfl e|exact absurd rfl hb'
theorem NB.Z4 (h:NB wb w m D v nv rv bs N AA b){u:Value}{zs:List Int}(hg:w.grownBy w2 v.X.ownBlock)(hb:u.ownBlock=v.X.ownBlock\/u.ownBlock=some w.heap.size)(ho:BO w2 m u zs):
  NB wb (w2.setCell ⟨D,4,none⟩ u) m D { v with X:=u } nv rv bs N AA { b with AK:=zs }/\w2.cell? ⟨D,4,none⟩=some v.X/\w2.frozen? ⟨D,4,none⟩=false:=by
 obtain⟨h1,h2,h3⟩:=h.ob.Z4 hg (by rcases hb with e|e;exact .inl e;exact .inr (.inl e)) ho;refine⟨⟨h1,fun i hi hb' k hk=>?_,h.put .AK trivial (by simp) hg 4 u⟩,h2,h3⟩;by_cases e:i = .AK
 ·
  subst e;have hk:u.ownBlock=some k:=hk;rcases hb with e|e
  . exact h.lo .AK trivial (by simp) k (e.symm.trans hk)
  ·
   rw[e] at hk;have:=Option.some.inj hk;have:=h.sm.size;omega
 ·
  refine h.lo i hi hb' k ?_;cases i<;>first|exact hk|exact absurd rfl e|exact absurd rfl hb'
theorem NB.Vo (h:NB wb w m D v nv rv bs N AA b){u:Value}{zs:List Int}(hg:w.grownBy w2 v.S.ownBlock)(hb:u.ownBlock=v.S.ownBlock\/u.ownBlock=some w.heap.size)(ho:BO w2 m u zs):
  NB wb (w2.setCell ⟨D,5,none⟩ u) m D { v with S:=u } nv rv bs N AA { b with sn:=zs }/\w2.cell? ⟨D,5,none⟩=some v.S/\w2.frozen? ⟨D,5,none⟩=false:=by
 obtain⟨h1,h2,h3⟩:=h.ob.Vo hg (by rcases hb with e|e;exact .inl e;exact .inr (.inl e)) ho;refine⟨⟨h1,fun i hi hb' k hk=>?_,h.put .sn trivial (by simp) hg 5 u⟩,h2,h3⟩;by_cases e:i = .sn
 ·
  subst e;have hk:u.ownBlock=some k:=hk;rcases hb with e|e
  . exact h.lo .sn trivial (by simp) k (e.symm.trans hk)
  ·
   rw[e] at hk;have:=Option.some.inj hk;have:=h.sm.size;omega
 ·
  refine h.lo i hi hb' k ?_;cases i<;>first|exact hk|exact absurd rfl e|exact absurd rfl hb'
theorem NB.Vm (h:NB wb w m D v nv rv bs N AA b){u:Value}{zs:List Int}(hg:w.grownBy w2 v.F.ownBlock)(hb:u.ownBlock=v.F.ownBlock\/u.ownBlock=some w.heap.size)(ho:BO w2 m u zs):
  NB wb (w2.setCell ⟨D,6,none⟩ u) m D { v with F:=u } nv rv bs N AA { b with fr:=zs }/\w2.cell? ⟨D,6,none⟩=some v.F/\w2.frozen? ⟨D,6,none⟩=false:=by
 obtain⟨h1,h2,h3⟩:=h.ob.Vm hg (by rcases hb with e|e;exact .inl e;exact .inr (.inl e)) ho;refine⟨⟨h1,fun i hi hb' k hk=>?_,h.put .fr trivial (by simp) hg 6 u⟩,h2,h3⟩;by_cases e:i = .fr
 ·
  subst e;have hk:u.ownBlock=some k:=hk;rcases hb with e|e
  . exact h.lo .fr trivial (by simp) k (e.symm.trans hk)
  ·
   rw[e] at hk;have:=Option.some.inj hk;have:=h.sm.size;omega
 ·
  refine h.lo i hi hb' k ?_;cases i<;>first|exact hk|exact absurd rfl e|exact absurd rfl hb'
theorem NB.TE (h:NB wb w m D v nv rv bs N AA b){u u':Value}{ns:List Nt}(k1:AC w w1)(hu:∀k,u.ownBlock=some k->w.heap.size<=k)(ou:Bz cN 104 3 w1 m u ns)
  (hg:w1.grownBy w2 v.N.ownBlock) (hb:u'.ownBlock=v.N.ownBlock\/u'.ownBlock=some w1.heap.size) (ho:(Dp 101 (nv++[u]) u').own w2 m):
  NB wb (w2.setCell ⟨D,3,none⟩ u') m D { v with N:=u' } (nv++[u]) rv bs N AA { b with AG:=b.AG++[ns] }/\w2.cell? ⟨D,3,none⟩=some v.N/\w2.frozen? ⟨D,3,none⟩=false:=by
 obtain⟨h1,h2,h3⟩:=h.ob.TE k1 hu ou hg (by rcases hb with e|e;exact .inl e;exact .inr (.inl e)) ho;have hs:=h.sm.size;have hs1:=k1.size;refine⟨⟨h1,fun i hi hb' k hk=>?_,(h.keep k1).put .AG trivial (by simp) hg 3 u'⟩,h2,h3⟩
 cases i with
 |bd=>exact absurd rfl hb'
 |AG=>
  have hk:u'.ownBlock=some k:=hk;rcases hb with e|e
  . exact h.lo .AG trivial (by simp) k (e.symm.trans hk)
  ·
   rw[e] at hk;have:=Option.some.inj hk;omega
 |nt q=>
  have hk:((nv++[u]).getD q AE).ownBlock=some k:=hk;rw[EN] at hk;by_cases e:q=nv.length
  . rw[if_pos e] at hk;have:=hu k hk;omega
  ·
   rw[if_neg e] at hk;have hq:q<(nv++[u]).length:=hi;rw[List.length_append] at hq;exact h.lo (.nt q) (show q<nv.length by simp at hq;omega) (by simp) k hk
 |rw q=>exact h.lo (.rw q) hi (by simp) k hk
 |AM=>exact h.lo .AM trivial (by simp) k hk
 |AQ=>exact h.lo .AQ trivial (by simp) k hk
 |AK=>exact h.lo .AK trivial (by simp) k hk
 |sn=>exact h.lo .sn trivial (by simp) k hk
 |fr=>exact h.lo .fr trivial (by simp) k hk
 |rws=>exact h.lo .rws trivial (by simp) k hk
theorem NB.WI (h:NB wb w m D v nv rv bs N AA b){u u':Value}{zs:List Int}(k1:AC w w1)(hu:∀k,u.ownBlock=some k->w.heap.size<=k)(ou:BO w1 m u zs)
  (hg:w1.grownBy w2 v.R.ownBlock) (hb:u'.ownBlock=v.R.ownBlock\/u'.ownBlock=some w1.heap.size) (ho:(Dp 28 (rv++[u]) u').own w2 m):
  NB wb (w2.setCell ⟨D,7,none⟩ u') m D { v with R:=u' } nv (rv++[u]) bs N AA { b with rws:=b.rws++[zs] }/\w2.cell? ⟨D,7,none⟩=some v.R/\w2.frozen? ⟨D,7,none⟩=false:=by
 obtain⟨h1,h2,h3⟩:=h.ob.WI k1 hu ou hg (by rcases hb with e|e;exact .inl e;exact .inr (.inl e)) ho;have hs:=h.sm.size;have hs1:=k1.size;refine⟨⟨h1,fun i hi hb' k hk=>?_,(h.keep k1).put .rws trivial (by simp) hg 7 u'⟩,h2,h3⟩
 cases i with
 |bd=>exact absurd rfl hb'
 |rws=>
  have hk:u'.ownBlock=some k:=hk;rcases hb with e|e
  . exact h.lo .rws trivial (by simp) k (e.symm.trans hk)
  ·
   rw[e] at hk;have:=Option.some.inj hk;omega
 |rw q=>
  have hk:((rv++[u]).getD q AE).ownBlock=some k:=hk;rw[EN] at hk;by_cases e:q=rv.length
  . rw[if_pos e] at hk;have:=hu k hk;omega
  ·
   rw[if_neg e] at hk;have hq:q<(rv++[u]).length:=hi;rw[List.length_append] at hq;exact h.lo (.rw q) (show q<rv.length by simp at hq;omega) (by simp) k hk
 |nt q=>exact h.lo (.nt q) hi (by simp) k hk
 |AM=>exact h.lo .AM trivial (by simp) k hk
 |AQ=>exact h.lo .AQ trivial (by simp) k hk
 |AK=>exact h.lo .AK trivial (by simp) k hk
 |sn=>exact h.lo .sn trivial (by simp) k hk
 |fr=>exact h.lo .fr trivial (by simp) k hk
 |AG=>exact h.lo .AG trivial (by simp) k hk
theorem AU.all (ob:AU w m D v nv rv bs N AA b)(lw:Dk w bs N v.W wv AA)(hm:m<=bs):Ei w m v nv rv wv AA b:=by
 have fo:∀i,i≠BI.bd->Av 0 v nv rv b i=Av D v nv rv b i:=fun i hi=>by cases i<;>first|rfl|exact absurd rfl hi
 have wl:∀o,ED wv.length o->∀k,(LI 62 Tv v.W wv AA o).v.ownBlock=some k->bs<=k/\k<N:=fun o ho k hk=>⟨(lw.ll.Ag.lt ho k hk).1,lw.lt o ho k hk⟩
 have cross:∀i,Bf nv rv i->∀o,ED wv.length o->(Av D v nv rv b i).v.ownBlock=none\/(Av D v nv rv b i).v.ownBlock≠(LI 62 Tv v.W wv AA o).v.ownBlock:=fun i hi o ho=>by
  cases e:(Av D v nv rv b i).v.ownBlock with
  |none=>exact .inl rfl
  |some k=>exact .inr (fun q=>by have:=ob.out i hi k e;have:=wl o ho k q.symm;omega)
 have cross':∀o,ED wv.length o->∀i,Bf nv rv i->(LI 62 Tv v.W wv AA o).v.ownBlock=none\/(LI 62 Tv v.W wv AA o).v.ownBlock≠(Av D v nv rv b i).v.ownBlock:=fun o ho i hi=>by
  cases e:(LI 62 Tv v.W wv AA o).v.ownBlock with
  |none=>exact .inl rfl
  |some k=>exact .inr (fun q=>by have:=ob.out i hi k q.symm;have:=wl o ho k e;omega)
 refine⟨⟨fun j hj=>?_,fun i j hi hj hij=>?_⟩,ob.ln,ob.lr,lw.ll.len⟩
 ·
  cases j with
  |b i=>
   show (Av 0 v nv rv b i).own w m;rw[fo i hj.2];exact ob.Ag.own i hj.1
  |wk=>exact DR (lw.ll.Ag.own none trivial) hm
  |wd c=>exact DR (lw.ll.Ag.own (some c) hj) hm
 ·
  cases i with
  |b i=>
   show (Av 0 v nv rv b i).v.ownBlock=none\/(Av 0 v nv rv b i).v.ownBlock≠_;rw[fo i hi.2]
   cases j with
   |b j=>
    show _\/_≠(Av 0 v nv rv b j).v.ownBlock;rw[fo j hj.2];exact ob.Ag.apart i j hi.1 hj.1 (fun e=>hij (by rw[e]))
   |wk=>exact cross i hi.1 none trivial
   |wd c=>exact cross i hi.1 (some c) hj
  |wk=>
   cases j with
   |b j=>
    show _\/_≠(Av 0 v nv rv b j).v.ownBlock;rw[fo j hj.2];exact cross' none trivial j hj.1
   |wk=>exact absurd rfl hij
   |wd c=>exact lw.ll.Ag.apart none (some c) trivial hj (by simp)
  |wd c=>
   cases j with
   |b j=>
    show _\/_≠(Av 0 v nv rv b j).v.ownBlock;rw[fo j hj.2];exact cross' (some c) hi j hj.1
   |wk=>exact lw.ll.Ag.apart (some c) none hi trivial (by simp)
   |wd d=>exact lw.ll.Ag.apart (some c) (some d) hi hj (fun e=>hij (by have:=Option.some.inj e;rw[this]))
end
end
section
theorem ES {w w':World}{m:Nat}{r:Rw}(h:r.own w m)(hb:∀g,r.v.ownBlock=some g->w'.heap[g]? = w.heap[g]?):r.own w' m:=by
 unfold Rw.own at h ⊢;refine⟨h.1,?_⟩;rcases h.2 with q|⟨g,cap,cur,e,hm,hg,rest⟩
 . exact .inl q
 . exact .inr ⟨g,cap,cur,e,hm,(hb g (by rw[e];rfl)).trans hg,rest⟩
theorem JP.same {w w':World}{base N:Nat}{v:Value}{AA:List (List Dd)}(h:JP w base N v AA)(hs:w.heap.size<=w'.heap.size)(hh:∀g,base<=g->g<N->w'.heap[g]? = w.heap[g]?):JP w' base N v AA:=by
 obtain⟨a,cap,hv,h⟩:=h;refine⟨a,cap,hv,?_⟩;rcases h with h|⟨b,off,ha,h1,h2,h3,h4⟩
 . exact .inl h
 ·
  refine .inr ⟨b,off,ha,h1,h2,Nat.lt_of_lt_of_le h3 hs,fun i hi=>?_⟩;obtain⟨vi,e1,e2,e3⟩:=h4 i hi;refine⟨vi,(World.cell?_of_block (a:=⟨b,off+i,none⟩) (hh b h1 h2)).trans e1,?_,e3⟩;exact ES (r:=Tv (AA.getD i []) vi) e2 (fun g hg=>hh g (World.ownsRow.lt e2 g hg).1 (e3 g hg))
theorem Dk.same {w w':World}{bs N:Nat}{v:Value}{wv:List Value}{AA:List (List Dd)}(h:Dk w bs N v wv AA)(hh:∀g,bs<=g->g<N->w'.heap[g]? = w.heap[g]?):Dk w' bs N v wv AA:=
 ⟨⟨⟨fun o ho=>ES (h.ll.Ag.own o ho) (fun g hg=>hh g (h.ll.Ag.lt ho g hg).1 (h.lt o ho g hg)),h.ll.Ag.apart⟩,h.ll.len⟩,h.lt⟩
theorem Fl.part {ι:Type}{w w':World}{m:Nat}{live live':ι->Prop}{R R':ι->Rw}(S:ι->Prop)(h:Fl w m live R)(hS:Fl w' m (fun i=>live' i/\S i) R')(hl:∀i,¬S i->live' i->live i)(hR:∀i,¬S i->live' i->R' i=R i){F F':Nat->Prop}(t:Aj w w' F F')
  (hF:∀i,live i->¬S i->∀g,(R i).v.ownBlock=some g->¬F g) (hF':∀i,live' i->S i->∀g,(R' i).v.ownBlock=some g->F' g):Fl w' m live' R':=by
 have far:∀i j,live' i->¬S i->live' j->S j->(R' i).v.ownBlock=none\/(R' i).v.ownBlock≠(R' j).v.ownBlock:=fun i j hi hni hj hsj=>by
  cases e:(R' i).v.ownBlock with
  |none=>exact .inl rfl
  |some g=>
   refine .inr (fun q=>?_);rw[hR i hni hi] at e;have h1:=hF i (hl i hni hi) hni g e;have h2:=(h.lt (hl i hni hi) g e).2;rcases t.news g (hF' j hj hsj g q.symm) with h3|h3
   . exact h1 h3
   . omega
 refine⟨fun i hi=>?_,fun i j hi hj hij=>?_⟩
 ·
  by_cases s:S i
  . exact hS.own i ⟨hi,s⟩
  ·
   rw[hR i s hi];exact ES (h.own i (hl i s hi)) (fun g hg=>t.block g (h.lt (hl i s hi) g hg).2 (hF i (hl i s hi) s g hg))
 ·
  by_cases s:S i
  ·
   by_cases r:S j
   . exact hS.apart i j ⟨hi,s⟩ ⟨hj,r⟩ hij
   ·
    rcases far j i hj r hi s with q|q
    ·
     rw[q]
     cases (R' i).v.ownBlock with
     |none=>exact .inl rfl
     |some g=>exact .inr (by simp)
    . exact .inr (fun e=>q e.symm)
  ·
   by_cases r:S j
   . exact far i j hi s hj r
   . rw[hR i s hi,hR j r hj];exact h.apart i j (hl i s hi) (hl j r hj) hij
def Tw:BI->Prop
 | .AM=>True
 | .AQ=>True
 | .rws=>True
 | .rw _=>True
 |_=>False
def De (v:BV)(nv rv:List Value)(g:Nat):Prop:=∃i,Bf nv rv i/\i≠.bd/\(vB 0 v nv rv i).ownBlock=some g
theorem VP {D:Nat}{v:BV}{nv rv:List Value}{g:Nat}(h:Bp D v nv rv g):De v nv rv g\/g=D:=by
 obtain⟨i,hi,e⟩:=h
 cases i with
 |bd=>exact .inr (Option.some.inj e).symm
 |AM=>exact .inl ⟨.AM,trivial,by simp,e⟩
 |AQ=>exact .inl ⟨.AQ,trivial,by simp,e⟩
 |AG=>exact .inl ⟨.AG,trivial,by simp,e⟩
 |AK=>exact .inl ⟨.AK,trivial,by simp,e⟩
 |sn=>exact .inl ⟨.sn,trivial,by simp,e⟩
 |fr=>exact .inl ⟨.fr,trivial,by simp,e⟩
 |rws=>exact .inl ⟨.rws,trivial,by simp,e⟩
 |nt c=>exact .inl ⟨.nt c,hi,by simp,e⟩
 |rw p=>exact .inl ⟨.rw p,hi,by simp,e⟩
theorem ZP {D:Nat}{v:BV}{nv rv:List Value}{g:Nat}(h:De v nv rv g):Bp D v nv rv g:=by
 obtain⟨i,hi,hb,e⟩:=h;refine⟨i,hi,?_⟩;cases i<;>first|exact e|exact absurd rfl hb
theorem QW {D:Nat}{v:BV}{nv rv:List Value}{g:Nat}(h:FE v rv g):Bp D v nv rv g:=by
 obtain⟨i,hi,e⟩:=h
 cases i with
 |AM=>exact⟨.AM,trivial,e⟩
 |AQ=>exact⟨.AQ,trivial,e⟩
 |rws=>exact⟨.rws,trivial,e⟩
 |rw p=>exact⟨.rw p,hi,e⟩
 |_=>exact absurd hi (by simp[Ds])
section
variable {w w':World} {m D:Nat} {v:BV} {nv rv rv' wv:List Value} {bs N:Nat} {AA:List (List Dd)} {b b':Bd}
theorem A7.blk (h:A7 w m v nv rv bs N AA b):∀g,De v nv rv g->m<=g/\g<w.heap.size/\(g<bs\/N<=g):=fun g ⟨i,hi,hb,e⟩=>by
 rw[<-LY 0 v nv rv b i] at e;exact⟨(h.Ag.lt ⟨hi,hb⟩ g e).1,(h.Ag.lt ⟨hi,hb⟩ g e).2,h.out i hi hb g e⟩
theorem Dk.turn (h:Dk w bs N v.W wv AA)(o:A7 w m v nv rv bs N AA b){F':Nat->Prop}(t:Aj w w' (De v nv rv) F'):Dk w' bs N v.W wv AA:=
 h.same (fun g h1 h2=>t.block g (Nat.lt_of_lt_of_le h2 o.top) (fun q=>by have:=(o.blk g q).2.2;omega))
theorem jS (v:BV)(nv rv:List Value)(b:Bd){i:BI}(h:Tw i):Av 0 v [] rv b i=Av D v nv rv b i:=by
 cases i<;>first|rfl|exact absurd h (by simp[Tw])
theorem AU.Xr (h:AU w m D v nv rv bs N AA b):DU w m v rv b:=by
 refine⟨h.Ag.congr (fun i hi=>?_) (fun i hi=>?_),h.lr⟩
 . cases i<;>first|trivial|exact hi|exact absurd hi (by simp[Ds])
 . cases i<;>first|rfl|exact absurd hi (by simp[Ds])
theorem AU.turn (h:AU w m D v nv rv bs N AA b)(o:DU w' m v rv' b')(t:Aj w w' (FE v rv) (FE v rv'))(e1:b'.AG=b.AG)(e2:b'.AK=b.AK)(e3:b'.sn=b.sn)(e4:b'.fr=b.fr):
  AU w' m D v nv rv' bs N AA b'/\Aj w w' (Bp D v nv rv) (Bp D v nv rv'):=by
 have lI:∀i,Bf nv rv' i/\Tw i->Ds rv' i:=fun i ⟨h1,h2⟩=>by cases i<;>first|trivial|exact h1|exact absurd h2 (by simp[Tw])
 have nI:∀i,Bf nv rv i->¬Tw i->∀g,(Av D v nv rv b i).v.ownBlock=some g->¬FE v rv g:=fun i hi hs g hg hB=>by
  obtain⟨j,hj,e⟩:=hB;have hij:i≠j:=fun q=>hs (by subst q;cases i<;>first|trivial|exact absurd hj (by simp[Ds]))
  have lj:Bf nv rv j:=by cases j<;>first|trivial|exact hj|exact absurd hj (by simp[Ds])
  have ej:(Av D v nv rv b j).v.ownBlock=some g:=by
   rw[LY];cases j<;>first|exact e|exact absurd hj (by simp[Ds])
  rcases h.Ag.apart i j hi lj hij with q|q
  . rw[hg] at q;cases q
  . exact q (hg.trans ej.symm)
 have F:=h.Ag.part (w':=w') (live':=Bf nv rv') (R':=Av D v nv rv' b') Tw (o.Ag.congr lI (fun i hi=>(jS (D:=D) v nv rv' b' hi.2).symm)) (fun i hs hi=>by cases i<;>first|trivial|exact hi|exact absurd trivial hs)
  (fun i hs _=>by cases i<;>first|exact absurd trivial hs|(simp only[Av,e1,e2,e3,e4])) t nI (fun i hi hs g hg=>⟨i,lI i ⟨hi,hs⟩,by
   rw[LY] at hg
   cases i<;>first|exact hg|exact absurd hs (by simp[Tw])⟩)
 have nB:∀g,Bp D v nv rv' g->Bp D v nv rv g\/w.heap.size<=g:=fun g ⟨i,hi,e⟩=>by
  by_cases s:Tw i
  ·
   rcases t.news g ⟨i,lI i ⟨hi,s⟩,by cases i<;>first|exact e|exact absurd s (by simp[Tw])⟩ with q|q
   . exact .inl (QW q)
   . exact .inr q
  . exact .inl ⟨i,by cases i<;>first|trivial|exact hi|exact absurd trivial s,by cases i<;>first|exact e|exact absurd trivial s⟩
 refine⟨⟨F,by rw[e1];exact h.ln,o.lr,h.work.same t.size (fun g h1 h2=>t.block g (Nat.lt_of_lt_of_le h2 h.top) (fun q=>by have:=(h.blk g (QW q)).2.2;omega)),Nat.le_trans h.top t.size,fun i hi k hk=>?_⟩,⟨t.os,t.tape,t.output,t.size,fun g hg hn=>t.block g hg (fun q=>hn (QW q)),nB⟩⟩;rw[LY] at hk;rcases nB k ⟨i,hi,hk⟩ with q|q
 . exact (h.blk k q).2.2
 . right;exact Nat.le_trans h.top q
end
end
theorem IW {xs ys:List Int}{k:Nat}(hx:k<xs.length)(hy:k<ys.length)(h:xs.take k=ys.take k)(e:xs.getD k 0=ys.getD k 0):xs.take (k+1)=ys.take (k+1):=by
 rw[GP xs k hx,GP ys k hy,h,e]
theorem qX {xs ys:List Int}{k:Nat}(h:xs.getD k 0≠ys.getD k 0):xs≠ys:=by
 intro e;subst e;exact h rfl
theorem Ps:∀(k:Nat) (a b:List Int),k<a.length->k<b.length->a.take k=b.take k->a.getD k 0≠b.getD k 0->Bx a b=decide (a.getD k 0<b.getD k 0)
 |_,[],_,h,_,_,_=>by simp at h
 |_,_::_,[],_,h,_,_=>by simp at h
 | 0,x::a,y::b,_,_,_,hne=>by
  simp only[List.getD_cons_zero] at hne ⊢;rw[EB,if_pos hne]
 |k+1,x::a,y::b,h1,h2,ht,hne=>by
  simp only[List.take_succ_cons,List.cons.injEq,List.getD_cons_succ,List.length_cons] at *;rw[EB,if_neg (by simp[ht.1])];exact Ps k a b (by omega) (by omega) ht.2 hne
theorem Nq:∀(k:Nat) (a b:List Int),a.take k=b.take k->k<=a.length->k<=b.length->(k=a.length\/k=b.length)->Bx a b=decide (a.length<b.length)
 |_,[],b,_,_,_,_=>by rw[Kd];simp
 |_,x::a,[],_,_,_,_=>by rw[Ff];simp
 | 0,_::_,_::_,_,_,_,h=>by simp at h
 |k+1,x::a,y::b,ht,h1,h2,h=>by
  simp only[List.take_succ_cons,List.cons.injEq,List.length_cons] at *;rw[EB,if_neg (by simp[ht.1]),Nq k a b ht.2 (by omega) (by omega) (by omega)];simp
theorem eZ (w:World)(v1 v2:Value)(xs ys:List Int)(h1:Rd w v1 xs)(h2:Rd w v2 ys)(hx:xs.length<=1048576):
  Calls Tryz.prog 43 #[v1,v2] w fun e w'=>e = .returned (.bool (decide (xs=ys)))/\AC w w':=by
 obtain⟨a1,c1,rfl,h1⟩:=h1;obtain⟨a2,c2,rfl,h2⟩:=h2;by_cases hl:xs.length=ys.length
 ·
  have hlb:((xs.length:Int) != (ys.length:Int))=false:=by simp[hl]
  have hl1:xs.length<=ys.length:=by omega
  have hl2:ys.length<=xs.length:=by omega
  clear hl;go_enter Tryz.func43,Tryz.ntmps43
  go_wp2;go_loopw [5] (fun i wr=>∃k:Nat,k<=xs.length/\i = .int .i64 k/\xs.take k=ys.take k/\AC w wr) (fun i _=>xs.length-(intOf i).toNat)
  case atStart=>exact⟨0,Nat.zero_le _,rfl,by simp,AC.refl _⟩
  case round=>
   obtain⟨k,hk,rfl,ht,hK⟩:=hrel;by_cases hlt:k<xs.length
   ·
    rcases h1 with h|⟨b1,o1,rfl,hb1,hc1⟩
    . subst h;simp at hlt
    rcases h2 with h|⟨b2,o2,rfl,hb2,hc2⟩
    . exfalso;rw[h] at hl1;simp only[List.length_nil] at hl1;omega
    have hy2:k<ys.length:=by omega
    have d1:=(hK.cell hb1).trans (hc1 k hlt);have d2:=(hK.cell hb2).trans (hc2 k hy2);clear hc1 hc2;obtain⟨p,hp⟩:∃p,p=xs.getD k 0:=⟨_,rfl⟩;obtain⟨q,hq⟩:∃q,q=ys.getD k 0:=⟨_,rfl⟩;rw[<-hp] at d1;rw[<-hq] at d2;have HP:Hid (p=xs.getD k 0):=hp;have HQ:Hid (q=ys.getD k 0):=hq;have HT:Hid (xs.take k=ys.take k):=ht;clear hp hq ht;by_cases he:p=q
    ·
     have hne:(p != q)=false:=by simp[he]
     have HE:Hid (p=q):=he;clear he;go_wp2;go_quiet (fail)
     go_wp2;go_roundw;case rel=>exact⟨k+1,by omega,by go_num,IW hlt hy2 HT.out (by rw[<-HP.out,<-HQ.out];exact HE.out),hK.drewN _⟩
     case measure=>simp[intOf];omega
    ·
     have hne:(p != q)=true:=by simp[he]
     have HE:Hid (p≠q):=he;clear he;go_wp2;go_quiet (fail)
     go_wp2;go_ret;refine⟨BG ?_,?_⟩
     ·
      have:=qX (xs:=xs) (ys:=ys) (k:=k) (by rw[<-HP.out,<-HQ.out];exact HE.out);simp[this]
     . exact hK.drewN _
   ·
    go_wp2;go_ret;refine⟨BG ?_,hK⟩;rw[List.take_of_length_le (by omega),List.take_of_length_le (by omega)] at ht;simp[ht]
 ·
  have hlb:((xs.length:Int) != (ys.length:Int))=true:=by simp;omega
  have HL:Hid (¬xs.length=ys.length):=hl;clear hl;go_enter Tryz.func43,Tryz.ntmps43
  go_wp2;go_ret;refine⟨BG ?_,AC.refl _⟩;have:xs≠ys:=fun e=>HL.out (by rw[e])
  simp[this]
theorem Sk (w:World)(v1 v2:Value)(xs ys:List Int)(h1:Rd w v1 xs)(h2:Rd w v2 ys)(hx:xs.length<=1048576):
  Calls Tryz.prog 137 #[v1,v2] w fun e w'=>e = .returned (.bool (Bx xs ys))/\AC w w':=by
 obtain⟨a1,c1,rfl,h1⟩:=h1;obtain⟨a2,c2,rfl,h2⟩:=h2;go_enter Tryz.func137,Tryz.ntmps137
 go_wp2;go_loopw [5] (fun i wr=>∃k:Nat,k<=xs.length/\k<=ys.length/\i = .int .i64 k/\xs.take k=ys.take k/\AC w wr) (fun i _=>xs.length-(intOf i).toNat)
 case atStart=>exact⟨0,Nat.zero_le _,Nat.zero_le _,rfl,by simp,AC.refl _⟩
 case round=>
  obtain⟨k,hk1,hk2,rfl,ht,hK⟩:=hrel;by_cases hlt:k<xs.length
  ·
   by_cases vg:k<ys.length
   ·
    rcases h1 with h|⟨b1,o1,rfl,hb1,hc1⟩
    . subst h;simp at hlt
    rcases h2 with h|⟨b2,o2,rfl,hb2,hc2⟩
    . exfalso;rw[h] at vg;simp at vg
    have d1:=(hK.cell hb1).trans (hc1 k hlt);have d2:=(hK.cell hb2).trans (hc2 k vg);clear hc1 hc2;have HL:=Lib.hid (Ps k xs ys hlt vg ht);obtain⟨p,hp⟩:∃p,p=xs.getD k 0:=⟨_,rfl⟩;obtain⟨q,hq⟩:∃q,q=ys.getD k 0:=⟨_,rfl⟩;rw[<-hp] at d1;rw[<-hq] at d2;rw[<-hp,<-hq] at HL;have HP:Hid (p=xs.getD k 0):=hp;have HQ:Hid (q=ys.getD k 0):=hq;have HT:Hid (xs.take k=ys.take k):=ht;clear hp hq ht;by_cases he:p=q
    ·
     have hne:(p != q)=false:=by simp[he]
     have HE:Hid (p=q):=he;clear he HL;go_wp2;go_quiet (fail)
     go_wp2;go_roundw;case rel=>exact⟨k+1,by omega,by omega,by go_num,IW hlt vg HT.out (by rw[<-HP.out,<-HQ.out];exact HE.out),hK.drewN _⟩
     case measure=>simp[intOf];omega
    ·
     have hne:(p != q)=true:=by simp[he]
     have HE:=Lib.hid (HL.out he);clear he HL;go_wp2;go_quiet (fail)
     go_wp2;go_quiet (fail)
     go_wp2;go_ret;exact⟨BG HE.out.symm,(hK.drewN _).drewN _⟩
   ·
    have HE:=Lib.hid (Nq k xs ys ht hk1 hk2 (by omega));clear ht;go_wp2;go_ret;exact⟨BG (by rw[HE.out]),hK⟩
  ·
   have HE:=Lib.hid (Nq k xs ys ht hk1 hk2 (by omega));clear ht;go_wp2;go_ret;exact⟨BG (by rw[HE.out]),hK⟩
theorem Sj (w:World)(v vo:Value)(Ar:List (List Int))(x:List Int)(h:UD w v Ar)(hx:Rd w vo x)(hO:PH Ar)(hl:Ar.length<=1099511627776)(hm:∀i,i<Ar.length->(Ar.getD i []).length<=1048576):
  Calls Tryz.prog 107 #[v,vo] w fun e w'=>e = .returned (.tuple #[.int .i64 (DF Ar x:Int),.bool (Qp Ar x)])/\AC w w':=by
 obtain⟨a,c,rfl,h⟩:=h;have HR:=Lib.hid (FP hO x);have hrl:=RI Ar x;obtain⟨R,hR⟩:∃R,R=DF Ar x:=⟨_,rfl⟩;rw[<-hR] at HR hrl;have HI:Hid (Qp Ar x=(decide (R<Ar.length)&&(Ar.getD R []==x))):=Lib.hid (by rw[hR];rfl);rw[<-hR];clear hR hO;go_enter Tryz.func107,Tryz.ntmps107
 go_wp2;go_loopw [6,7,8] (fun lo hi _ wr=>∃l r:Nat,l<=R/\R<=r/\r<=Ar.length/\lo = .int .i64 l/\hi = .int .i64 r/\AC w wr) (fun lo hi _ _=>(intOf hi).toNat-(intOf lo).toNat)
 case atStart=>exact⟨0,Ar.length,Nat.zero_le _,hrl,Nat.le_refl _,rfl,rfl,AC.refl _⟩
 case round=>
  obtain⟨l,r,h1,h2,h3,rfl,rfl,hK⟩:=hrel;by_cases hlt:l<r
  ·
   obtain⟨p,hp1,hp2⟩:∃p:Nat,Int.tdiv ((l:Int)+(r:Int)) 2=(p:Int)/\p=(l+r) / 2:=⟨(l+r) / 2,by rw[Int.tdiv_eq_ediv_of_nonneg (by omega)];omega,rfl⟩;have hpl:p<Ar.length:=by omega
   rcases h with h|⟨b,o,rfl,hb,hc⟩
   . exfalso;rw[h] at hpl;simp at hpl
   obtain⟨vi,d1,rd⟩:=hc p hpl;have d1:=(hK.cell hb).trans d1;have CL:=Sk wr vi vo _ x (rd.keep hK) (hx.keep hK) (hm p hpl);have HP:=HR.out p hpl;rw[show Bx (Ar.getD p []) x=Bx Ar[p] x from by rw[List.getD_eq_getElem?_getD,List.getElem?_eq_getElem hpl];rfl,HP] at CL;clear hc rd HP hm hx;have i1:(0:Int)<=(p:Int):=Int.natCast_nonneg _;have i2:(p:Int)<(Ar.length:Int):=by omega
   have HP2:=Lib.hid hp2;clear hp2;go_wp2_with fail
   refine CL.mono ?_;rintro e wz ⟨rfl,kk⟩;by_cases hR:p<R
   ·
    have hb:decide (p<R)=true:=by simpa using hR
    go_wp2;go_roundw;case rel=>exact⟨p+1,r,by omega,h2,h3,by go_num,rfl,hK.trans kk⟩
    case measure=>
     have:=HP2.out;simp[intOf];omega
   ·
    have hb:decide (p<R)=false:=by simpa using hR
    go_wp2;go_roundw;case rel=>exact⟨l,p,h1,by omega,by omega,rfl,rfl,hK.trans kk⟩
    case measure=>
     have:=HP2.out;simp[intOf];omega
  ·
   obtain rfl:l=R:=by omega
   by_cases hR:l<Ar.length
   ·
    rcases h with h|⟨b,o,rfl,hb,hc⟩
    . exfalso;rw[h] at hR;simp at hR
    obtain⟨vi,d1,rd⟩:=hc l hR;have d1:=(hK.cell hb).trans d1;have CS:=eZ wr vi vo _ x (rd.keep hK) (hx.keep hK) (hm l hR);rw[decide_eq_true hR,Bool.true_and,show (Ar.getD l []==x)=decide (Ar.getD l []=x) from by rw[Bool.eq_iff_iff];simp] at HI;generalize decide (Ar.getD l []=x)=E at *;have i1:(0:Int)<=(l:Int):=Int.natCast_nonneg _;have i2:(l:Int)<(Ar.length:Int):=by omega
    clear hc rd hm hx;go_wp2_with fail
    refine CS.mono ?_;rintro e wz ⟨rfl,kk⟩;go_wp2;go_ret2
    exact⟨by rw[HI.out];rfl,hK.trans kk⟩
   ·
    rw[decide_eq_false hR,Bool.false_and] at HI;go_wp2;go_ret2
    exact⟨by rw[HI.out];rfl,hK⟩
structure GR (w:World)(P:Nat->Prop)(base:Nat)(v:Value)(vs:List Value)(Ar:List (List Int)):Prop where
 row:w.ownsRow base 28 1 v Ar.length vs
 np:∀g,v.ownBlock=some g->¬P g
 each:∀i,i<Ar.length->Rd w (vs.getD i AE) (Ar.getD i [])/\∀g,(vs.getD i AE).ownBlock=some g->P g
theorem Jb {w w':World}(h:w.grownBy w' none)(row:Option Nat):w.grownBy w' row:=⟨h.os,h.tape,h.output,h.size,fun k hk _=>h.block k hk (by simp)⟩
theorem Ub {a b c:World}{r:Option Nat}{g:Nat}(h:a.grownBy b r)(k:b.grownBy c (some g))(hg:a.heap.size<=g):a.grownBy c r:=
 ⟨k.os.trans h.os,k.tape.trans h.tape,k.output.trans h.output,Nat.le_trans h.size k.size,fun q hq hr=>(k.block q (Nat.lt_of_lt_of_le hq h.size) (fun e=>by have:=Option.some.inj e;omega)).trans (h.block q hq hr)⟩
theorem RJ {w w':World}{v:Value}{zs:List Int}(h:Rd w v zs)(hs:w.heap.size<=w'.heap.size)(hb:∀g,v.ownBlock=some g->g<w.heap.size->w'.heap[g]? = w.heap[g]?):Rd w' v zs:=by
 obtain⟨a,c,rfl,h⟩:=h;refine⟨a,c,rfl,?_⟩;rcases h with h|⟨b,o,rfl,hb',hc⟩
 . exact .inl h
 ·
  refine .inr ⟨b,o,rfl,Nat.lt_of_lt_of_le hb' hs,fun i hi=>?_⟩;rw[World.cell?_of_block (w:=w) (hb b rfl hb')];exact hc i hi
theorem GR.lt {w:World}{P:Nat->Prop}{base:Nat}{v:Value}{vs:List Value}{Ar:List (List Int)}(h:GR w P base v vs Ar):∀g,v.ownBlock=some g->base<=g/\g<w.heap.size:=World.ownsRow.lt h.row
theorem GR.kept {w w':World}{P:Nat->Prop}{base:Nat}{v:Value}{vs:List Value}{Ar:List (List Int)}{r:Option Nat}(h:GR w P base v vs Ar)(hg:w.grownBy w' r)(hr:∀g,r=some g->¬P g/\v.ownBlock≠some g):GR w' P base v vs Ar:=by
 refine⟨World.ownsRow.kept h.row hg ?_,h.np,fun i hi=>⟨RJ (h.each i hi).1 hg.size (fun g hv hl=>hg.block g hl (fun e=>(hr g e.symm).1 ((h.each i hi).2 g hv))),(h.each i hi).2⟩⟩
 cases hv:v.ownBlock with
 |none=>exact .inl rfl
 |some g=>exact .inr (fun e=>(hr g e.symm).2 hv)
theorem GR.mono {w:World}{P P':Nat->Prop}{base:Nat}{v:Value}{vs:List Value}{Ar:List (List Int)}(h:GR w P base v vs Ar)(hp:∀g,P g->P' g)(hn:∀g,v.ownBlock=some g->¬P' g):GR w P' base v vs Ar:=
 ⟨h.row,hn,fun i hi=>⟨(h.each i hi).1,fun g hg=>hp g ((h.each i hi).2 g hg)⟩⟩
theorem GR.xA {w:World}{P:Nat->Prop}{base:Nat}{v:Value}{vs:List Value}{Ar:List (List Int)}(h:GR w P base v vs Ar):UD w v Ar:=by
 have hl:=h.row.1;have h2:=h.row;rcases h.row.2 with ⟨rfl,hz⟩|⟨g,cap,cur,rfl,hb,hg,_⟩
 . exact⟨none,0,by rw[hz],.inl (List.eq_nil_of_length_eq_zero hz)⟩
 ·
  refine⟨_,_,rfl,.inr ⟨g,0,rfl,(h.lt g rfl).2,fun i hi=>?_⟩⟩;have hi':i<vs.length:=by omega
  refine⟨vs.getD i AE,?_,(h.each i hi).1⟩;rw[Nat.zero_add,World.ownsRow.cellAt h2 i (by omega),List.getD_eq_getElem?_getD,List.getElem?_eq_getElem hi'];rfl
theorem Hv {α:Type}(l:List α)(k i:Nat)(u z:α)(hk:k<=l.length):(l.take k++u::l.drop k).getD i z=if i<k then l.getD i z else if i=k then u else l.getD (i-1) z:=by
 simp only[List.getD_eq_getElem?_getD];by_cases h1:i<k
 . rw[if_pos h1,List.getElem?_append_left (by simp;omega),List.getElem?_take_of_lt h1]
 ·
  rw[if_neg h1,List.getElem?_append_right (by simp;omega),List.length_take,Nat.min_eq_left hk];by_cases h2:i=k
  . rw[if_pos h2,h2];simp
  ·
   rw[if_neg h2,show i-k=(i-k-1)+1 by omega,List.getElem?_cons_succ,List.getElem?_drop]
   congr 2
   omega
theorem WQ {α:Type}(l:List α)(k:Nat)(y u:α)(hk:k<=l.length):(l.take k++y::l.drop k).set k u=l.take k++u::l.drop k:=by
 rw[List.set_append_right _ _ (by simp;omega),List.length_take,Nat.min_eq_left hk,Nat.sub_self,List.set_cons_zero]
theorem Yc {α:Type}(l:List α)(k:Nat)(y z:α)(hk:k+1<=l.length):(l.take (k+1)++y::l.drop (k+1)).set (k+1) (l.getD k z)=l.take k++l.getD k z::l.drop k:=by
 rw[WQ _ _ _ _ hk]
 have e:l.drop k=l.getD k z::l.drop (k+1):=by
  rw[List.getD_eq_getElem?_getD,List.getElem?_eq_getElem (by omega),Option.getD_some,List.drop_eq_getElem_cons (by omega)]
 have e2:l.take (k+1)=l.take k++[l.getD k z]:=by
  rw[List.take_add_one,List.getD_eq_getElem?_getD,List.getElem?_eq_getElem (by omega)];rfl
 rw[e2,e];simp
theorem Nk (w:World)(P:Nat->Prop)(base:Nat)(v u:Value)(vs:List Value)(Ar:List (List Int))(x:List Int)(h:GR w P base v vs Ar)(hP:∀g,P g->g<w.heap.size)(hu:Rd w u x)(hup:∀g,u.ownBlock=some g->P g)(hO:PH Ar)(hl:Ar.length<=1099511627776)(hm:∀i,i<Ar.length->(Ar.getD i []).length<=1048576)(hb:base<=w.heap.size):
  Calls Tryz.prog 76 #[v,u] w fun e w'=>∃v' vs',e = .returned (.tuple #[v',.bool (!(Qp Ar x))])/\GR w' P base v' vs' (EE Ar x)/\w.grownBy w' v.ownBlock/\(v'.ownBlock=v.ownBlock\/∃g,v'.ownBlock=some g/\w.heap.size<=g):=by
 obtain⟨j0,hj,hy0,hy1,hy2⟩:=info_parts Tryz.wK;have CF:=Sj w v u Ar x h.xA hu hO hl hm;obtain⟨R,hR⟩:∃R,R=DF Ar x:=⟨_,rfl⟩;have hrl:=RI Ar x;have yI:Hid (EE Ar x=if Qp Ar x=true then Ar else Ar.take R++x::Ar.drop R):=Lib.hid (by rw[hR];rfl);rw[<-hR] at CF hrl;clear hR hO hm;obtain⟨a0,c0,rfl⟩:∃a c,v = .slice a Ar.length c:=by obtain⟨a,c,e,-⟩:=h.xA;exact⟨a,c,e⟩
 obtain⟨au,cu,rfl,-⟩:=id hu;go_enter Tryz.func76,Tryz.ntmps76
 go_wp2_with fail
 refine CF.mono ?_;rintro e w1 ⟨rfl,k1⟩;have H1:=h.kept k1.grownBy (by simp);have s1:=k1.size;have U1:=hu.keep k1;have HU:=Lib.hid hu;clear CF hu;cases hi:Qp Ar x
 ·
  rw[hi,if_neg (by simp)] at yI;have k2:AC w1 (w1.alloc (.cells #[.slice au x.length cu] 28)):=(AC.refl w1).alloc _;have H2:=H1.kept k2.grownBy (by simp);have U2:=U1.keep k2;go_wp2_with (at_builtin;refine wpList_append_own_at _ rfl _ _ 26 rfl base 28 j0 (.slice none 0 0) 1 24 Tryz.underlying26 hj hy0 hy1 hy2 rfl (by decide) _ _ _ rfl H2.row ⟨_,0,none⟩ 1 1 [.slice au x.length cu] rfl rfl ?e1 ?e2 ?e3 ?e4 ?e5 ?_)
  case e1=>
   intro j u hj
   match j,hj with
   | 0,hj=>simp at hj;subst hj;simp[Addr.add]
  case e2=>intro u hu;simp at hu;subst hu;rfl
  case e3=>unfold maxLen;omega
  case e4=>omega
  case e5=>simp;omega
  intro v3 w3 hown3 hgrow3 _ hblk3
  obtain⟨g,c3,rfl⟩:∃g c,v3 = .slice (some ⟨g,0,none⟩) (Ar.length+1) c:=by
   rcases hown3.2 with ⟨_,hz⟩|⟨g,cap,cur,e,_⟩
   . omega
   . exact⟨g,cap,e⟩
  have hlv:vs.length=Ar.length:=by have:=h.row.1;omega
  have G13:w1.grownBy w3 (Value.slice a0 Ar.length c0).ownBlock:=Ce (Jb k2.grownBy _) hgrow3
  have hgP:¬P g/\(some g=(Value.slice a0 Ar.length c0).ownBlock\/w1.heap.size<=g):=by
   rcases hblk3 with q|q
   . exact⟨h.np g q.symm,.inl q⟩
   ·
    have q:g=w1.heap.size+1:=Option.some.inj q;exact⟨fun hp=>by have:=hP g hp;omega,.inr (by omega)⟩
  have HG:=Lib.hid G13;have zJ:=Lib.hid hgP;have HO3:=Lib.hid hown3;have H1':=Lib.hid H1;have HH:=Lib.hid h;have U1':=Lib.hid U1;have s3:=hgrow3.size;rw[AD] at s3;clear hown3 hgrow3 hblk3 H2 U2 k2 G13 hgP H1 h U1;go_wp2;go_loopw [8] (fun i wr=>∃(k:Nat) (y:Value),i = .int .i64 (k:Int)/\R<=k/\k<=Ar.length/\World.ownsRow wr base 28 1 (.slice (some ⟨g,0,none⟩) (Ar.length+1) c3) (Ar.length+1) (vs.take k++y::vs.drop k)/\w3.grownBy wr (some g)) (fun i _=>(intOf i).toNat)
  case atStart=>
   refine⟨Ar.length,.slice au x.length cu,by go_num,hrl,Nat.le_refl _,?_,World.grownBy.refl _ _⟩;rw[<-hlv,List.take_length,List.drop_length,hlv];exact HO3.out
  case round=>
   obtain⟨k,y,rfl,hk1,hk2,ho,hg⟩:=hrel;by_cases hgt:R<k
   ·
    obtain⟨m,rfl⟩:∃m,k=m+1:=⟨k-1,by omega⟩;obtain⟨am,nm,cm,em⟩:∃a n c,vs.getD m AE = .slice a n c:=by obtain⟨a,c,e,-⟩:=(H1'.out.each m (by omega)).1;exact⟨_,_,_,e⟩
    obtain⟨z1,z2,z3⟩:=Rw.put (r:=Dp 28 (vs.take (m+1)++y::vs.drop (m+1)) (.slice (some ⟨g,0,none⟩) (Ar.length+1) c3)) (g:=g) (cap:=c3) (k:=m+1) (show Rw.own wr base _ from by unfold Rw.own;rw[show (Dp 28 (vs.take (m+1)++y::vs.drop (m+1)) (.slice (some ⟨g,0,none⟩) (Ar.length+1) c3)).n=Ar.length+1 from by simp;omega];exact ho) (by simp;omega) (vs.getD m AE)
    have d1:wr.cell? ⟨g,m,none⟩=some (.slice am nm cm):=by
     rw[World.ownsRow.cellAt ho m (by omega),<-em];have:=Hv vs (m+1) m y AE (by omega);rw[if_pos (by omega),List.getD_eq_getElem?_getD,List.getElem?_eq_getElem (by simp;omega),Option.getD_some] at this;rw[List.getElem?_eq_getElem (by simp;omega),this]
    have d2:wr.cell? ⟨g,m+1,none⟩=some y:=by
     rw[World.ownsRow.cellAt ho (m+1) (by omega)];have:=Hv vs (m+1) (m+1) y AE (by omega);rw[if_neg (by omega),if_pos rfl,List.getD_eq_getElem?_getD,List.getElem?_eq_getElem (by simp;omega),Option.getD_some] at this;rw[List.getElem?_eq_getElem (by simp;omega),this]
    have Z1:=Lib.hid z1;have Z2:=Lib.hid z2;have EM:=Lib.hid em;clear z1 z2 em ho;rw[show ((m+1:Nat):Int)=(m:Int)+1 from rfl];have i1:(0:Int)<=(m:Int):=Int.natCast_nonneg _;have i2:(m:Int)+1<(Ar.length:Int)+1:=by omega
    go_wp2;go_roundw
    case rel=>
     refine⟨m,vs.getD m AE,by go_num,by omega,by omega,?_,?_⟩
     ·
      have q:=Z1.out;unfold Rw.own at q;simp only[Yc vs m y AE (by omega)] at q;rw[show (vs.take (m+1)++y::vs.drop (m+1)).length=Ar.length+1 from by simp;omega] at q;rw[<-EM.out];exact q
     ·
      rw[<-EM.out];exact Ce hg Z2.out
    case measure=>simp[intOf]
   ·
    obtain rfl:k=R:=by omega
    obtain⟨z1,z2,z3⟩:=Rw.put (r:=Dp 28 (vs.take k++y::vs.drop k) (.slice (some ⟨g,0,none⟩) (Ar.length+1) c3)) (g:=g) (cap:=c3) (k:=k) (show Rw.own wr base _ from by unfold Rw.own;rw[show (Dp 28 (vs.take k++y::vs.drop k) (.slice (some ⟨g,0,none⟩) (Ar.length+1) c3)).n=Ar.length+1 from by simp;omega];exact ho) (by simp;omega) (.slice au x.length cu)
    have d2:wr.cell? ⟨g,k,none⟩=some y:=by
     rw[World.ownsRow.cellAt ho k (by omega)];have:=Hv vs k k y AE (by omega);rw[if_neg (by omega),if_pos rfl,List.getD_eq_getElem?_getD,List.getElem?_eq_getElem (by simp;omega),Option.getD_some] at this;rw[List.getElem?_eq_getElem (by simp;omega),this]
    have Z1:=Lib.hid z1;have Z2:=Lib.hid z2;clear z1 z2 ho;have i1:(0:Int)<=(k:Int):=Int.natCast_nonneg _;have i2:(k:Int)<(Ar.length:Int)+1:=by omega
    go_wp2;go_ret2
    have GT:w.grownBy (wr.setCell ⟨g,k,none⟩ (.slice au x.length cu)) (Value.slice a0 Ar.length c0).ownBlock:=by
     have q1:=Ce (Jb k1.grownBy (Value.slice a0 Ar.length c0).ownBlock) HG.out;have q2:=Ce hg Z2.out;rcases zJ.out.2 with e|e
     ·
      rw[e] at q2;exact Ce q1 q2
     . exact Ub q1 q2 (by omega)
    have EA:∀(y:Value) (zs:List Int),Rd w y zs->(∀q,y.ownBlock=some q->P q)->Rd (wr.setCell ⟨g,k,none⟩ (.slice au x.length cu)) y zs:=fun y zs hy hp=>RJ hy GT.size (fun q hq hl=>GT.block q hl (fun e=>HH.out.np q e.symm (hp q hq)))
    refine⟨_,rfl,⟨vs.take k++.slice au x.length cu::vs.drop k,?_⟩,GT,?_⟩
    ·
     rw[yI.out];refine⟨?_,fun q hq=>?_,fun i hi'=>?_⟩
     ·
      have q:=Z1.out;unfold Rw.own at q;simp only[WQ vs k y (.slice au x.length cu) (by omega)] at q;rw[show (vs.take k++y::vs.drop k).length=Ar.length+1 from by simp;omega] at q;rw[show (Ar.take k++x::Ar.drop k).length=Ar.length+1 from by simp;omega];exact q
     ·
      have q:=Option.some.inj hq;exact q ▸ zJ.out.1
     ·
      have hi':i<Ar.length+1:=by rw[show (Ar.take k++x::Ar.drop k).length=Ar.length+1 from by simp;omega] at hi';exact hi'
      rw[Hv _ _ _ _ _ (by omega),Hv _ _ _ _ _ (by omega)];by_cases h1:i<k
      ·
       rw[if_pos h1,if_pos h1];have q:=HH.out.each i (by omega);exact⟨EA _ _ q.1 q.2,q.2⟩
      ·
       rw[if_neg h1,if_neg h1];by_cases h2:i=k
       ·
        rw[if_pos h2,if_pos h2];exact⟨EA _ _ HU.out hup,hup⟩
       ·
        rw[if_neg h2,if_neg h2];have q:=HH.out.each (i-1) (by omega);exact⟨EA _ _ q.1 q.2,q.2⟩
    ·
     rcases zJ.out.2 with e|e
     . exact .inl e
     . exact .inr ⟨g,rfl,by omega⟩
 ·
  rw[hi,if_pos rfl] at yI;go_wp2;go_ret2
  exact⟨_,_,by rw[hi];rfl,by rw[yI.out];exact H1,Jb k1.grownBy _,.inl rfl⟩
abbrev Rz:BV:=⟨AE,AE,AE,AE,AE,AE,AE,AE⟩
abbrev Mt:Bd:=⟨[],[],[],[],[],[],[]⟩
structure Aw (P:Nat->Prop)(w w':World):Prop where
 size:w.heap.size<=w'.heap.size
 blk:∀g,g<w.heap.size->P g->w'.heap[g]? = w.heap[g]?
theorem Aw.trans {P:Nat->Prop}{a b c:World}(h:Aw P a b)(k:Aw P b c):Aw P a c:=
 ⟨Nat.le_trans h.size k.size,fun g hg hp=>(k.blk g (Nat.lt_of_lt_of_le hg h.size) hp).trans (h.blk g hg hp)⟩
theorem Aw.mono {P P':Nat->Prop}{a b:World}(h:Aw P' a b)(hp:∀g,P g->P' g):Aw P a b:=⟨h.size,fun g hg hq=>h.blk g hg (hp g hq)⟩
theorem Aw.B0 {P:Nat->Prop}{a b:World}(k:AC a b):Aw P a b:=⟨k.size,fun g hg _=>Below.block k g hg⟩
theorem Aw.DQ {P:Nat->Prop}{a b:World}{r:Option Nat}(k:a.grownBy b r)(hr:∀g,r=some g->¬P g):Aw P a b:=⟨k.size,fun g hg hp=>k.block g hg (fun e=>hr g e.symm hp)⟩
def Fy (m:Nat)(w:World)(v:Value)(Ar:List (List Int)):Prop:=∀w':World,Aw (fun g=>m<=g) w w'->UD w' v Ar
theorem Fy.rd {m:Nat}{w:World}{v:Value}{Ar:List (List Int)}(h:Fy m w v Ar):UD w v Ar:=h w ⟨Nat.le_refl _,fun _ _ _=>rfl⟩
theorem Fy.on {m:Nat}{w w':World}{v:Value}{Ar:List (List Int)}(h:Fy m w v Ar)(k:Aw (fun g=>m<=g) w w'):Fy m w' v Ar:=fun w'' k'=>h w'' (k.trans k')
theorem Fy.low {m m':Nat}{w:World}{v:Value}{Ar:List (List Int)}(h:Fy m w v Ar)(hm:m'<=m):Fy m' w v Ar:=fun w' k=>h w' (k.mono (fun _ hg=>Nat.le_trans hm hg))
theorem Pg (m:Nat)(w:World)(a:Option Addr)(c:Nat):Fy m w (.slice a 0 c) []:=fun _ _=>⟨a,c,rfl,.inl rfl⟩
theorem GR.vV {w:World}{P:Nat->Prop}{base:Nat}{v:Value}{vs:List Value}{Ar:List (List Int)}(h:GR w P base v vs Ar)(hP:∀g,P g->base<=g/\g<w.heap.size):Fy base w v Ar:=by
 intro w' k;have h':GR w' P base v vs Ar:=⟨ES (r:=⟨28,1,v,Ar.length,vs⟩) h.row (fun _ hg=>k.blk _ (h.lt _ hg).2 (h.lt _ hg).1),h.np,fun i hi=>⟨RJ (h.each i hi).1 k.size (fun _ hg hl=>k.blk _ hl (hP _ ((h.each i hi).2 _ hg)).1),(h.each i hi).2⟩⟩;exact h'.xA
def C7 (w:World)(P:Nat->Prop)(v:BV)(AA:List (List Dd))(b:Bd):Prop:=∀w':World,Aw P w w'->Cf w' v AA b
theorem C7.rd {w:World}{P:Nat->Prop}{v:BV}{AA:List (List Dd)}{b:Bd}(h:C7 w P v AA b):Cf w v AA b:=h w ⟨Nat.le_refl _,fun _ _ _=>rfl⟩
theorem C7.on {w w':World}{P:Nat->Prop}{v:BV}{AA:List (List Dd)}{b:Bd}(h:C7 w P v AA b)(k:Aw P w w'):C7 w' P v AA b:=fun w'' k'=>h w'' (k.trans k')
theorem C7.mono {w:World}{P P':Nat->Prop}{v:BV}{AA:List (List Dd)}{b:Bd}(h:C7 w P v AA b)(hp:∀g,P g->P' g):C7 w P' v AA b:=fun w' k=>h w' (k.mono hp)
theorem A7.held {w:World}{m:Nat}{v:BV}{nv rv:List Value}{bs N:Nat}{AA:List (List Dd)}{b:Bd}(h:A7 w m v nv rv bs N AA b)(hm:m<=bs):C7 w (fun g=>m<=g/\g<w.heap.size) v AA b:=by
 intro w' k;have hh:∀g,m<=g->g<w.heap.size->w'.heap[g]? = w.heap[g]?:=fun g h1 h2=>k.blk g h2 ⟨h1,h2⟩
 have:A7 w' m v nv rv bs N AA b:=⟨⟨fun i hi=>ES (h.Ag.own i hi) (fun g hg=>hh g (h.Ag.lt hi g hg).1 (h.Ag.lt hi g hg).2),h.Ag.apart⟩,h.ln,h.lr,h.work.same k.size (fun g h1 h2=>hh g (by omega) (Nat.lt_of_lt_of_le h2 h.top)),Nat.le_trans h.top k.size,h.out⟩;exact this.rd0
def cB (v:BV):List Value:=[v.W,v.P,v.L,v.N,v.X,v.S,v.F,v.R]
theorem J6:∀vs:List BV,(vs.flatMap cB).length=vs.length*8
 | []=>rfl
 |v::vs=>by rw[List.flatMap_cons,List.length_append,J6 vs,List.length_cons];show 8+_=_;omega
theorem ZW:∀(vs:List BV) (i j:Nat),i<vs.length->j<8->(vs.flatMap cB)[i*8+j]? = (cB (vs.getD i Rz))[j]?
 | [],_,_,h,_=>by simp at h
 |v::vs,0,j,_,hj=>by
  rw[List.flatMap_cons,Nat.zero_mul,Nat.zero_add,List.getElem?_append_left (by show j<8;exact hj)];rfl
 |v::vs,i+1,j,h,hj=>by
  rw[List.flatMap_cons,List.getElem?_append_right (by show 8<=_;omega),show (i+1)*8+j-(cB v).length=i*8+j by show _-8=_;omega];exact ZW vs i j (by simpa using h) hj
theorem jG (vs:List BV)(n:Nat)(h:n<=vs.length):(vs.flatMap cB).take (n*8)=(vs.take n).flatMap cB:=by
 have e:vs.flatMap cB=(vs.take n).flatMap cB++(vs.drop n).flatMap cB:=by rw[<-List.flatMap_append,List.take_append_drop]
 rw[e,List.take_append_of_le_length (by rw[J6,List.length_take,Nat.min_eq_left h];exact Nat.le_refl _),List.take_of_length_le (by rw[J6,List.length_take,Nat.min_eq_left h];exact Nat.le_refl _)]
structure FA (w:World)(P:Nat->Prop)(base:Nat)(v:Value)(vs:List BV)(AA:List (List Dd))(l:List Bd):Prop where
 row:w.ownsRow base 36 8 v l.length (vs.flatMap cB)
 np:∀g,v.ownBlock=some g->¬P g
 each:∀i,i<l.length->C7 w P (vs.getD i Rz) AA (l.getD i Mt)
theorem FA.len {w:World}{P:Nat->Prop}{base:Nat}{v:Value}{vs:List BV}{AA:List (List Dd)}{l:List Bd}(h:FA w P base v vs AA l):vs.length=l.length:=by
 have:=h.row.1;rw[J6] at this;omega
theorem FA.lt {w:World}{P:Nat->Prop}{base:Nat}{v:Value}{vs:List BV}{AA:List (List Dd)}{l:List Bd}(h:FA w P base v vs AA l):∀g,v.ownBlock=some g->base<=g/\g<w.heap.size:=World.ownsRow.lt h.row
theorem FA.kept {w w':World}{P:Nat->Prop}{base:Nat}{v:Value}{vs:List BV}{AA:List (List Dd)}{l:List Bd}{r:Option Nat}(h:FA w P base v vs AA l)(hg:w.grownBy w' r)(hr:∀g,r=some g->¬P g/\v.ownBlock≠some g):FA w' P base v vs AA l:=by
 refine⟨World.ownsRow.kept h.row hg ?_,h.np,fun i hi=>(h.each i hi).on (Aw.DQ hg (fun g e=>(hr g e).1))⟩
 cases hv:v.ownBlock with
 |none=>exact .inl rfl
 |some g=>exact .inr (fun e=>(hr g e.symm).2 hv)
theorem FA.mono {w:World}{P P':Nat->Prop}{base:Nat}{v:Value}{vs:List BV}{AA:List (List Dd)}{l:List Bd}(h:FA w P base v vs AA l)(hp:∀g,P g->P' g)(hn:∀g,v.ownBlock=some g->¬P' g):FA w P' base v vs AA l:=
 ⟨h.row,hn,fun i hi=>(h.each i hi).mono hp⟩
theorem FA.pop {w:World}{P:Nat->Prop}{base:Nat}{v:Value}{vs:List BV}{AA:List (List Dd)}{l:List Bd}{b:Bd}(h:FA w P base v vs AA (l++[b])):
  ∃g cap bv,v = .slice (some ⟨g,0,none⟩) (l.length+1) cap/\l.length+1<=cap/\C7 w P bv AA b/\FA w P base (.slice (some ⟨g,0,none⟩) l.length cap) (vs.take l.length) AA l/\∀j,j<8->w.cell? ⟨g,l.length*8+j,none⟩=(cB bv)[j]?:=by
 have hlen:=h.len;rw[List.length_append,List.length_singleton] at hlen;have hrow:=h.row;rw[List.length_append,List.length_singleton] at hrow;rcases hrow.2 with ⟨_,h2⟩|⟨g,cap,cur,rfl,hb,hg,hc,hm,hs,ht⟩
 . omega
 ·
  have he:=h.each l.length (by simp);rw[show (l++[b]).getD l.length Mt=b from by simp] at he;refine⟨g,cap,vs.getD l.length Rz,rfl,hc,he,⟨⟨?_,.inr ⟨g,cap,cur,rfl,hb,hg,by omega,hm,hs,?_⟩⟩,h.np,fun i hi=>?_⟩,fun j hj=>?_⟩
  . rw[J6,List.length_take,Nat.min_eq_left (by omega)]
  ·
   have:=congrArg (List.take (l.length*8)) ht
   rwa [List.take_take,Nat.min_eq_left (by omega),jG _ _ (by omega)] at this
  ·
   have q:=h.each i (by simp;omega);have e1:(l++[b]).getD i Mt=l.getD i Mt:=by rw[List.getD_eq_getElem?_getD,List.getElem?_append_left hi,<-List.getD_eq_getElem?_getD]
   have e2:(vs.take l.length).getD i Rz=vs.getD i Rz:=by rw[List.getD_eq_getElem?_getD,List.getElem?_take_of_lt hi,<-List.getD_eq_getElem?_getD]
   rw[e1] at q;rw[e2];exact q
  ·
   rw[World.ownsRow.cellAt hrow (l.length*8+j) (by omega)];exact ZW vs _ _ (by omega) hj
theorem FA.push {w w':World}{P:Nat->Prop}{base:Nat}{v v':Value}{vs:List BV}{AA:List (List Dd)}{l:List Bd}{b:Bd}{bv:BV}(h:FA w P base v vs AA l)(hb:C7 w P bv AA b)(ho:w'.ownsRow base 36 8 v' (l.length+1) (vs.flatMap cB++cB bv))(hg:w.grownBy w' v.ownBlock)(hn:∀g,v'.ownBlock=some g->¬P g):FA w' P base v' (vs++[bv]) AA (l++[b]):=by
 have hlen:=h.len;have st:Aw P w w':=Aw.DQ hg h.np;refine⟨by rw[List.length_append,List.length_singleton,List.flatMap_append];simpa using ho,hn,fun i hi=>?_⟩;by_cases e:i<l.length
 ·
  rw[show (vs++[bv]).getD i Rz=vs.getD i Rz from by simp only[List.getD_eq_getElem?_getD];rw[List.getElem?_append_left (by omega)],show (l++[b]).getD i Mt=l.getD i Mt from by simp only[List.getD_eq_getElem?_getD];rw[List.getElem?_append_left e]];exact (h.each i e).on st
 ·
  have e:i=l.length:=by rw[List.length_append,List.length_singleton] at hi;omega
  subst e;rw[show (l++[b]).getD l.length Mt=b from by simp,show (vs++[bv]).getD l.length Rz=bv from by rw[<-hlen];simp];exact hb.on st
def Tx (AA:List (List Dd))(b:Bd)(c:Nat):Dd:=if Ap b c<(AA.getD c []).length then Ak AA c (Ap b c) else zD
def Yn (AA:List (List Dd))(b:Bd)(c:Nat):Bool:=decide (Ap b c<(AA.getD c []).length)
structure tX (AA:List (List Dd))(b:Bd)(c:Nat):Prop where
 ck:c<AA.length
 l:b.AK.length=AA.length
 n0:0<=b.AK.getD c 0
 n1:b.AK.getD c 0<=((AA.getD c []).length:Int)
 top:(AA.getD c []).length<=1048576
theorem Hy (w:World)(v:BV)(AA:List (List Dd))(b:Bd)(c:Nat)(h:Cf w v AA b)(hc:tX AA b c):
  Calls Tryz.prog 87 #[v.agg,.int .i64 c] w fun e w'=>e = .returned (.tuple #[dV (Tx AA b c),.bool (Yn AA b c)])/\AC w w':=by
 obtain⟨aW,aP,aL,aN,aX,aS,aF,aR,cW,cP,cL,cN,cX,cS,cF,cR,rfl⟩:=h.shapes;obtain⟨hcl,hl,hn0,hn1,htop⟩:=hc;have hcx:c<b.AK.length:=by omega
 have KW:AC w ((w.alloc (.cells #[.slice aW AA.length cW,.slice aP b.AM.length cP,.slice aL b.AQ.length cL,.slice aN b.AG.length cN,.slice aX b.AK.length cX,.slice aS b.sn.length cS,.slice aF b.fr.length cF,.slice aR b.rws.length cR] 36)).alloc (.cells #[.int .i64 0,.int .i64 0,.int .i64 0,.int .i64 0] 65)):=((AC.refl w).alloc _).alloc _;have h':=h.keep KW;obtain⟨a',c',he',hX⟩:=h'.X;simp only[Value.slice.injEq,true_and] at he';obtain⟨rfl,rfl⟩:=he';rcases hX with h0|⟨bx,ox,rfl,hbx,hcx'⟩
 . exfalso;rw[h0] at hcx;simp at hcx
 obtain⟨a',c',he',hW⟩:=h'.W;simp only[Value.slice.injEq,true_and] at he';obtain⟨rfl,rfl⟩:=he';rcases hW with h0|⟨bw,ow,rfl,hbw,hcw⟩
 . exfalso;rw[h0] at hcl;simp at hcl
 obtain⟨vd,d3,r3⟩:=hcw c hcl;obtain⟨k,hk⟩:=Int.eq_ofNat_of_zero_le hn0;have d1:=hcx' c hcx;rw[hk] at d1 hn1;have hkN:Ap b c=k:=by unfold Ap;rw[hk,Int.toNat_natCast]
 have HB:Hid (Yn AA b c=decide (k<(AA.getD c []).length)):=Lib.hid (by rw[Yn,hkN]);have HD:Hid (Tx AA b c=if k<(AA.getD c []).length then Ak AA c k else zD):=Lib.hid (by rw[Tx,hkN]);generalize Tx AA b c=ND at HD ⊢;generalize Yn AA b c=NI at HB ⊢;obtain⟨ad,cd,rfl,r3⟩:=r3;unfold Ak at HD;generalize AA.getD c []=ds at *;have j1:(0:Int)<=(c:Int):=Int.natCast_nonneg _;have j2:(c:Int)<(b.AK.length:Int):=by omega
 have j3:(c:Int)<(AA.length:Int):=by omega
 have k1:(0:Int)<=(k:Int):=Int.natCast_nonneg _;clear hcw hcx' h h' hkN hl;by_cases hlt:k<ds.length
 ·
  have HB:Hid (NI=true):=Lib.hid (by rw[HB.out,decide_eq_true hlt]);have HD:Hid (ND=ds.getD k zD):=Lib.hid (by rw[HD.out,if_pos hlt]);rcases r3 with h0|⟨bd,od,rfl,hbd,hcd⟩
  . exfalso;rw[h0] at hlt;simp at hlt
  obtain⟨q0,q1,q2,q3⟩:=hcd k hlt;generalize ds.getD k zD=y at q0 q1 q2 q3 HD;obtain⟨y0,y1,y2,y3⟩:=y;simp only at q0 q1 q2 q3;have k2:(k:Int)<(ds.length:Int):=by omega
  have k3:((k:Int)==(ds.length:Int))=false:=by simp;omega
  clear hcd hn1;go_enter Tryz.func87,Tryz.ntmps87
  go_wp2;refine bodyPost_ret (BN (by rfl) _ _ (w.heap.size+1) 65 #[.int .i64 y0,.int .i64 y1,.int .i64 y2,.int .i64 y3] (0,0) _ (.bool true) rfl (by rw[B7,if_pos (by rw[AD])]) rfl Tryz.underlying65 rfl (by kernel_rfl)) rfl ?_;exact⟨by rw[HD.out,HB.out],((AC.refl w).alloc _).alloc _⟩
 ·
  have HB2:Hid (NI=false):=Lib.hid (by rw[HB.out,decide_eq_false hlt]);have HD2:Hid (ND=zD):=Lib.hid (by rw[HD.out,if_neg hlt]);obtain rfl:k=ds.length:=by omega
  have k3:((ds.length:Int)==(ds.length:Int))=true:=by simp
  clear hn1 HB HD;go_enter Tryz.func87,Tryz.ntmps87
  go_wp2;refine bodyPost_ret (BN (by rfl) _ _ (w.heap.size+1) 65 #[.int .i64 0,.int .i64 0,.int .i64 0,.int .i64 0] (0,0) _ (.bool false) rfl (by rw[B7,if_pos (by rw[AD])]) rfl Tryz.underlying65 rfl (by kernel_rfl)) rfl ?_;exact⟨by rw[HD2.out,HB2.out];rfl,((AC.refl w).alloc _).alloc _⟩
structure Y6 (AA:List (List Dd))(b:Bd):Prop where
 n:b.AG.length=AA.length
 x:b.AK.length=AA.length
 m:AA.length<=1048576
 each:∀c,c<AA.length->0<=b.AK.getD c 0/\b.AK.getD c 0<=((AA.getD c []).length:Int)/\(AA.getD c []).length<=1048576/\(b.AG.getD c []).length<=1048576
theorem Y6.nx {AA:List (List Dd)}{b:Bd}(h:Y6 AA b){c:Nat}(hc:c<AA.length):tX AA b c:=
 ⟨hc,h.x,(h.each c hc).1,(h.each c hc).2.1,(h.each c hc).2.2.1⟩
theorem Zb (AA:List (List Dd))(b:Bd)(c:Nat):BU AA b c=(Yn AA b c&&((decide ((Tx AA b c).1<=2)&&decide ((Tx AA b c).2.2.2=0))||(b.AG.getD c []).isEmpty)):=by
 unfold BU Yn Tx BS;by_cases h:Ap b c<(AA.getD c []).length
 . rw[if_pos h,decide_eq_true h]
 . rw[decide_eq_false h];rfl
theorem Uh (w:World)(v:BV)(AA:List (List Dd))(b:Bd)(c:Nat)(h:Cf w v AA b)(hp:Y6 AA b)(hc:c<AA.length):
  Calls Tryz.prog 85 #[v.agg,.int .i64 c] w fun e w'=>e = .returned (.bool (BU AA b c))/\AC w w':=by
 have C:=fun (W:World) (kW:AC w W)=>Hy W v AA b c (h.keep kW) (hp.nx hc)
 have HC:Hid (BU AA b c=(Yn AA b c&&((decide ((Tx AA b c).1<=2)&&decide ((Tx AA b c).2.2.2=0))||(b.AG.getD c []).isEmpty))):=Lib.hid (Zb AA b c);have hcn:c<b.AG.length:=by rw[hp.n];exact hc
 have hN:=h.N;obtain⟨aW,aP,aL,aN,aX,aS,aF,aR,cW,cP,cL,cN,cX,cS,cF,cR,rfl⟩:=h.shapes;obtain⟨a',c',he',hN⟩:=hN;simp only[Value.slice.injEq,true_and] at he';obtain⟨rfl,rfl⟩:=he';rcases hN with h0|⟨bn,on,rfl,hbn,hcn'⟩
 . exfalso;rw[h0] at hcn;simp at hcn
 obtain⟨vn,d3,r3⟩:=hcn' c hcn;obtain⟨an,cn,rfl,-⟩:=r3;generalize BU AA b c=ANS at HC ⊢;generalize Tx AA b c=D at C HC;generalize Yn AA b c=I at C HC;generalize b.AG.getD c []=ns at *;obtain⟨y0,y1,y2,y3⟩:=D;simp only at HC;have j1:(0:Int)<=(c:Int):=Int.natCast_nonneg _;have j2:(c:Int)<(b.AG.length:Int):=by omega
 clear hcn' h;go_enter Tryz.func85,Tryz.ntmps85
 go_wp2_with fail
 refine (C _ ((AC.refl w).alloc _)).mono ?_;rintro e w1 ⟨rfl,k1⟩;have K1:=((AC.refl w).alloc _).trans k1;have e3:w1.cell? ⟨w.heap.size,3,none⟩=some (.slice (some ⟨bn,on,none⟩) b.AG.length cN):=AZ k1 3;have d4:=(K1.cell hbn).trans d3;have s1:=K1.size;have z1:w.heap.size<w1.heap.size:=by have:=k1.size;simp at this;omega
 have z2:bn<w1.heap.size:=Nat.lt_of_lt_of_le hbn s1;have e5:(w1.alloc (.cells #[.int .i64 y0,.int .i64 y1,.int .i64 y2,.int .i64 y3] 65)).cell? ⟨w.heap.size,3,none⟩=some (.slice (some ⟨bn,on,none⟩) b.AG.length cN):=(((AC.refl w1).alloc _).cell z1).trans e3;have e6:(w1.alloc (.cells #[.int .i64 y0,.int .i64 y1,.int .i64 y2,.int .i64 y3] 65)).cell? ⟨bn,on+c,none⟩=some (.slice an ns.length (ns.length+cn)):=(((AC.refl w1).alloc _).cell z2).trans d4;clear C d3;cases I
 ·
  have HE:Hid (ANS=false):=Lib.hid (by rw[HC.out];rfl);go_wp2;go_ret;exact⟨by rw[HE.out];rfl,K1.alloc _⟩
 ·
  by_cases h2:y0<=2
  ·
   by_cases h0:y3=0
   ·
    have HE:Hid (ANS=true):=Lib.hid (by rw[HC.out,decide_eq_true h2,decide_eq_true h0];rfl);have b0:(y3==0)=true:=by simp[h0]
    clear HC;subst h0;go_wp2;go_ret;exact⟨by rw[HE.out];rfl,K1.alloc _⟩
   ·
    have HE:Hid (ANS=ns.isEmpty):=Lib.hid (by rw[HC.out,decide_eq_true h2,decide_eq_false h0];simp);have b0:(y3==0)=false:=by simp[h0]
    have HQ:Hid (((ns.length:Int)==0)=ns.isEmpty):=Lib.hid (by cases ns<;>simp;omega);clear HC;go_wp2;go_ret;exact⟨by rw[HE.out,<-HQ.out];rfl,K1.alloc _⟩
  ·
   have HE:Hid (ANS=ns.isEmpty):=Lib.hid (by rw[HC.out,decide_eq_false h2];simp);have HQ:Hid (((ns.length:Int)==0)=ns.isEmpty):=Lib.hid (by cases ns<;>simp;omega);have h2':¬(y0<=2):=h2;clear HC;go_wp2;go_ret;exact⟨by rw[HE.out,<-HQ.out];rfl,K1.alloc _⟩
theorem wX {AA:List (List Dd)}{b:Bd}(h:Ac AA b=true):Y6 AA b:=by
 have S:=Dc.of h;have u:=Ay S.work;refine⟨S.AG,S.AK,by omega,fun c hc=>?_⟩;have h1:=Fd h hc;have h2:=u.2 c hc;simp only[Fu,Bool.and_eq_true,decide_eq_true_eq] at h2;have h3:=S.nl c;exact⟨h1.1,h1.2,by omega,by omega⟩
end Go.Proofs.YtnmelakgmgenjaaGreat
