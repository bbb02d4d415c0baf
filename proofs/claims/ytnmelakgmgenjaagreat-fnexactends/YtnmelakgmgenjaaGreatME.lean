/- Gathered texts. -/
import Derived.Maps.AppendAt
import Derived.Laws.OwnMore
import Derived.OwnWalk
import Derived.Test.YtnmelakgmgenjaaGreatMD
import Derived.Laws.Tables
import Derived.Deep.RegionHeld3
import Derived.Orders
import Derived.RegionTactic
import Derived.Shelf.SlSortCmp.Whole1
import Derived.Shelf.SlGeneric
import Derived.Ground.SlsfProg
import Derived.Test.YtnmelakgmgenjaaGreatProg
set_option maxRecDepth 100000
set_option maxHeartbeats 8000000
namespace Go.Proofs.YtnmelakgmgenjaaGreat
open Go
open Go.ChangeShapes Go.WideShapes Go.ChangeAt Go.RowKit
open Go.RowKit
open Go.Shelf
def UD (w:World)(v:Value)(Ar:List (List Int)):Prop:=
 ∃(a:Option Addr) (cap:Nat),v = .slice a Ar.length cap /\
  (Ar=[]\/∃b off,a=some ⟨b,off,none⟩/\b<w.heap.size/\∀i,i<Ar.length->∃vi,w.cell? ⟨b,off+i,none⟩=some vi/\Rd w vi (Ar.getD i []))
theorem UD.keep {w w':World}{v:Value}{Ar:List (List Int)}(h:UD w v Ar)(k:AC w w'):UD w' v Ar:=by
 obtain⟨a,cap,hv,h⟩:=h;refine⟨a,cap,hv,?_⟩;rcases h with h|⟨b,off,ha,hb,hc⟩
 . exact .inl h
 ·
  refine .inr ⟨b,off,ha,Nat.lt_of_lt_of_le hb k.size,fun i hi=>?_⟩;obtain⟨vi,h1,h2⟩:=hc i hi;exact⟨vi,(k.cell hb).trans h1,h2.keep k⟩
theorem Rd.wO {w w':World}{v:Value}{zs:List Int}{row:Option Nat}(h:Rd w v zs)(hg:w.grownBy w' row)(hne:v.ownBlock=none\/v.ownBlock≠row):Rd w' v zs:=by
 obtain⟨a,cap,rfl,h⟩:=h;refine⟨a,cap,rfl,?_⟩;rcases h with h|⟨b,off,rfl,hb,hc⟩
 . exact .inl h
 ·
  refine .inr ⟨b,off,rfl,Nat.lt_of_lt_of_le hb hg.size,fun i hi=>?_⟩;rw[World.cell?_of_block (w:=w) (hg.block b hb (fun e=>by rcases hne with h|h<;>simp[Value.ownBlock] at h;exact h e))];exact hc i hi
def uq:Value->Nat
 | .slice _ _ c=>c
 |_=>0
structure Hg (w:World)(x u:Value)(zs:List Int):Prop where
 rd:Rd w u zs
 ne:u.ownBlock=none\/u.ownBlock≠x.ownBlock
 lt:∀k,u.ownBlock=some k->k<w.heap.size
 cap:zs.length<=uq u
theorem Hg.keep {w w':World}{x u:Value}{zs:List Int}(h:Hg w x u zs)(k:AC w w'):Hg w' x u zs:=
 ⟨h.rd.keep k,h.ne,fun j hj=>Nat.lt_of_lt_of_le (h.lt j hj) k.size,h.cap⟩
theorem Hg.grow {w w':World}{x x' u:Value}{zs:List Int}(h:Hg w x u zs)(hg:w.grownBy w' x.ownBlock)(hb:x'.ownBlock=x.ownBlock\/x'.ownBlock=some w.heap.size):Hg w' x' u zs:=by
 refine⟨h.rd.wO hg h.ne,?_,fun j hj=>Nat.lt_of_lt_of_le (h.lt j hj) hg.size,h.cap⟩;rcases hb with hb|hb
 . rw[hb];exact h.ne
 ·
  cases hu:u.ownBlock with
  |none=>exact .inl rfl
  |some k=>exact .inr (fun e=>by rw[hb] at e;have:=h.lt k hu;have:=Option.some.inj e;omega)
structure Ot (w:World)(base:Nat)(x:Value)(vs:List Value)(Ar:List (List Int)):Prop where
 row:w.ownsRow base 28 1 x Ar.length vs
 each:∀i u,vs[i]? = some u->Hg w x u (Ar.getD i [])
theorem Ot.keep {w w':World}{base:Nat}{x:Value}{vs:List Value}{Ar:List (List Int)}(h:Ot w base x vs Ar)(k:AC w w'):Ot w' base x vs Ar:=
 ⟨World.ownsRow.kept h.row k.grownBy (by cases x.ownBlock<;>simp),fun i u hu=>(h.each i u hu).keep k⟩
theorem Ot.lt {w:World}{base:Nat}{x:Value}{vs:List Value}{Ar:List (List Int)}(h:Ot w base x vs Ar):∀k,x.ownBlock=some k->base<=k/\k<w.heap.size:=World.ownsRow.lt h.row
theorem Ot.rd {w:World}{base:Nat}{x:Value}{vs:List Value}{Ar:List (List Int)}(h:Ot w base x vs Ar):UD w x Ar:=by
 have hl:=h.row.1;have hlt:=h.lt;have h2:=h.row;rcases h.row.2 with ⟨rfl,hz⟩|⟨g,cap,cur,rfl,hb,hg,_⟩
 . exact⟨none,0,by rw[hz],.inl (List.eq_nil_of_length_eq_zero hz)⟩
 ·
  refine⟨_,_,rfl,.inr ⟨g,0,rfl,(hlt g rfl).2,fun i hi=>?_⟩⟩;have hi':i<vs.length:=by omega
  refine⟨vs[i],?_,(h.each i _ (List.getElem?_eq_getElem hi')).rd⟩;rw[Nat.zero_add,World.ownsRow.cellAt h2 i (by omega),List.getElem?_eq_getElem hi']
def uD (w:World)(v:Value)(Ar:List (List Int)):Prop:=
 ∃(a:Option Addr) (cap:Nat),v = .slice a Ar.length cap /\
  (Ar=[]\/∃b off,a=some ⟨b,off,none⟩/\b<w.heap.size/\∀i,i<Ar.length->∃vi,w.cell? ⟨b,off+i,none⟩=some vi/\Rd w vi (Ar.getD i [])/\(Ar.getD i []).length<=uq vi)
theorem uD.rd {w:World}{v:Value}{Ar:List (List Int)}(h:uD w v Ar):UD w v Ar:=by
 obtain⟨a,cap,hv,h⟩:=h;refine⟨a,cap,hv,?_⟩;rcases h with h|⟨b,off,ha,hb,hc⟩
 . exact .inl h
 ·
  refine .inr ⟨b,off,ha,hb,fun i hi=>?_⟩;obtain⟨vi,h1,h2,_⟩:=hc i hi;exact⟨vi,h1,h2⟩
theorem Ot.push {w w':World}{base:Nat}{x x' u:Value}{vs:List Value}{Ar:List (List Int)}{zs:List Int}(h:Ot w base x vs Ar)(hu:Hg w x u zs)
  (ho:w'.ownsRow base 28 1 x' (Ar.length+1) (vs++[u])) (hg:w.grownBy w' x.ownBlock) (hb:x'.ownBlock=x.ownBlock\/x'.ownBlock=some w.heap.size):Ot w' base x' (vs++[u]) (Ar++[zs]):=by
 have hl:=h.row.1;refine⟨by rw[List.length_append];exact ho,fun i y hy=>?_⟩;by_cases hi:i<vs.length
 ·
  rw[List.getElem?_append_left hi] at hy;have:=(h.each i y hy).grow hg hb;rw[List.getD_eq_getElem?_getD,List.getElem?_append_left (by omega),<-List.getD_eq_getElem?_getD];exact this
 ·
  have hi2:i=vs.length:=by
   have:=(List.getElem?_eq_some_iff.1 hy).1;simp at this;omega
  subst hi2;rw[List.getElem?_append_right (Nat.le_refl _),Nat.sub_self] at hy;simp only[List.getElem?_cons_zero,Option.some.injEq] at hy;subst hy;rw[List.getD_eq_getElem?_getD,List.getElem?_append_right (by omega),show vs.length-Ar.length=0 by omega];exact hu.grow hg hb
theorem Tryz.wK:(Tryz.prog.info? 28).map (fun i=>(i.zero,i.size,i.bytes))=some (some (.slice none 0 0),1,24):=by kernel_rfl
section
structure Rw where
 e:TypeId
 size:Nat
 v:Value
 n:Nat
 xs:List Value
def Rw.own (w:World)(m:Nat)(r:Rw):Prop:=w.ownsRow m r.e r.size r.v r.n r.xs
def IX {ι:Type}[DecidableEq ι](R:ι->Rw)(i:ι)(r:Rw):ι->Rw:=fun j=>if j=i then r else R j
theorem Am {ι:Type}[DecidableEq ι](R:ι->Rw)(i:ι)(r:Rw):IX R i r i=r:=if_pos rfl
theorem AR {ι:Type}[DecidableEq ι](R:ι->Rw){i j:ι}(r:Rw)(h:j≠i):IX R i r j=R j:=if_neg h
structure Fl {ι:Type}(w:World)(m:Nat)(live:ι->Prop)(R:ι->Rw):Prop where
 own:∀i,live i->(R i).own w m
 apart:∀i j,live i->live j->i≠j->(R i).v.ownBlock=none\/(R i).v.ownBlock≠(R j).v.ownBlock
section
variable {ι:Type} {w w':World} {m:Nat} {live:ι->Prop} {R:ι->Rw}
theorem Fl.lt (h:Fl w m live R){i:ι}(hi:live i):∀k,(R i).v.ownBlock=some k->m<=k/\k<w.heap.size:=World.ownsRow.lt (h.own i hi)
theorem Fl.keep (h:Fl w m live R)(k:AC w w'):Fl w' m live R:=
 ⟨fun i hi=>World.ownsRow.kept (h.own i hi) k.grownBy (by cases (R i).v.ownBlock<;>simp),h.apart⟩
theorem Fl.far (h:Fl w m live R){row:Option Nat}(hg:w.grownBy w' row)(hr:∀i,live i->(R i).v.ownBlock=none\/(R i).v.ownBlock≠row):Fl w' m live R:=
 ⟨fun i hi=>World.ownsRow.kept (h.own i hi) hg (hr i hi),h.apart⟩
theorem Fl.congr (h:Fl w m live R){live':ι->Prop}{R':ι->Rw}(hl:∀i,live' i->live i)(hr:∀i,live' i->R' i=R i):Fl w m live' R':=
 ⟨fun i hi=>by rw[hr i hi];exact h.own i (hl i hi),fun i j hi hj hij=>by rw[hr i hi,hr j hj];exact h.apart i j (hl i hi) (hl j hj) hij⟩
variable [DecidableEq ι]
theorem Fl.set (h:Fl w m live R){i:ι}(hi:live i){r:Rw}(hg:w.grownBy w' (R i).v.ownBlock)(hb:r.v.ownBlock=(R i).v.ownBlock\/r.v.ownBlock=some w.heap.size\/r.v.ownBlock=none)(ho:r.own w' m):Fl w' m live (IX R i r):=by
 refine⟨fun j hj=>?_,fun j k hj hk hjk=>?_⟩
 ·
  by_cases e:j=i
  . subst e;rw[Am];exact ho
  ·
   rw[AR R r e];exact World.ownsRow.kept (h.own j hj) hg (h.apart j i hj hi e)
 ·
  have new:∀j,live j->j≠i->(R j).v.ownBlock=none\/(R j).v.ownBlock≠some w.heap.size:=fun j hj _=>by
   cases e:(R j).v.ownBlock with
   |none=>exact .inl rfl
   |some b=>exact .inr (fun e'=>by have:=(h.lt hj b e).2;have:=Option.some.inj e';omega)
  by_cases ej:j=i
  ·
   subst ej;have ek:k≠j:=fun e=>hjk e.symm
   rw[Am,AR R r ek];rcases hb with hb|hb|hb
   . rw[hb];exact h.apart j k hj hk hjk
   ·
    rw[hb];right;intro e;rcases new k hk ek with h1|h1
    . rw[h1] at e;cases e
    . exact h1 e.symm
   . exact .inl hb
  ·
   rw[AR R r ej];by_cases ek:k=i
   ·
    subst ek;rw[Am];rcases hb with hb|hb|hb
    . rw[hb];exact h.apart j k hj hk hjk
    . rw[hb];exact new j hj ej
    ·
     rw[hb]
     cases (R j).v.ownBlock with
     |none=>exact .inl rfl
     |some b=>exact .inr (by simp)
   ·
    rw[AR R r ek];exact h.apart j k hj hk hjk
theorem Fl.add (h:Fl w m live R){i:ι}(hi:¬live i){r:Rw}{s:Nat}(hs:s=w.heap.size)(k:AC w w')(ho:r.own w' m)(hn:∀b,r.v.ownBlock=some b->s<=b):Fl w' m (fun j=>live j\/j=i) (IX R i r):=by
 have hk:=h.keep k
 have new:∀j,live j->(R j).v.ownBlock=none\/(R j).v.ownBlock≠r.v.ownBlock:=fun j hj=>by
  cases e:(R j).v.ownBlock with
  |none=>exact .inl rfl
  |some b=>exact .inr (fun e'=>by have:=(h.lt hj b e).2;have:=hn b e'.symm;omega)
 have ne:∀j,live j->j≠i:=fun j hj e=>hi (e ▸ hj)
 refine⟨fun j hj=>?_,fun j l hj hl hjl=>?_⟩
 ·
  rcases hj with hj|rfl
  . rw[AR R r (ne j hj)];exact hk.own j hj
  . rw[Am];exact ho
 ·
  rcases hj with hj|rfl
  ·
   rw[AR R r (ne j hj)];rcases hl with hl|rfl
   . rw[AR R r (ne l hl)];exact h.apart j l hj hl hjl
   . rw[Am];exact new j hj
  ·
   rw[Am];rcases hl with hl|rfl
   ·
    rw[AR R r (ne l hl)];rcases new l hl with h1|h1
    ·
     rw[h1]
     cases r.v.ownBlock with
     |none=>exact .inl rfl
     |some b=>exact .inr (by simp)
    . exact .inr (fun e=>h1 e.symm)
   . exact absurd rfl hjl
end
theorem Rw.cell {w:World}{m:Nat}{r:Rw}(h:r.own w m){g cap k:Nat}(hv:r.v = .slice (some ⟨g,0,none⟩) r.n cap)(hk:k<r.n*r.size):w.cell? ⟨g,k,none⟩=r.xs[k]?:=by
 unfold Rw.own at h;rw[hv] at h;exact World.ownsRow.cellAt h k hk
theorem Rw.put {w:World}{m:Nat}{r:Rw}(h:r.own w m){g cap k:Nat}(hv:r.v = .slice (some ⟨g,0,none⟩) r.n cap)(x:Value):Rw.own (w.setCell ⟨g,k,none⟩ x) m { r with xs:=r.xs.set k x }/\w.grownBy (w.setCell ⟨g,k,none⟩ x) r.v.ownBlock/\w.frozen? ⟨g,k,none⟩=false:=by
 unfold Rw.own at h ⊢;rcases h.2 with ⟨h1,_⟩|⟨g',cap',cur,h1,hb,hg,hn,hm,hs,ht⟩
 . rw[hv] at h1;simp at h1
 ·
  rw[hv] at h1;simp only[Value.slice.injEq,Option.some.injEq,Addr.mk.injEq,and_true,true_and] at h1;obtain⟨rfl,rfl⟩:=h1;refine⟨⟨by simpa using h.1,.inr ⟨g,cap,cur.setIfInBounds k x,hv,hb,heap_setCell_same w g k _ _ _ hg,hn,hm,by simpa using hs,?_⟩⟩,?_,frozen_of_row w g k _ _ hg⟩
  . rw[Array.toList_setIfInBounds,List.take_set,ht]
  ·
   rw[hv];exact Ae w g k x
end
section
abbrev AE:Value:= .slice none 0 0
abbrev Bk (zs:List Int)(v:Value):Rw:=⟨2,1,v,zs.length,zs.map (Value.int .i64)⟩
abbrev Dp (t:TypeId)(vs:List Value)(v:Value):Rw:=⟨t,1,v,vs.length,vs⟩
section
variable {w:World} {m:Nat}
theorem Br {t:TypeId}{u:Value}{vs:List Value}(o:(Dp t vs u).own w m):∃a cap,u = .slice a vs.length cap/\(vs=[]\/∃g,a=some ⟨g,0,none⟩/\g<w.heap.size/\∀i,i<vs.length->w.cell? ⟨g,i,none⟩=some (vs.getD i AE)):=by
 have hlt:=World.ownsRow.lt o;have o':=o;rcases o.2 with ⟨h1,h2⟩|⟨g,cap,cur,h1,_⟩
 ·
  have:vs=[]:=List.eq_nil_of_length_eq_zero h2;subst this;exact⟨none,0,h1,.inl rfl⟩
 ·
  refine⟨some ⟨g,0,none⟩,cap,h1,.inr ⟨g,rfl,(hlt g (by show u.ownBlock=_;rw[show u=_ from h1];rfl)).2,fun i hi=>?_⟩⟩;have o2:w.ownsRow m t 1 (.slice (some ⟨g,0,none⟩) vs.length cap) vs.length vs:=by rw[<-show u=_ from h1];exact o'
  rw[World.ownsRow.cellAt o2 i (by omega),List.getD_eq_getElem?_getD,List.getElem?_eq_getElem hi];rfl
end
theorem BK {α:Type}(l:List α)(k:Nat)(x z:α)(hk:k<l.length)(j:Nat):(l.set k x).getD j z=if j=k then x else l.getD j z:=by
 rw[List.getD_eq_getElem?_getD,List.getD_eq_getElem?_getD,List.getElem?_set];by_cases e:k=j
 . subst e;simp[hk]
 . rw[if_neg e,if_neg (fun h=>e h.symm)]
end
theorem Tryz.Qm:(Tryz.prog.info? 28).map (fun i=>(i.zero,i.size,i.bytes))=some (some (.slice none 0 0),1,24):=by kernel_rfl
theorem DR {w:World}{m m':Nat}{e:TypeId}{n:Nat}{v:Value}{k:Nat}{xs:List Value}(o:w.ownsRow m e n v k xs)(hm:m'<=m):w.ownsRow m' e n v k xs:=by
 refine⟨o.1,?_⟩;rcases o.2 with q|⟨g,cap,cur,e,hg,r⟩
 . exact .inl q
 . exact .inr ⟨g,cap,cur,e,Nat.le_trans hm hg,r⟩
theorem BO.lit {w:World}{base:Nat}{v:Value}{zs:List Int}(h:BO w base v zs){k:Nat}(hk:k<zs.length):∃g cap,v = .slice (some ⟨g,0,none⟩) zs.length cap/\g<w.heap.size/\(∀i,i<zs.length->w.cell? ⟨g,i,none⟩=some (.int .i64 (zs.getD i 0)))/\∀i,w.frozen? ⟨g,i,none⟩=false:=by
 have h':=h;have hlt:=World.ownsRow.lt h;rcases h.2 with ⟨_,hn⟩|⟨g,cap,cur,rfl,_⟩
 . omega
 ·
  refine⟨g,cap,rfl,(hlt g rfl).2,fun i hi=>?_,fun i=>World.ownsRow.frozenAt h' i⟩;rw[World.ownsRow.cellAt h' i (by simpa using hi),List.getElem?_map,List.getElem?_eq_getElem hi,List.getD_eq_getElem?_getD,List.getElem?_eq_getElem hi];rfl
def D0 (v:Value)(n:Nat)(a:Addr):Prop:=∃b o l c i,v = .slice (some ⟨b,o,none⟩) l c/\i<n/\a=⟨b,o+i,none⟩
def Wb (w:World)(a:Addr):Prop:=∃cur t,w.heap[a.block]? = some (.cells cur t (0,0))/\a.off<cur.size
structure JK (S:Addr->Prop)(w w':World):Prop where
 os:w'.os=w.os
 tape:w'.tape=w.tape
 output:w'.output=w.output
 size:w.heap.size<=w'.heap.size
 cell:∀a,a.block<w.heap.size->¬S a->w'.cell? a=w.cell? a
 shape:∀(b:Nat) (cur:Array Value) (t:TypeId),w.heap[b]? = some (Obj.cells cur t (0,0))->∃cur':Array Value,w'.heap[b]? = some (Obj.cells cur' t (0,0))/\cur'.size=cur.size
 block:∀b,b<w.heap.size->(∀a,S a->a.block≠b)->w'.heap[b]? = w.heap[b]?
def Yi (w:World)(v:Value)(n:Nat)(k:Int):Prop:=∀b o l c i,v = .slice (some ⟨b,o,none⟩) l c->i<n->w.cell? ⟨b,o+i,none⟩=some (.int .i64 (k+i))
theorem Wb.lt {w:World}{a:Addr}(h:Wb w a):a.block<w.heap.size:=by
 obtain⟨cur,t,h,_⟩:=h;exact (Array.getElem?_eq_some_iff.1 h).1
theorem Wb.free {w:World}{b o:Nat}(h:Wb w ⟨b,o,none⟩):w.frozen? ⟨b,o,none⟩=false:=by
 obtain⟨cur,t,h,_⟩:=h;exact frozen_of_row w b o cur t h
theorem Wb.cell {w:World}{b o:Nat}(h:Wb w ⟨b,o,none⟩):∃u,w.cell? ⟨b,o,none⟩=some u:=by
 obtain⟨cur,t,h,hn⟩:=h;exact⟨cur[o],by rw[cell_of_row w b o cur t (0,0) h,Array.getElem?_eq_getElem hn]⟩
theorem Wb.kept {S:Addr->Prop}{w w':World}{a:Addr}(h:Wb w a)(k:JK S w w'):Wb w' a:=by
 obtain⟨cur,t,h,hn⟩:=h;obtain⟨cur',h',e⟩:=k.shape _ _ _ h;exact⟨cur',t,h',by rw[e];exact hn⟩
theorem Wb.keep {w w':World}{a:Addr}(h:Wb w a)(k:AC w w'):Wb w' a:=by
 have hl:=h.lt;obtain⟨cur,t,h,hn⟩:=h;exact⟨cur,t,(Below.block k _ hl).trans h,hn⟩
theorem JK.refl (S:Addr->Prop)(w:World):JK S w w:=⟨rfl,rfl,rfl,Nat.le_refl _,fun _ _ _=>rfl,fun _ cur _ h=>⟨cur,h,rfl⟩,fun _ _ _=>rfl⟩
theorem JK.trans {S:Addr->Prop}{a b c:World}(h:JK S a b)(k:JK S b c):JK S a c:=
  ⟨k.os.trans h.os,k.tape.trans h.tape,k.output.trans h.output,Nat.le_trans h.size k.size,
   fun x hx hn=>(k.cell x (Nat.lt_of_lt_of_le hx h.size) hn).trans (h.cell x hx hn),
   fun q cur t hq=>by
    obtain⟨c1,h1,e1⟩:=h.shape q cur t hq;obtain⟨c2,h2,e2⟩:=k.shape q c1 t h1
    exact⟨c2,h2,e2.trans e1⟩,
   fun q hq hn=>(k.block q (Nat.lt_of_lt_of_le hq h.size) hn).trans (h.block q hq hn)⟩
theorem JK.more {S T:Addr->Prop}{w w':World}(h:JK S w w')(hs:∀a,S a->T a):JK T w w':=
 ⟨h.os,h.tape,h.output,h.size,fun a ha hn=>h.cell a ha (fun hS=>hn (hs a hS)),h.shape,fun b hb hn=>h.block b hb (fun a ha=>hn a (hs a ha))⟩
theorem AC.wrt {w w':World}(k:AC w w')(S:Addr->Prop):JK S w w':=
 ⟨Below.os k,Below.tape k,Below.output k,Below.size k,fun a ha _=>World.cell?_of_block (Below.block k a.block ha),fun b cur _ h=>⟨cur,(Below.block k b (Array.getElem?_eq_some_iff.1 h).1).trans h,rfl⟩,fun b hb _=>Below.block k b hb⟩
theorem JK.set {S:Addr->Prop}{a w:World}(h:JK S a w){b o:Nat}(x:Value)(hb:Wb w ⟨b,o,none⟩)(hS:S ⟨b,o,none⟩):JK S a (w.setCell ⟨b,o,none⟩ x):=by
 refine h.trans ⟨rfl,rfl,rfl,by simp,fun q _ hn=>World.cell?_setCell_other _ _ _ _ (fun e=>hn (e ▸ hS)),fun q cur t hq=>?_,fun q _ hn=>heap_setCell_other w ⟨b,o,none⟩ q x (fun e=>hn _ hS e.symm)⟩;by_cases e:q=b
 ·
  subst e;exact⟨cur.setIfInBounds o x,heap_setCell_same w q o cur t x hq,by simp⟩
 . exact⟨cur,(heap_setCell_other w ⟨b,o,none⟩ q x e).trans hq,rfl⟩
theorem fC {w:World}{b o:Nat}(x:Value)(h:Wb w ⟨b,o,none⟩):(w.setCell ⟨b,o,none⟩ x).cell? ⟨b,o,none⟩=some x:=by
 obtain⟨u,hu⟩:=h.cell;exact World.cell?_setCell_same _ _ _ hu
theorem YX {w:World}{b o q:Nat}(x:Value)(h:q≠o):(w.setCell ⟨b,o,none⟩ x).cell? ⟨b,q,none⟩=w.cell? ⟨b,q,none⟩:=
 World.cell?_setCell_other _ _ _ _ (by intro e;injection e with _ e2;first|exact h e2|exact h e2.symm)
theorem Wb.set {w:World}{a:Addr}{b o:Nat}(x:Value)(h:Wb w a):Wb (w.setCell ⟨b,o,none⟩ x) a:=by
 obtain⟨cur,t,h,hn⟩:=h;by_cases e:a.block=b
 ·
  refine⟨cur.setIfInBounds o x,t,?_,by simpa using hn⟩;rw[e] at h ⊢;exact heap_setCell_same w b o cur t x h
 . exact⟨cur,t,(heap_setCell_other w ⟨b,o,none⟩ a.block x e).trans h,hn⟩
theorem Yi.kept {S:Addr->Prop}{w w':World}{v:Value}{n:Nat}{k:Int}(h:Yi w v n k)(g:JK S w w')(hd:∀a,D0 v n a->¬S a)(hw:∀a,D0 v n a->a.block<w.heap.size):Yi w' v n k:=
 fun b o l c i e hi=>(g.cell _ (hw _ ⟨b,o,l,c,i,e,hi,rfl⟩) (hd _ ⟨b,o,l,c,i,e,hi,rfl⟩)).trans (h b o l c i e hi)
theorem Yi.keep {w w':World}{v:Value}{n:Nat}{k:Int}(h:Yi w v n k)(g:AC w w')(hw:∀a,D0 v n a->a.block<w.heap.size):Yi w' v n k:=
 fun b o l c i e hi=>(g.cell (hw _ ⟨b,o,l,c,i,e,hi,rfl⟩)).trans (h b o l c i e hi)
def CV (rs:List (Value×Nat))(a:Addr):Prop:=∃r∈rs,D0 r.1 r.2 a
def DW:List (Value×Nat)->Nat
 | []=>0
 |r::rs=>r.2+DW rs
def Ss (w:World)(k:Int):List (Value×Nat)->Prop
 | []=>True
 |r::rs=>Yi w r.1 r.2 k/\Ss w (k+r.2) rs
structure E5 (w:World)(rs:List (Value×Nat)):Prop where
 wb:∀a,CV rs a->Wb w a
 ap:rs.Pairwise (fun r s=>∀a,D0 r.1 r.2 a->¬D0 s.1 s.2 a)
theorem Tj (a b:List (Value×Nat)):DW (a++b)=DW a+DW b:=by
 induction a with
 |nil=>simp[DW]
 |cons r rs ih=>simp[DW,ih];omega
theorem Nu (w:World)(a b:List (Value×Nat)):∀k:Int,Ss w k (a++b)↔Ss w k a/\Ss w (k+DW a) b:=by
 induction a with
 |nil=>intro k;simp[Ss,DW]
 |cons r rs ih=>
  intro k;simp only[List.cons_append,Ss,DW];rw[ih,and_assoc];have e:k+(r.2:Int)+(DW rs:Int)=k+((r.2+DW rs:Nat):Int):=by rw[Int.natCast_add];omega
  rw[e]
theorem Nv {S:Addr->Prop}{w w':World}(g:JK S w w'):∀(rs:List (Value×Nat)) (k:Int),Ss w k rs->(∀a,CV rs a->¬S a)->(∀a,CV rs a->a.block<w.heap.size)->Ss w' k rs
 | [],_,_,_,_=>trivial
 |r::rs,k,h,hd,hw=>⟨h.1.kept g (fun a ha=>hd a ⟨r,List.mem_cons_self,ha⟩) (fun a ha=>hw a ⟨r,List.mem_cons_self,ha⟩),
   Nv g rs (k+r.2) h.2 (fun a ⟨s,hs,ha⟩=>hd a ⟨s,List.mem_cons_of_mem _ hs,ha⟩) (fun a ⟨s,hs,ha⟩=>hw a ⟨s,List.mem_cons_of_mem _ hs,ha⟩)⟩
theorem E5.kept {S:Addr->Prop}{w w':World}{rs:List (Value×Nat)}(h:E5 w rs)(g:JK S w w'):E5 w' rs:=⟨fun a ha=>(h.wb a ha).kept g,h.ap⟩
theorem E5.keep {w w':World}{rs:List (Value×Nat)}(h:E5 w rs)(g:AC w w'):E5 w' rs:=⟨fun a ha=>(h.wb a ha).keep g,h.ap⟩
theorem E5.sub {w:World}{rs ts:List (Value×Nat)}(h:E5 w rs)(hs:ts.Sublist rs):E5 w ts:=
 ⟨fun a ⟨r,hr,ha⟩=>h.wb a ⟨r,hs.subset hr,ha⟩,h.ap.sublist hs⟩
theorem Eo {a b:List (Value×Nat)}{x:Addr}:CV (a++b) x↔CV a x\/CV b x:=by
 unfold CV;constructor
 ·
  rintro⟨r,hr,h⟩;rcases List.mem_append.1 hr with h1|h1
  . exact .inl ⟨r,h1,h⟩
  . exact .inr ⟨r,h1,h⟩
 ·
  rintro (⟨r,hr,h⟩|⟨r,hr,h⟩)
  . exact⟨r,List.mem_append.2 (.inl hr),h⟩
  . exact⟨r,List.mem_append.2 (.inr hr),h⟩
theorem E5.apart {w:World}{a b:List (Value×Nat)}(h:E5 w (a++b)):∀x,CV a x->¬CV b x:=by
 rintro x ⟨r,hr,h1⟩ ⟨s,hs,h2⟩;exact (List.pairwise_append.1 h.ap).2.2 r hr s hs x h1 h2
theorem jq {w0 w1 w2:World}{a b:List (Value×Nat)}{k:Int}(h:E5 w0 (a++b))(g1:JK (CV a) w0 w1)(m1:Ss w1 k a)(g2:JK (CV b) w1 w2)(m2:Ss w2 (k+DW a) b):
  JK (CV (a++b)) w0 w2/\Ss w2 k (a++b):=by
 refine⟨(g1.more (fun x hx=>Eo.2 (.inl hx))).trans (g2.more (fun x hx=>Eo.2 (.inr hx))),(Nu w2 a b k).2 ⟨?_,m2⟩⟩;exact Nv g2 a k m1 (fun x hx=>h.apart x hx) (fun x hx=>((h.wb x (Eo.2 (.inl hx))).kept g1).lt)
section
section
variable {α:Type} (t:TypeId) (rowOf:List α->Value->Rw)
def LI (v:Value)(hs:List Value)(xss:List (List α)):Option Nat->Rw
 |none=>Dp t hs v
 |some i=>rowOf (xss.getD i []) (hs.getD i AE)
def ED (j:Nat):Option Nat->Prop
 |none=>True
 |some i=>i<j
structure gU (w:World)(m:Nat)(v:Value)(hs:List Value)(xss:List (List α))(j:Nat):Prop where
 Ag:Fl w m (ED j) (LI t rowOf v hs xss)
 len:hs.length=xss.length
 hv:∀xs u,(rowOf xs u).v=u
variable {t rowOf} {w w2:World} {m:Nat} {v u:Value} {hs:List Value} {xss:List (List α)} {j:Nat}
theorem gU.keep (h:gU t rowOf w m v hs xss j)(k:AC w w2):gU t rowOf w2 m v hs xss j:=⟨h.Ag.keep k,h.len,h.hv⟩
theorem gU.step (h:gU t rowOf w m v hs xss j)(hj:j<xss.length)(k:AC w w2)(ho:(rowOf (xss.getD j []) u).own w2 m)(hn:∀b,u.ownBlock=some b->w.heap.size<=b){g cap:Nat}(hv:v = .slice (some ⟨g,0,none⟩) hs.length cap):
  gU t rowOf (w2.setCell ⟨g,j,none⟩ u) m v (hs.set j u) xss (j+1)/\w2.cell? ⟨g,j,none⟩=some (hs.getD j AE)/\w2.frozen? ⟨g,j,none⟩=false/\w2.grownBy (w2.setCell ⟨g,j,none⟩ u) (some g)/\m<=g:=by
 have hjl:j<hs.length:=by rw[h.len];exact hj
 have F1:=h.Ag.add (i:=some j) (fun q=>Nat.lt_irrefl _ (show j<j from q)) (r:=rowOf (xss.getD j []) u) rfl k ho (fun b hb=>hn b (by rw[h.hv] at hb;exact hb));have o1:(Dp t hs v).own w2 m:=by have:=F1.own none (.inl trivial);rw[AR _ _ (by simp)] at this;exact this
 obtain⟨q1,q2,q3⟩:=Rw.put o1 (g:=g) (cap:=cap) (k:=j) hv u;have F2:=F1.set (i:=none) (.inl trivial) (r:={ Dp t hs v with xs:=hs.set j u }) (by rw[AR _ _ (by simp)];exact q2) (.inl (by rw[AR _ _ (by simp)];rfl)) q1;have hb:v.ownBlock=some g:=by rw[hv];rfl
 refine⟨⟨F2.congr (fun o ho'=>?_) (fun o ho'=>?_),by rw[List.length_set];exact h.len,h.hv⟩,?_,q3,by rw[<-hb];exact q2,(h.Ag.lt (i:=none) trivial g hb).1⟩
 ·
  cases o with
  |none=>exact .inl trivial
  |some i=>
   have hi:i<j+1:=ho';by_cases e:i=j
   . exact .inr (by rw[e])
   . exact .inl (show i<j by omega)
 ·
  cases o with
  |none=>
   rw[Am];show Dp t (hs.set j u) v=_;simp[Dp]
  |some i=>
   rw[AR _ _ (by simp)];show rowOf (xss.getD i []) ((hs.set j u).getD i AE)=_;rw[BK _ _ _ _ hjl];by_cases e:i=j
   . subst e;rw[if_pos rfl,Am]
   . rw[if_neg e,AR _ _ (by simpa using e)];rfl
 ·
  have:=Rw.cell o1 (g:=g) (cap:=cap) (k:=j) hv (by show j<hs.length*1;omega);rw[this,List.getD_eq_getElem?_getD];show hs[j]? = _;rw[List.getElem?_eq_getElem hjl];rfl
structure C4 (t:TypeId)(rowOf:List α->Value->Rw)(w:World)(m:Nat)(v:Value)(hs:List Value)(xss:List (List α)):Prop where
 Ag:Fl w m (ED hs.length) (LI t rowOf v hs xss)
 len:hs.length=xss.length
theorem gU.all (h:gU t rowOf w m v hs xss xss.length):C4 t rowOf w m v hs xss:=⟨by rw[h.len];exact h.Ag,h.len⟩
theorem gU.new (ho:(Dp t (List.replicate xss.length AE) v).own w m)(hv:∀xs u,(rowOf xs u).v=u):gU t rowOf w m v (List.replicate xss.length AE) xss 0:=by
 refine⟨⟨fun o h=>?_,fun o o' h h' hne=>?_⟩,by simp,hv⟩
 ·
  cases o with
  |none=>exact ho
  |some i=>exact absurd (show i<0 from h) (by omega)
 ·
  cases o with
  |none=>
   cases o' with
   |none=>exact absurd rfl hne
   |some i=>exact absurd (show i<0 from h') (by omega)
  |some i=>exact absurd (show i<0 from h) (by omega)
end
theorem C4.xA {w:World}{m:Nat}{v:Value}{hs:List Value}{xss:List (List Int)}(h:C4 28 Bk w m v hs xss):UD w v xss:=by
 have oi:∀i,i<xss.length->(Bk (xss.getD i []) (hs.getD i AE)).own w m:=fun i hi=>h.Ag.own (some i) (show i<hs.length by rw[h.len];exact hi)
 obtain⟨a,c,e,H⟩:=Br (h.Ag.own none trivial);refine⟨a,c,by rw[<-h.len];exact e,?_⟩;rcases H with H|⟨g,rfl,hg,hc⟩
 . exact .inl (List.eq_nil_of_length_eq_zero (by rw[<-h.len,H];rfl))
 . exact .inr ⟨g,0,rfl,hg,fun i hi=>⟨_,by rw[Nat.zero_add];exact hc i (by rw[h.len];exact hi),BO.rd (oi i hi)⟩⟩
end
def Ng (l:List Int)(lo hi:Int):Bool:=l.all (fun x=>Cx x lo hi)
def FO (l:List Int)(n lo hi:Int):Bool:=decide ((l.length:Int)=n)&&Ng l lo hi
def JF (last:Int)(l:List Int):Bool:=decide (l.length<=20)&&FO l l.length 0 last
def V9 (last:Int)(x:Nt):Bool:=Cx x.1 0 2&&(Cx x.2.1 0 9&&Cx x.2.2 0 last)
def PE (last:Int)(l:List Nt):Bool:=decide (l.length<=8)&&l.all (V9 last)
def Ee (last:Int)(b:Bd):Bool:=FO b.AM 3 0 9&&(FO b.AQ 3 0 last&&(decide (b.rws.length=3)&&b.rws.all (JF last)))
def XI (last:Int)(AA:List (List Dd))(b:Bd)(i:Nat):Bool:=Cx (b.AK.getD i 0) 0 ((AA.getD i []).length:Int)&&PE last (b.AG.getD i [])
def Ht (last:Int)(AA:List (List Dd))(b:Bd):Bool:=decide (b.AG.length=AA.length)&&(decide (b.AK.length=AA.length)&&(List.range AA.length).all (XI last AA b))
def Fo (AA:List (List Dd))(b:Bd):Bool:=
 AO AA&&(Ee (((AB AA).length:Int)-1) b&&(Ht (((AB AA).length:Int)-1) AA b&&(FO b.sn (AV Ad (AB AA)).length (-1) 9&&FO b.fr (AV Ad (AB AA)).length (-1) (((AB AA).length:Int)-1))))
theorem KV (x lo hi:Int):(decide (lo<=x)&&decide (x<=hi))=Cx x lo hi:=by
 rw[Bool.eq_iff_iff];unfold Cx;simp
theorem VO (l:List Int)(lo hi:Int)(m:Nat):G4 l lo hi m=(Ng l lo hi&&decide (l.length<=m)):=by
 unfold G4 Ng
 congr 2
 funext x;exact KV x lo hi
theorem qa (n:Int)(x:Nt):qZ n x=V9 (n-1) x:=by
 unfold qZ V9;rw[KV,KV,KV]
theorem pX (AA:List (List Dd))(n:Int)(b:Bd)(i:Nat):UP AA n b i=XI (n-1) AA b i:=by
 unfold UP XI PE YB;rw[KV]
 congr 3
 funext x;exact qa n x
theorem kY (last:Int)(l:List Int):JF last l=G4 l 0 last 20:=by
 rw[VO];unfold JF FO;simp[Bool.and_comm]
theorem OQ (last:Int)(b:Bd)(h:b.rws.length=3):b.rws.all (JF last)=IM (last+1) b:=by
 obtain⟨x,y,z,e⟩:∃x y z,b.rws=[x,y,z]:=by
  match hr:b.rws,h with
  | [x,y,z],_=>exact⟨x,y,z,rfl⟩
 unfold IM;rw[e];have e1:last+1-1=last:=by omega
 rw[e1];simp[List.range,List.range.loop,kY]
theorem R8 (AA:List (List Dd))(b:Bd)(hl:(AV Ad (AB AA)).length<=12):Fo AA b=Ac AA b:=by
 generalize hr:(AV Ad (AB AA)).length=r at hl;generalize hn:((AB AA).length:Int)=n;rw[Bool.eq_iff_iff];unfold Fo Ac Gs MD Ee Ht FO;rw[hr,hn];have ec:(fun i=>UP AA n b i)=XI (n-1) AA b:=by funext i;exact pX AA n b i
 rw[ec];simp only[VO,Bool.and_eq_true,decide_eq_true_eq];have e1:n-1+1=n:=by omega
 constructor
 ·
  rintro⟨h1,⟨⟨p1,p2⟩,⟨l1,l2⟩,r1,r2⟩,⟨c1,c2,c3⟩,⟨s1,s2⟩,f1,f2⟩;rw[OQ _ _ r1,e1] at r2;exact⟨⟨h1,by omega,by omega,r1,c1,c2⟩,⟨by omega,by omega,⟨p2,by omega⟩,⟨l2,by omega⟩,⟨s2,by omega⟩,f2,by omega⟩,r2,c3⟩
 ·
  rintro⟨⟨h1,p1,l1,r1,c1,c2⟩,⟨s1,f1,⟨p2,_⟩,⟨l2,_⟩,⟨s2,_⟩,f2,_⟩,r2,c3⟩;refine⟨h1,⟨⟨by omega,p2⟩,⟨by omega,l2⟩,r1,?_⟩,⟨c1,c2,c3⟩,⟨by omega,s2⟩,by omega,f2⟩;rw[OQ _ _ r1,e1];exact r2
theorem Sd {l:List Int}{lo hi:Int}{k:Nat}(hk:k<l.length)(h:Cx (l.getD k 0) lo hi=false):Ng l lo hi=false:=by
 unfold Ng;rw[List.all_eq_false];refine⟨l.getD k 0,?_,by rw[h];simp⟩;rw[List.getD_eq_getElem?_getD,List.getElem?_eq_getElem hk];exact List.getElem_mem hk
theorem Fm {α:Type}{l:List α}{f:α->Bool}(z:α)(h:∀k,k<l.length->f (l.getD k z)=true):l.all f=true:=by
 rw[List.all_eq_true];intro x hx;obtain⟨i,hi,e⟩:=List.getElem_of_mem hx;have:=h i hi;rw[List.getD_eq_getElem?_getD,List.getElem?_eq_getElem hi] at this;simp only[Option.getD_some] at this;rw[e] at this;exact this
theorem Hp {α:Type}{l:List α}{f:α->Bool}(z:α){k:Nat}(hk:k<l.length)(h:f (l.getD k z)=false):l.all f=false:=by
 rw[List.all_eq_false];refine⟨l.getD k z,?_,by rw[h];simp⟩;rw[List.getD_eq_getElem?_getD,List.getElem?_eq_getElem hk];exact List.getElem_mem hk
def Qg (d:Dd):Int:=d.2.2.2
def gK (ds:List Dd):Nat->Int
 | 0=>0
 |k+1=>if Qg (ds.getD k zD)=0 then gK ds k else Fp (gK ds k) (Qg (ds.getD k zD))
def gC (ds:List Dd):Int:=gK ds ds.length
def IJ (ds:List Dd)(k:Nat):Bool:=decide (0<k)&&(Qg (ds.getD k zD) != Qg (ds.getD (k-1) zD))&&BW (gK ds k) (Qg (ds.getD k zD))
def FV (ds:List Dd):Nat->Bool
 | 0=>true
 |k+1=>FV ds k&&!IJ ds k
def GN (AA:List (List Dd)):Nat->Int
 | 0=>0
 |i+1=>bits .or .i64 (GN AA i) (gC (AA.getD i []))
def Cl (ds:List Dd)(t:Int):Bool:=decide (ds.length<=5)&&ds.all FW&&FV ds ds.length&&(bits .and .i64 (gC ds) t==0)
def B5 (AA:List (List Dd)):Nat->Bool
 | 0=>true
 |i+1=>B5 AA i&&Cl (AA.getD i []) (GN AA i)
theorem QE {α:Type}(l:List α)(i k:Nat)(z:α)(h:k<i):(l.take i).getD k z=l.getD k z:=by
 rw[List.getD_eq_getElem?_getD,List.getElem?_take,if_pos h,List.getD_eq_getElem?_getD]
theorem Vl (ds:List Dd)(i:Nat):∀k:Nat,k<=i->gK (ds.take i) k=gK ds k
 | 0,_=>rfl
 |k+1,h=>by rw[gK,gK,Vl ds i k (by omega),QE ds i k zD (by omega)]
theorem jZ (ds:List Dd)(i:Nat)(h:i<=ds.length):gC (ds.take i)=gK ds i:=by
 rw[gC,List.length_take,Nat.min_eq_left h,Vl ds i i (Nat.le_refl _)]
theorem Og {ds:List Dd}{k:Nat}(h:FV ds k=false):∀n:Nat,k<=n->FV ds n=false
 | 0,hn=>by
  obtain rfl:k=0:=by omega
  exact h
 |n+1,hn=>by
  by_cases e:k=n+1
  . rw[<-e];exact h
  . rw[FV,Og h n (by omega)];rfl
theorem Fv {AA:List (List Dd)}{k:Nat}(h:B5 AA k=false):∀n:Nat,k<=n->B5 AA n=false
 | 0,hn=>by
  obtain rfl:k=0:=by omega
  exact h
 |n+1,hn=>by
  by_cases e:k=n+1
  . rw[<-e];exact h
  . rw[B5,Fv h n (by omega)];rfl
def zH (a b:Nat):Prop:=∀k,a.testBit k=true->b.testBit k=false
theorem Vd (a b:Nat):zH a b↔a &&& b=0:=by
 constructor
 ·
  intro h;apply Nat.eq_of_testBit_eq;intro k;rw[Nat.testBit_and,Nat.zero_testBit];cases ha:a.testBit k
  . rfl
  . rw[h k ha];rfl
 ·
  intro h k ha;have h1:(a &&& b).testBit k=false:=by rw[h,Nat.zero_testBit]
  rw[Nat.testBit_and,ha] at h1
  simpa using h1
theorem N3 (a g k:Nat):(a ||| 2 ^ g).testBit k=(a.testBit k||decide (g=k)):=by
 rw[Nat.testBit_or,Nat.testBit_two_pow]
theorem fE (o:List Int)(g:Nat)(x:Int)(j:Nat)(hg:g<o.length):(o.set g x).getD j 0=if g=j then x else o.getD j 0:=by
 rw[List.getD_eq_getElem?_getD,List.getElem?_set];by_cases e:g=j
 . subst e;rw[if_pos rfl,if_pos hg,if_pos rfl];rfl
 . rw[if_neg e,if_neg e,List.getD_eq_getElem?_getD]
theorem kJ {d:Dd}(h:FW d=true):0<=Qg d/\Qg d<=9:=by
 simp[FW,D2] at h;unfold Qg;omega
theorem GS {i:Nat}{own:List Int}{T:Nat}{ds:List Dd}(hl:own.length=10)(hT:∀g,g<10->(own.getD g 0≠0↔T.testBit g=true))(hi:∀g,g<10->own.getD g 0≠(i:Int)+1)(hT0:T.testBit 0=false):
  ∀k:Nat,(∀j,j<k->FW (ds.getD j zD)=true)->∃G:Nat,G<4096/\gK ds k=(G:Int)/\G.testBit 0=false/\(k=0->G=0) /\
   (Cn i own ds k=none->FV ds k=false\/¬zH G T) /\
   ∀o,Cn i own ds k=some o->FV ds k=true/\zH G T/\o.length=10/\∀g,g<10->o.getD g 0=if G.testBit g=true then (i:Int)+1 else own.getD g 0
 | 0,_=>⟨0,by omega,rfl,by simp,fun _=>rfl,by simp[Cn],by
   intro o ho;simp only[Cn,Option.some.injEq] at ho;subst ho
   exact⟨rfl,fun k hk=>by simp at hk,hl,by simp⟩⟩
 |k+1,hok=>by
  obtain⟨G,hG,mr,hG0,hz,hN,hS⟩:=GS hl hT hi hT0 k (fun j hj=>hok j (by omega));obtain⟨h0,h9⟩:=kJ (hok k (by omega));obtain⟨g,hg⟩:=Int.eq_ofNat_of_zero_le h0;have hgg:(ds.getD k zD).2.2.2=(g:Int):=hg;by_cases hg0:g=0
  ·
   subst hg0;have hz0:(ds.getD k zD).2.2.2=0:=hgg;have e1:gK ds (k+1)=(G:Int):=by rw[gK,hg,if_pos (by simp),mr]
   have e2:IJ ds k=false:=by
    have:BW (gK ds k) (Qg (ds.getD k zD))=false:=by rw[mr,hg,Bq G 0 hG (by omega),hG0]
    rw[IJ,this,Bool.and_false]
   have e3:FV ds (k+1)=FV ds k:=by rw[FV,e2];simp
   have e4:Cn i own ds (k+1)=Cn i own ds k:=by
    rw[Cn]
    cases hq:Cn i own ds k with
    |none=>rfl
    |some o=>simp only;rw[if_pos hz0]
   refine⟨G,hG,e1,hG0,by omega,?_,?_⟩
   . rw[e3,e4];exact hN
   . rw[e3,e4];exact hS
  ·
   have vY:(ds.getD k zD).2.2.2≠0:=by rw[hgg];omega
   have g9:g<=9:=by rw[hg] at h9;omega
   have e1:gK ds (k+1)=((G ||| 2 ^ g:Nat):Int):=by
    rw[gK,hg,if_neg (by omega),mr,SV G g hG (by omega)]
   have e0:(G ||| 2 ^ g).testBit 0=false:=by rw[N3,hG0];simp[hg0]
   have inS:BW (gK ds k) (Qg (ds.getD k zD))=G.testBit g:=by rw[mr,hg,Bq G g hG (by omega)]
   refine⟨G ||| 2 ^ g,nO G g hG (by omega),e1,e0,by omega,?_,?_⟩
   ·
    intro hn;rw[Cn] at hn
    cases hq:Cn i own ds k with
    |none=>
     rcases hN hq with h|h
     . left;rw[FV,h];rfl
     ·
      right;intro hd;refine h (fun b hb=>hd b ?_);rw[N3,hb];rfl
    |some o=>
     rw[hq] at hn;simp only at hn;rw[if_neg vY,hgg,Int.toNat_natCast] at hn;obtain⟨ht,hd,hlen,ho⟩:=hS o hq;split at hn
     ·
      rename_i hc
      cases jf:T.testBit g with
      |true=>
       right;intro hd2;have:=hd2 g (by rw[N3];simp);rw[jf] at this;cases this
      |false=>
       left
       have hown:own.getD g 0=0:=by
        apply Classical.byContradiction;intro hne;rw[(hT g (by omega)).1 hne] at jf;cases jf
       cases Yk:G.testBit g with
       |false=>
        exfalso;have:=ho g (by omega);rw[Yk,hown] at this;exact hc.1 (by simpa using this)
       |true=>
        have hk0:k≠0:=by
         intro hk;rw[hz hk] at Yk;simp at Yk
        have hog:=ho g (by omega);rw[Yk,if_pos rfl] at hog
        have hp:(ds.getD (k-1) zD).2.2.2≠(g:Int):=by
         rcases hc.2 with h|h|h
         . exact absurd hog h
         . exact absurd h hk0
         . exact h
        have:IJ ds k=true:=by
         rw[IJ,inS,Yk,hg]
         have hp':((g:Int) != Qg (ds.getD (k-1) zD))=true:=by
          rw[bne_iff_ne];exact fun e=>hp e.symm
         rw[hp'];simp;omega
        rw[FV,this];simp
     . cases hn
   ·
    intro o' hn;rw[Cn] at hn
    cases hq:Cn i own ds k with
    |none=>rw[hq] at hn;cases hn
    |some o=>
     rw[hq] at hn;simp only at hn;rw[if_neg vY,hgg,Int.toNat_natCast] at hn;obtain⟨ht,hd,hlen,ho⟩:=hS o hq;split at hn
     . cases hn
     ·
      rename_i hc;simp only[Option.some.injEq] at hn;subst hn;have hog:=ho g (by omega)
      have jf:T.testBit g=false:=by
       cases jf:T.testBit g with
       |false=>rfl
       |true=>
        exfalso
        have Yk:G.testBit g=false:=by
         cases Yk:G.testBit g with
         |false=>rfl
         |true=>rw[hd g Yk] at jf;cases jf
        rw[Yk] at hog;simp only[Bool.false_eq_true,if_false] at hog;exact hc ⟨by rw[hog];exact (hT g (by omega)).2 jf,.inl (by rw[hog];exact hi g (by omega))⟩
      refine⟨?_,?_,by rw[List.length_set];exact hlen,?_⟩
      ·
       have:IJ ds k=false:=by
        cases hp:IJ ds k with
        |false=>rfl
        |true=>
         exfalso;rw[IJ,inS,hg,Bool.and_eq_true,Bool.and_eq_true,decide_eq_true_eq,bne_iff_ne] at hp;obtain⟨⟨hk,hne⟩,Yk⟩:=hp;rw[Yk,if_pos rfl] at hog;exact hc ⟨by rw[hog];omega,.inr (.inr (fun e=>hne e.symm))⟩
       rw[FV,ht,this];rfl
      ·
       intro b hb;rw[N3,Bool.or_eq_true,decide_eq_true_eq] at hb;rcases hb with hb|rfl
       . exact hd b hb
       . exact jf
      ·
       intro j hj;rw[fE o g _ j (by omega),N3];by_cases e:g=j
       . subst e;simp
       . rw[if_neg e,ho j hj];simp[e]
theorem QN {AA:List (List Dd)}:∀n:Nat,(∀i,i<n->Fu (AA.getD i [])=true)->∃T:Nat,T<4096/\GN AA n=(T:Int)/\T.testBit 0=false /\
   (Ec AA n=none->B5 AA n=false) /\
   ∀o,Ec AA n=some o->B5 AA n=true/\o.length=10/\(∀g,g<10->(o.getD g 0≠0↔T.testBit g=true))/\∀g,g<10->0<=o.getD g 0/\o.getD g 0<=(n:Int)
 | 0,_=>⟨0,by omega,rfl,by simp,by simp[Ec],by
   intro o ho;simp only[Ec,Option.some.injEq] at ho;subst ho;refine⟨rfl,by simp,fun g hg=>?_,fun g hg=>?_⟩
   . rw[List.getD_eq_getElem?_getD,List.getElem?_replicate,if_pos hg];simp
   . rw[List.getD_eq_getElem?_getD,List.getElem?_replicate,if_pos hg];simp⟩
 |n+1,hok=>by
  obtain⟨T,hT,htk,hT0,hN,hS⟩:=QN n (fun i hi=>hok i (by omega));have okn:=hok n (by omega);simp only[Fu,Bool.and_eq_true,decide_eq_true_eq] at okn;have hall:=okn.1;have hok2:∀j,j<(AA.getD n []).length->FW ((AA.getD n []).getD j zD)=true:=fun j hj=>Bo zD hall j hj
  obtain⟨G0,hG0,jh,hG00,-⟩:=GS (i:=0) (own:=List.replicate 10 0) (T:=0) (ds:=AA.getD n []) (by simp) (fun g hg=>by rw[List.getD_eq_getElem?_getD,List.getElem?_replicate,if_pos hg];simp) (fun g hg=>by rw[List.getD_eq_getElem?_getD,List.getElem?_replicate,if_pos hg];simp) (by simp) (AA.getD n []).length hok2
  have hor:GN AA (n+1)=((T ||| G0:Nat):Int):=by
   rw[GN,htk,gC,jh,Jc T G0 (by omega) (by omega)]
  have hand:bits .and .i64 (gC (AA.getD n [])) (GN AA n)=((G0 &&& T:Nat):Int):=by
   rw[gC,jh,htk,MH G0 T (by omega) (by omega)]
  have hR:Cl (AA.getD n []) (GN AA n)=(FV (AA.getD n []) (AA.getD n []).length&&decide (G0 &&& T=0)):=by
   rw[Cl,hall,decide_eq_true okn.2,hand];simp only[Bool.true_and]
   congr 1
   rw[Bool.eq_iff_iff,beq_iff_eq,decide_eq_true_eq];omega
  refine⟨T ||| G0,Nat.or_lt_two_pow (n:=12) hT hG0,hor,by rw[Nat.testBit_or,hT0,hG00];rfl,?_,?_⟩
  ·
   intro hn;rw[Ec] at hn
   cases hq:Ec AA n with
   |none=>rw[B5,hN hq];rfl
   |some o=>
    rw[hq] at hn;simp only at hn;obtain⟨hr,hl,hb,hle⟩:=hS o hq;obtain⟨G,hG,mr,-,-,hN2,-⟩:=GS (i:=n) (own:=o) (T:=T) (ds:=AA.getD n []) hl hb (fun g hg=>by have:=hle g hg;omega) hT0 (AA.getD n []).length hok2;obtain rfl:G=G0:=by rw[jh] at mr;omega
    rw[B5,hr,hR];rcases hN2 hn with h|h
    . rw[h];rfl
    . rw[decide_eq_false (fun e=>h ((Vd _ _).2 e))];simp
  ·
   intro o' hn;rw[Ec] at hn
   cases hq:Ec AA n with
   |none=>rw[hq] at hn;cases hn
   |some o=>
    rw[hq] at hn;simp only at hn;obtain⟨hr,hl,hb,hle⟩:=hS o hq;obtain⟨G,hG,mr,-,-,-,hS2⟩:=GS (i:=n) (own:=o) (T:=T) (ds:=AA.getD n []) hl hb (fun g hg=>by have:=hle g hg;omega) hT0 (AA.getD n []).length hok2;obtain rfl:G=G0:=by rw[jh] at mr;omega
    obtain⟨h1,h2,h3,h4⟩:=hS2 o' hn;refine⟨by rw[B5,hr,hR,h1,decide_eq_true ((Vd _ _).1 h2)];rfl,h3,fun g hg=>?_,fun g hg=>?_⟩
    ·
     rw[h4 g hg,Nat.testBit_or,Bool.or_eq_true];cases Yk:G.testBit g
     . simp only[Bool.false_eq_true,if_false,or_false];exact hb g hg
     . simp only[if_true,or_true,iff_true];omega
    ·
     rw[h4 g hg];have:=hle g hg;split<;>omega
theorem TN {AA:List (List Dd)}(h:AA.all Fu=true):B5 AA AA.length=KR AA:=by
 obtain⟨T,-,-,-,hN,hS⟩:=QN (AA:=AA) AA.length (fun i hi=>Bo [] h i hi);rw[KR]
 cases hq:Ec AA AA.length with
 |none=>rw[hN hq];rfl
 |some o=>rw[(hS o hq).1];rfl
theorem U5 {AA:List (List Dd)}(h:B5 AA AA.length=true):AA.all Fu=true:=by
 refine pR [] (fun i hi=>?_)
 cases hb:B5 AA (i+1) with
 |false=>rw[Fv hb _ hi] at h;cases h
 |true=>
  rw[B5,Bool.and_eq_true] at hb;have:=hb.2;simp only[Cl,Bool.and_eq_true] at this;rw[Fu,this.1.1.2,Bool.true_and];exact this.1.1.1
theorem Tq (AA:List (List Dd)):AO AA=(decide (1<=AA.length/\AA.length<=3)&&B5 AA AA.length&&decide (BF AA<=12)&&decide (SQ AA AA.length<=6)):=by
 rw[AO]
 cases h:AA.all Fu with
 |true=>
  rw[TN h];cases KR AA<;>simp
 |false=>
  cases hr:B5 AA AA.length with
  |false=>simp
  |true=>rw[U5 hr] at h;cases h
section
section
variable {P:Program} {md:Region.Mode} {ops:Array Oper} {Q:Exit->Act->World->Prop} {S:World->Prop}
theorem xH (i d:Nat){oi:Oper}{v:Value}{fuel:Nat}{listed:Array Bool}{a:Act}{w:World}(hi:ops[i]? = some oi)(hd:oi.dst=some d)
  (hs:Region.noSelect ops=true) (hf:Region.free md ops listed i=true) (hr:(Region.ready md ops listed).contains i=true)
  (hQ:∀c a w,Q (.panic c) (a.put (some d) v) w->Q (.panic c) a w) (hw:Region.wanted oi (yielded ops a.tmps)=true) (hy:∀w,S w->(execOp a.eval oi).run P w = .ok (.value v) w) (hS:S w)
  (h:wpAnyH P md ops Q S fuel (listed.setIfInBounds i true) (a.put (some d) v) w):wpAnyH P md ops Q S (fuel+1) listed a w:=by
 rw[<-hd] at hQ h;exact wpAnyH_take hi hs hf hr hQ (Or.inl ⟨hw,hy⟩) hS h
theorem BT (i d:Nat){oi:Oper}{v:Value}{fuel:Nat}{listed:Array Bool}{a:Act}{w:World}
  (hy:∀w,S w->(execOp a.eval oi).run P w = .ok (.value v) w) (h:wpAnyH P md ops Q S fuel (listed.setIfInBounds i true) (a.put (some d) v) w)
  (hi:ops[i]? = some oi:=by rfl) (hd:oi.dst=some d:=by rfl)
  (hs:Region.noSelect ops=true:=by kernel_rfl) (hf:Region.free md ops listed i=true:=by kernel_rfl) (hr:(Region.ready md ops listed).contains i=true:=by kernel_rfl)
  (hQ:∀c a w,Q (.panic c) (a.put (some d) v) w->Q (.panic c) a w:=by exact fun _ _ _ h=>h) (hw:Region.wanted oi (yielded ops a.tmps)=true:=by rfl) (hS:S w:=by assumption):wpAnyH P md ops Q S (fuel+1) listed a w:=
 xH i d hi hd hs hf hr hQ hw hy hS h
theorem ET (i d:Nat){oi:Oper}{fuel:Nat}{listed:Array Bool}{a:Act}{w:World}(hi:ops[i]? = some oi)(hd:oi.dst=some d)
  (hs:Region.noSelect ops=true) (hf:Region.free md ops listed i=true) (hr:(Region.ready md ops listed).contains i=true)
  (hQ:∀c a w,Q (.panic c) (a.put (some d) undef) w->Q (.panic c) a w) (hw:Region.wanted oi (yielded ops a.tmps)=false) (hS:S w)
  (h:wpAnyH P md ops Q S fuel (listed.setIfInBounds i true) (a.put (some d) undef) w):wpAnyH P md ops Q S (fuel+1) listed a w:=by
 rw[<-hd] at hQ h;exact wpAnyH_take hi hs hf hr hQ (Or.inr ⟨hw,rfl⟩) hS h
end
end
structure LP (w0 wr:World)(x:Value)(es:List Ev)(P:List (Nat×Obj)):Prop where
 app:JB wr w0.heap.size x es
 keep:AC w0 wr
 held:∀n o,(n,o)∈P->x.ownBlock≠some n/\wr.heap[n]? = some o
theorem LP.more {w0 wr wr':World}{x:Value}{es:List Ev}{P:List (Nat×Obj)}(h:LP w0 wr x es P)(k:AC wr wr'):LP w0 wr' x es P:=
 ⟨h.app.keep k,h.keep.trans k,fun n o hn=>⟨(h.held n o hn).1,(Below.block k n (Array.getElem?_eq_some_iff.1 (h.held n o hn).2).1).trans (h.held n o hn).2⟩⟩
theorem LP.add {w0 wr:World}{x:Value}{es:List Ev}{P:List (Nat×Obj)}(h:LP w0 wr x es P)(n:Nat)(o:Obj)(hx:x.ownBlock≠some n)(ho:wr.heap[n]? = some o):LP w0 wr x es ((n,o)::P):=
 ⟨h.app,h.keep,fun m q hm=>by
  rcases List.mem_cons.1 hm with e|e
  . injection e with e1 e2;subst e1 e2;exact⟨hx,ho⟩
  . exact h.held m q e⟩
theorem LP.new {w0 wr:World}{x:Value}{es:List Ev}{P:List (Nat×Obj)}(h:LP w0 wr x es P)(o:Obj):LP w0 (wr.alloc o) x es ((wr.heap.size,o)::P):=
 (h.more ((AC.refl wr).alloc o)).add _ _ (fun e=>by have:=(h.app.lt _ e).2;omega) (heap_alloc_new wr o)
theorem LP.later {w0 wr wr':World}{x:Value}{es:List Ev}{P:List (Nat×Obj)}(h:LP w0 wr x es P)(k:AC wr wr'){B:Nat}{o:Obj}(hB:wr.heap.size<=B)(ho:wr'.heap[B]? = some o):LP w0 wr' x es ((B,o)::P):=
 (h.more k).add _ _ (fun e=>by have:=(h.app.lt _ e).2;omega) ho
theorem LP.less {w0 wr:World}{x:Value}{es:List Ev}{P Q:List (Nat×Obj)}(h:LP w0 wr x es P)(hs:∀y,y∈Q->y∈P):LP w0 wr x es Q:=
 ⟨h.app,h.keep,fun n o hn=>h.held n o (hs _ hn)⟩
theorem LP.hit {w0 wr w':World}{x v':Value}{es:List Ev}{P:List (Nat×Obj)}(h:LP w0 wr x es P)(e:Ev)
  (ho:w'.ownsRow w0.heap.size 128 6 v' (es.length+1) (es.flatMap cE++cE e)) (hg:wr.grownBy w' x.ownBlock) (hb:v'.ownBlock=x.ownBlock\/v'.ownBlock=some wr.heap.size):LP w0 w' v' (es++[e]) P:=by
 refine⟨J3 ho,h.keep.grown hg h.app.ge,fun n o hn=>?_⟩;obtain⟨h1,h2⟩:=h.held n o hn;have hlt:=(Array.getElem?_eq_some_iff.1 h2).1;refine⟨fun e=>?_,(hg.block n hlt (fun e=>h1 e.symm)).trans h2⟩;rcases hb with hb|hb
 . exact h1 (hb ▸ e)
 . rw[hb] at e;have:=Option.some.inj e;omega
theorem LP.lt {w0 wr:World}{x:Value}{es:List Ev}{P:List (Nat×Obj)}(h:LP w0 wr x es P){n:Nat}{o:Obj}(hn:(n,o)∈P):n<wr.heap.size:=(Array.getElem?_eq_some_iff.1 (h.held n o hn).2).1
theorem LP.cell {w0 wr:World}{x:Value}{es:List Ev}{P:List (Nat×Obj)}(h:LP w0 wr x es P){n:Nat}{cs:Array Value}{t:TypeId}(hn:(n,.cells cs t)∈P)(i:Nat):wr.cell? ⟨n,i,none⟩=cs[i]?:=
 cell_of_row wr n i cs t (0,0) (h.held n _ hn).2
theorem ZH {w:World}{base base':Nat}{v:Value}{es:List Ev}(h:JB w base v es)(hb:base'<=base):JB w base' v es:=by
 refine⟨h.1,?_⟩;rcases h.2 with h|⟨g,cap,cur,hv,hg,rest⟩
 . exact .inl h
 . exact .inr ⟨g,cap,cur,hv,Nat.le_trans hb hg,rest⟩
abbrev eO (i k:Int)(r:Bool)(p v c:Int):Obj:= .cells #[.int .i64 i,.int .i64 k,.bool r,.int .i64 p,.int .i64 v,.int .i64 c] 128
theorem J8 (e:Ev):∀u∈cE e,u.oneCell'=true:=by
 intro u hu;simp only[cE,List.mem_cons,List.not_mem_nil,or_false] at hu;rcases hu with rfl|rfl|rfl|rfl|rfl|rfl<;>rfl
theorem J7 (w:World)(n:Nat)(hn:w.heap.size=n)(i q:Int)(r:Bool)(pl vl c:Int):∀j u,(cE (i,q,r,pl,vl,c))[j]? = some u->(w.alloc (eO i q r pl vl c)).cell? ((⟨n,0,none⟩:Addr).add j)=some u:=by
 subst hn;intro j u hj
 match j,hj with
 | 0,hj=>simp[cE] at hj;subst hj;simp[Addr.add]
 | 1,hj=>simp[cE] at hj;subst hj;simp[Addr.add]
 | 2,hj=>simp[cE] at hj;subst hj;simp[Addr.add]
 | 3,hj=>simp[cE] at hj;subst hj;simp[Addr.add]
 | 4,hj=>simp[cE] at hj;subst hj;simp[Addr.add]
 | 5,hj=>simp[cE] at hj;subst hj;simp[Addr.add]
def Rf (f:Ev->Bool)(es:List Ev)(k:Nat):Bool:=decide (k<es.length)&&f (es.getD k zE)
def VX (f:Ev->Bool)(es:List Ev):Nat->List Int
 | 0=>[]
 |k+1=>if Rf f es k=true then VX f es k++[(k:Int)] else VX f es k
theorem QX (f:Ev->Bool)(es:List Ev):∀k,VX f es k=BZ f es (min k es.length)
 | 0=>by simp[VX,BZ]
 |k+1=>by
  rw[VX,QX f es k];by_cases h:k<es.length
  ·
   rw[show min (k+1) es.length=k+1 by omega,show min k es.length=k by omega,BZ];simp[Rf,h]
  ·
   rw[show min (k+1) es.length=min k es.length by omega];simp[Rf,h]
theorem jI (f:Ev->Bool)(es:List Ev)(k:Nat)(h:es.length<=k):VX f es k=BZ f es es.length:=by
 rw[QX,Nat.min_eq_right h]
theorem jJ (f:Ev->Bool)(es:List Ev)(k:Nat):(VX f es k).length<=k:=by
 rw[QX];have:=C9 f es (min k es.length);omega
theorem Hw (f:Ev->Bool)(es:List Ev):(AV f es).length<=12:=by
 unfold AV;split
 . have:=C9 f es es.length;omega
 . simp
def Rj (rs:List Int)(c k:Nat)(pl:Bool)(b:Bd)(n:Nat)(e:Ev):Bd:=
 if e.1=(c:Int)/\e.2.1=(k:Int) then
  if e.2.2.1=true then FY rs b (n:Int) (Ct b c e.2.2.2.1.toNat).1 (Ct b c e.2.2.2.1.toNat).2
  else if pl=true then { b with AG:=b.AG.set c (b.AG.getD c []++[(e.2.2.2.1,e.2.2.2.2.1,(n:Int))]) }
  else Dq b e.2.2.2.1.toNat e.2.2.2.2.1 (n:Int)
 else b
def C8 (es:List Ev)(rs:List Int)(c k:Nat)(pl:Bool)(b:Bd):Nat->Bd
 | 0=>b
 |n+1=>Rj rs c k pl (C8 es rs c k pl b n) n (es.getD n zE)
def Dv (d:Dd):Bool:=decide (d.2.2.2=0)&&(decide (d.1=1)||decide (d.1=2))
theorem Zs {AA:List (List Dd)}(hb:AO AA=true){c k j:Nat}(hj:j<(AB AA).length)(h:((AB AA).getD j zE).1=(c:Int)/\((AB AA).getD j zE).2.1=(k:Int)):∃i,Dz AA j c k i:=by
 by_cases h3:3<=j
 ·
  obtain⟨c',k',i,E⟩:=GV hb h3 hj;rw[E.at hb] at h;obtain⟨h1,h2⟩:=h;have h1:(c':Int)=(c:Int):=h1;have h2:(k':Int)=(k:Int):=h2;obtain rfl:c'=c:=by omega
  obtain rfl:k'=k:=by omega
  exact⟨i,E⟩
 ·
  exfalso;obtain⟨t,ht⟩:=GW AA 0 AA.length (Nat.zero_le _)
  have e:(AB AA).getD j zE=CU.getD j zE:=by
   rw[AB,if_pos hb,ht];show (CU++t).getD j zE=_;rw[List.getD_eq_getElem?_getD,List.getElem?_append_left (by show j<3;omega),<-List.getD_eq_getElem?_getD]
  rw[e] at h;have:j=0\/j=1\/j=2:=by omega
  rcases this with rfl|rfl|rfl<;>(have h1:(-1:Int)=(c:Int):=h.1;omega)
theorem KF {AA:List (List Dd)}(hb:AO AA=true){c k:Nat}{rs:List Int}{pl:Bool}{b:Bd}{n:Nat}:∀m:Nat,n+m<=(AB AA).length->(∀j i,n<=j->¬Dz AA j c k i)->C8 (AB AA) rs c k pl b (n+m)=C8 (AB AA) rs c k pl b n
 | 0,_,_=>rfl
 |m+1,hm,hn=>by
  rw[<-KF hb m (by omega) hn];show Rj rs c k pl (C8 (AB AA) rs c k pl b (n+m)) (n+m) ((AB AA).getD (n+m) zE)=_;unfold Rj;rw[if_neg (fun h=>by obtain⟨i,E⟩:=Zs hb (by omega) h;exact hn _ i (by omega) E)]
theorem Ve {AA:List (List Dd)}(hb:AO AA=true){c k:Nat}{rs:List Int}{pl:Bool}{b:Bd}:∀m:Nat,m<=(AB AA).length->m<=AY AA c k->C8 (AB AA) rs c k pl b m=b
 | 0,_,_=>rfl
 |m+1,hm,ho=>by
  show Rj rs c k pl (C8 (AB AA) rs c k pl b m) m ((AB AA).getD m zE)=_;rw[Ve hb m (by omega) (by omega)];unfold Rj;rw[if_neg (fun h=>by obtain⟨i,E⟩:=Zs hb (by omega) h;have:=E.hj;omega)]
theorem Zk {AA:List (List Dd)}(hb:AO AA=true){c k j i:Nat}(E:Dz AA j c k i)(rs:List Int)(pl:Bool)(b:Bd):
  Rj rs c k pl b j ((AB AA).getD j zE) =
   if Kt (Ak AA c k) i=true then FY rs b (j:Int) (Ct b c (Ak AA c k).2.1.toNat).1 (Ct b c (Ak AA c k).2.1.toNat).2
   else if pl=true then { b with AG:=b.AG.set c (b.AG.getD c []++[((Ak AA c k).2.1,Ye (Ak AA c k) i,(j:Int))]) }
   else Dq b (Ak AA c k).2.1.toNat (Ye (Ak AA c k) i) (j:Int):=by
 unfold Rj;rw[E.at hb,if_pos ⟨rfl,rfl⟩]
theorem jN {AA:List (List Dd)}(hb:AO AA=true){c k:Nat}(hc:c<AA.length)(hk:k<(AA.getD c []).length)(b:Bd)(h3:(Ak AA c k).1=3->b.AG.getD c []=[]):
  C8 (AB AA) (AV Ad (AB AA)) c k (Dv (Ak AA c k)) b (AB AA).length=BH AA (AB AA) b c k:=by
 have hd:=CQ (B8 hb hc k hk);have hg:=(Zx (B8 hb hc) hk).1;have e0:∀pl:Bool,AY AA c k<=(AB AA).length->C8 (AB AA) (AV Ad (AB AA)) c k pl b (AY AA c k)=b:=fun pl h=>Ve hb _ h (Nat.le_refl _)
 by_cases h4:(Ak AA c k).1=4
 ·
  have:∀j i,¬Dz AA j c k i:=fun j i E=>E.kind h4
  have e:=KF hb (c:=c) (k:=k) (rs:=AV Ad (AB AA)) (pl:=Dv (Ak AA c k)) (b:=b) (n:=0) (AB AA).length (by omega) (fun j i _=>this j i);rw[Nat.zero_add] at e;rw[e];unfold BH;rw[if_neg (by omega),if_neg (by omega),if_neg (by omega),if_neg (by omega)];rfl
 have E:=Cj hc hk h4;have hl:=E.lt hb
 have e1:C8 (AB AA) (AV Ad (AB AA)) c k (Dv (Ak AA c k)) b (AY AA c k+1)=Rj (AV Ad (AB AA)) c k (Dv (Ak AA c k)) b (AY AA c k) ((AB AA).getD (AY AA c k) zE):=by
  show Rj _ _ _ _ (C8 _ _ _ _ _ _ _) _ _=_;rw[e0 _ (by omega)]
 rw[Zk hb E] at e1;have hev:=JY hb hc hk h4;by_cases k3:(Ak AA c k).1=3
 ·
  have E2:=Ib hc hk k3;have hl2:=E2.lt hb;have e2:C8 (AB AA) (AV Ad (AB AA)) c k (Dv (Ak AA c k)) b (AY AA c k+1+1)=Rj (AV Ad (AB AA)) c k (Dv (Ak AA c k)) (C8 (AB AA) (AV Ad (AB AA)) c k (Dv (Ak AA c k)) b (AY AA c k+1)) (AY AA c k+1) ((AB AA).getD (AY AA c k+1) zE):=rfl;rw[Zk hb E2,e1] at e2
  have es:=KF hb (c:=c) (k:=k) (rs:=AV Ad (AB AA)) (pl:=Dv (Ak AA c k)) (b:=b) (n:=AY AA c k+1+1) ((AB AA).length-(AY AA c k+1+1)) (by omega) (fun j i h E=>by
   have:=E.hj;have:=E.hi;unfold FM at this;rw[if_neg h4,if_pos k3] at this
   omega)
  rw[show AY AA c k+1+1+((AB AA).length-(AY AA c k+1+1))=(AB AA).length by omega] at es;rw[es,e2];have r0:Kt (Ak AA c k) 0=true:=by unfold Kt;rw[decide_eq_true (show (Ak AA c k).1≠2 by omega)];rfl
  have r1:Kt (Ak AA c k) 1=false:=by unfold Kt;simp
  have hp:Dv (Ak AA c k)=false:=by unfold Dv;rw[decide_eq_false (show ¬(Ak AA c k).1=1 by omega),decide_eq_false (show ¬(Ak AA c k).1=2 by omega)];simp
  have hv:Ye (Ak AA c k) 1=(Ak AA c k).2.2.1:=by unfold Ye;rw[r1];rfl
  rw[r0,r1,hp,hv];simp only[if_true,Bool.false_eq_true,if_false];unfold BH;rw[if_neg (by omega),if_pos k3,hev]
  have hr:Ct b c (Ak AA c k).2.1.toNat=(b.AM.getD (Ak AA c k).2.1.toNat 0,b.AQ.getD (Ak AA c k).2.1.toNat 0):=by
   unfold Ct;rw[h3 k3];rfl
  rw[hr];rfl
 ·
  have es:=KF hb (c:=c) (k:=k) (rs:=AV Ad (AB AA)) (pl:=Dv (Ak AA c k)) (b:=b) (n:=AY AA c k+1) ((AB AA).length-(AY AA c k+1)) (by omega) (fun j i h E=>by
   have:=(Mi E k3).1
   omega)
  rw[show AY AA c k+1+((AB AA).length-(AY AA c k+1))=(AB AA).length by omega] at es;rw[es,e1];unfold BH;by_cases k1:(Ak AA c k).1=1
  ·
   have r0:Kt (Ak AA c k) 0=true:=by unfold Kt;rw[decide_eq_true (show (Ak AA c k).1≠2 by omega)];rfl
   rw[r0,if_pos rfl,if_pos k1,hev]
  ·
   have k2:(Ak AA c k).1=2:=by omega
   have r0:Kt (Ak AA c k) 0=false:=by unfold Kt;rw[decide_eq_false (show ¬(Ak AA c k).1≠2 by omega)];rfl
   have hv:Ye (Ak AA c k) 0=(Ak AA c k).2.2.1:=by unfold Ye;rw[r0];rfl
   rw[r0,hv,if_neg (by simp),if_neg k1,if_neg k3,hev];by_cases g0:0<BS AA c k
   ·
    have hp:Dv (Ak AA c k)=false:=by
     unfold Dv;rw[decide_eq_false (show ¬(Ak AA c k).2.2.2=0 from fun h=>by have h:BS AA c k=0:=h;omega)];rfl
    rw[if_neg (by rw[hp];simp),if_pos ⟨k2,g0⟩]
   ·
    have hp:Dv (Ak AA c k)=true:=by
     unfold Dv;rw[decide_eq_true (show (Ak AA c k).2.2.2=0 by show BS AA c k=0;omega),decide_eq_true k2];simp
    rw[if_pos hp,if_neg (fun h=>g0 h.2),if_pos k2]
theorem TY {rs l:List Int}{i:Nat}{v:Int}(hr:rs.Pairwise (·<·))(hi:i<rs.length)(hl:l.length=rs.length):Gr rs (rs.getD i 0) v l=l.set i v:=by
 unfold Gr;apply List.ext_getElem?;intro j;have hgi:rs.getD i 0=rs[i]:=by rw[List.getD_eq_getElem?_getD,List.getElem?_eq_getElem hi];rfl
 rw[List.getElem?_zipWith,List.getElem?_set,hgi];by_cases hj:j<rs.length
 ·
  rw[List.getElem?_eq_getElem hj,List.getElem?_eq_getElem (by omega:j<l.length)];by_cases e:i=j
  ·
   subst e;rw[if_pos rfl,if_pos (by omega)];simp
  ·
   rw[if_neg e]
   have hne:rs[j]≠rs[i]:=by
    rw[List.pairwise_iff_getElem] at hr;rcases Nat.lt_or_ge i j with q|q
    . have:=hr i j hi hj q;omega
    . have:=hr j i hj hi (by omega);omega
   simp[hne]
 ·
  rw[List.getElem?_eq_none (by omega:rs.length<=j),List.getElem?_eq_none (by omega:l.length<=j)];by_cases e:i=j
  . omega
  . rw[if_neg e]
theorem SY {AA:List (List Dd)}{es:List Ev}{g:Int}{c m:Nat}{b:Bd}(hlen:Ap (Ai AA es b c) c<=(AA.getD c []).length)(hnx:Ap (Ai AA es b c) c=Ap b c+1)(hg:BS AA c (Ap b c)=g):
  Ea AA es g c (m+1) b=if Ap (Ai AA es b c) c<(AA.getD c []).length/\GX (AA.getD c []) (Ap (Ai AA es b c) c)=true then Ea AA es g c m (Ai AA es b c) else Ai AA es b c:=by
 show (if g=0\/Ap (Ai AA es b c) c=(AA.getD c []).length\/BS AA c (Ap (Ai AA es b c) c)≠g then Ai AA es b c else Ea AA es g c m (Ai AA es b c))=_
 have hgo:GX (AA.getD c []) (Ap (Ai AA es b c) c)=true↔BS AA c (Ap (Ai AA es b c) c)≠0/\BS AA c (Ap (Ai AA es b c) c)=g:=by
  unfold GX;rw[hnx];rw[show Ap b c+1-1=Ap b c from rfl];have e1:((AA.getD c []).getD (Ap b c+1) zD).2.2.2=BS AA c (Ap b c+1):=rfl;have e2:((AA.getD c []).getD (Ap b c) zD).2.2.2=BS AA c (Ap b c):=rfl;rw[e1,e2,hg];simp
 by_cases h1:Ap (Ai AA es b c) c<(AA.getD c []).length/\GX (AA.getD c []) (Ap (Ai AA es b c) c)=true
 ·
  rw[if_pos h1,if_neg];obtain⟨h2,h3⟩:=hgo.1 h1.2;rintro (h|h|h)
  . omega
  . omega
  . exact h h3
 ·
  rw[if_neg h1,if_pos];by_cases h2:Ap (Ai AA es b c) c<(AA.getD c []).length
  ·
   have h3:¬(BS AA c (Ap (Ai AA es b c) c)≠0/\BS AA c (Ap (Ai AA es b c) c)=g):=fun h=>h1 ⟨h2,hgo.2 h⟩
   by_cases hz:g=0
   . exact .inl hz
   ·
    right;right;intro e;exact h3 ⟨by rw[e];exact hz,e⟩
  . right;left;omega
section
section
variable {P:Program} {ops:Array Oper} {Q:Exit->Act->World->Prop} {md:Region.Mode}
def Pm (listed:Array Bool):Nat:=listed.toList.countP (fun b=>!b)
theorem PT:∀(l:List Bool) (i:Nat),l[i]? = some false->(l.set i true).countP (fun b=>!b)+1=l.countP (fun b=>!b)
 | [],i,h=>by simp at h
 |x::r,0,h=>by
  simp at h;subst h;simp
 |x::r,i+1,h=>by
  have ih:=PT r i (by simpa using h);rw[List.set_cons_succ,List.countP_cons,List.countP_cons];omega
theorem Pn {listed:Array Bool}{i:Nat}(h:listed[i]? = some false):Pm (listed.setIfInBounds i true)+1=Pm listed:=by
 unfold Pm;rw[Array.toList_setIfInBounds];exact PT _ _ (by rw[Array.getElem?_toList];exact h)
theorem AF {listed:Array Bool}{i:Nat}(h:i∈Region.ready md ops listed):i<ops.size/\listed[i]? = some false/\∀o,ops[i]? = some o->o.after.all (fun e=>!Region.binds md e||listed.getD e.on false)=true:=by
 unfold Region.ready at h;rw[List.mem_filter,List.mem_range] at h;obtain⟨h1,h2⟩:=h;simp only[Bool.and_eq_true,Bool.not_eq_true'] at h2;refine⟨h1,?_,fun o ho=>?_⟩
 ·
  have h3:=h2.1;rw[Array.getD_eq_getD_getElem?] at h3
  cases e:listed[i]? with
  |none=>rw[e] at h3;cases h3
  |some b=>rw[e] at h3;simp at h3;rw[h3]
 ·
  have h3:=h2.2;rw[ho] at h3
  simpa using h3
theorem QO (J:Array Bool->Act->World->Prop)
  (step:∀listed a w,J listed a w->∀i,i∈Region.ready md ops listed->wpOp P ops Q i (fun a' w'=>J (listed.setIfInBounds i true) a' w') a w)
  (done:∀listed a w,J listed a w->Region.ready md ops listed=[]->Q .normal a w):
  ∀(fuel:Nat) (listed:Array Bool) (a:Act) (w:World),Pm listed<=fuel->J listed a w->wpAny P md ops Q fuel listed a w
 | 0,listed,a,w,hl,hJ=>by
  have hr:Region.ready md ops listed=[]:=by
   cases h:Region.ready md ops listed with
   |nil=>rfl
   |cons i r=>
    exfalso;have h2:=(AF (md:=md) (ops:=ops) (listed:=listed) (i:=i) (by rw[h];simp)).2.1;have:=Pn h2;omega
  exact⟨hr,done listed a w hJ hr⟩
 |fuel+1,listed,a,w,hl,hJ=>by
  refine⟨fun hr=>done listed a w hJ hr,fun i hi=>?_⟩;refine wpOp_mono (fun a' w' hJ'=>QO J step done fuel _ a' w' ?_ hJ') (step listed a w hJ i hi);have:=Pn (AF hi).2.1;omega
theorem Ul (n:Nat):Pm (Array.replicate n false)=n:=by
 unfold Pm;rw[Array.toList_replicate];simp[List.countP_replicate]
theorem Bv {id:Nat}{a:Act}{w:World}(hm:P.follows .mixedOrders=true)(J:Array Bool->Act->World->Prop)
  (start:J (Array.replicate ops.size false) a w.drew)
  (step:∀listed a w,J listed a w->∀i,i∈Region.ready .any ops listed->wpOp P ops Q i (fun a' w'=>J (listed.setIfInBounds i true) a' w') a w)
  (done:∀listed a w,J listed a w->Region.ready .any ops listed=[]->Q .normal a w):(Code.region id ops true).wp P Q a w:=
 wp_region_any hm (QO J step done ops.size _ a _ (by rw[Ul];exact Nat.le_refl _) start)
end
end
theorem IZ {AA:List (List Dd)}{b:Bd}(h:Ac AA b=true):AO AA=true/\b.AM.length=3/\b.AQ.length=3/\b.rws.length=3/\b.AG.length=AA.length/\b.AK.length=AA.length/\b.sn.length<=12/\b.fr.length<=12/\(∀i,i<3->(b.rws.getD i []).length<=20)/\∀i,i<AA.length->(b.AG.getD i []).length<=8:=by
 unfold Ac Gs MD IM at h;simp only[Bool.and_eq_true,decide_eq_true_eq] at h;obtain⟨⟨h1,h2,h3,h4,h5,h6⟩,⟨_,_,_,_,h7,h8⟩,h9,h10⟩:=h;unfold G4 at h7 h8;simp only[Bool.and_eq_true,decide_eq_true_eq] at h7 h8;refine⟨h1,h2,h3,h4,h5,h6,h7.2,h8.2,fun i hi=>?_,fun i hi=>?_⟩
 ·
  have:=List.all_eq_true.1 h9 i (List.mem_range.2 hi);unfold G4 at this;simp only[Bool.and_eq_true,decide_eq_true_eq] at this;exact this.2
 ·
  have:=List.all_eq_true.1 h10 i (List.mem_range.2 hi);unfold UP at this;simp only[Bool.and_eq_true,decide_eq_true_eq] at this;exact this.2.1
theorem Jr {AA:List (List Dd)}(h:AO AA=true):AA.length<=3/\∀i,i<AA.length->(AA.getD i []).length<=1048576:=by
 obtain⟨h1,h2⟩:=Ay h;refine⟨h1,fun i hi=>?_⟩;have hq:=h2 i hi;unfold Fu at hq;rw[Bool.and_eq_true,decide_eq_true_eq] at hq;omega
theorem Dw {P:Program}{w:World}{ops:Array Oper}{o:Oper}{a:Act}{K:Act->World->Prop}{Q:Exit->Act->World->Prop}{E:Prop}(hgd:o.guard=none)(s x:Operand)(t:TypeId)
  (ho:o.op = .call { callee:= .builtin .append,args:=#[s,x],argTypes:=#[t,t] })
  (base:Nat) (e:TypeId) (i:TypeInfo) (z:Value) (size bytes:Nat) (ht:P.underlying t=some (.slice e)) (hi:P.info? e=some i) (hz:i.zero=some z)
  (hsize:i.size=size) (hby:i.bytes=bytes) (hzs:z.cells.size=size) (hsz:0<size)
  (v:Value) (n:Nat) (xs:List Value) (hs:a.eval s=v) (hown:w.ownsRow base e size v n xs)
  (ad:Addr) (m c:Nat) (news:List Value) (hx:a.eval x = .slice (some ad) m c) (hl:news.length=m*size) (hnews:∀j u,news[j]? = some u->w.cell? (ad.add j)=some u) (h1:∀u∈news,u.oneCell'=true)
  (h63:n+m<=maxLen) (hbytes:(n+m)*bytes<=140737488355328) (hbase:base<=w.heap.size)
  (h:∀v' w',w'.ownsRow base e size v' (n+m) (xs++news)->w.grownBy w' v.ownBlock->(v'.ownBlock=v.ownBlock\/v'.ownBlock=some w.heap.size)->K (a.put o.dst v') w'):
  if Region.wanted o (yielded ops a.tmps)=true then Oper.wp P o a w K Q else E:=by
 have hw:Region.wanted o (yielded ops a.tmps)=true:=by simp[Region.wanted,hgd]
 rw[if_pos hw];obtain⟨v',w',hr,h2,h3,h4,h5⟩:=run_append_own_at (P:=P) w base t o.type e i z size bytes ht hi hz hsize hby hzs hsz v n xs hown ad m c news hl hnews h1 h63 hbytes hbase;unfold Oper.wp execOp;simp only[ho,resolve,invoke,builtin,Sem.run_bind,Sem.run_pure,Result.andThen_ok,List.map_toArray,List.map_cons,List.map_nil,hs,hx,hr];exact h v' w' h2 h3 h5
def MR (ns:List Nt)(p:Int)(y:Nt)(k:Nat):Nt:=((ns.take k).reverse.find? (fun x=>x.1==p)).getD y
theorem U9 (ns:List Nt)(p:Int)(y:Nt)(k:Nat)(h:k<ns.length):MR ns p y (k+1)=if (ns.getD k (0,0,0)).1=p then ns.getD k (0,0,0) else MR ns p y k:=by
 have e:ns.take (k+1)=ns.take k++[ns.getD k (0,0,0)]:=by
  rw[List.take_add_one,List.getD_eq_getElem?_getD,List.getElem?_eq_getElem h];rfl
 unfold MR;rw[e,List.reverse_append];simp only[List.reverse_cons,List.reverse_nil,List.nil_append,List.cons_append,List.find?_cons];by_cases q:(ns.getD k (0,0,0)).1=p
 ·
  rw[if_pos q];have:((ns.getD k (0,0,0)).1==p)=true:=by simpa using q
  rw[this];rfl
 ·
  rw[if_neg q];have:((ns.getD k (0,0,0)).1==p)=false:=by simpa using q
  rw[this]
theorem YV (b:Bd)(c p:Nat):(MR (b.AG.getD c []) (p:Int) ((p:Int),b.AM.getD p 0,b.AQ.getD p 0) (b.AG.getD c []).length).2=Ct b c p:=by
 unfold MR Ct;rw[List.take_length];cases (b.AG.getD c []).reverse.find? (fun x=>x.1==(p:Int))<;>rfl
def Kb {α:Type}:List (List α)->Nat
 | []=>0
 |d::r=>d.length+Kb r
theorem Sm {α:Type}:∀(l r:List (List α)),Kb (l++r)=Kb l+Kb r
 | [],r=>by simp[Kb]
 |d::l,r=>by rw[List.cons_append,Kb,Kb,Sm l r];omega
theorem Xv {α:Type}(AA:List (List α))(k:Nat)(h:k<AA.length):Kb (AA.take (k+1))=Kb (AA.take k)+(AA.getD k []).length:=by
 rw[List.take_add_one,List.getElem?_eq_getElem h,Sm,List.getD_eq_getElem?_getD,List.getElem?_eq_getElem h];simp[Kb]
def uE (AA:List (List Dd))(b:Bd):Prop:=BF AA<=1048576/\Kb b.AG<=1048576/\Kb b.rws<=1048576
theorem WO (AA:List (List Dd))(es:List Ev):∀(l r:List Int) (b:Bd),Jl AA es b (l++r)=Jl AA es (Jl AA es b l) r
 | [],r,b=>rfl
 |s::l,r,b=>by rw[List.cons_append,Jl,Jl];exact WO AA es l r _
def Y9 (AA:List (List Dd))(b:Bd):Prop:=∃a τ T z,MI AA b a τ T z/\BD AA a
theorem Y9.new {AA:List (List Dd)}(hb:AO AA=true):Y9 AA (CM AA):=⟨_,_,_,_,Kk hb⟩
theorem Y9.step {AA:List (List Dd)}(hb:AO AA=true){b:Bd}(h:Y9 AA b){s:Int}(hs:Hf (Ah AA b) s=true):Y9 AA (Al AA (AB AA) b s):=by
 obtain⟨a,τ,T,z,M,B⟩:=h;obtain⟨a',τ',z',M',B'⟩:=Tf hb M B hs;exact⟨a',τ',_,z',M',B'⟩
theorem Y9.board {AA:List (List Dd)}(hb:AO AA=true){b:Bd}(h:Y9 AA b):Ac AA b=true:=by
 obtain⟨a,τ,T,z,M,_⟩:=h;exact H0 hb M
theorem TH {w:World}{b off:Nat}{zs:List Int}(hc:∀i,i<zs.length->w.cell? ⟨b,off+i,none⟩=some (.int .i64 (zs.getD i 0))):
  ∀j u,(zs.map (Value.int .i64))[j]? = some u->w.cell? ((⟨b,off,none⟩:Addr).add j)=some u:=by
 intro j u hj;rw[List.getElem?_map] at hj
 have hjl:j<zs.length:=by
  apply Classical.byContradiction;intro hno;rw[List.getElem?_eq_none (by omega)] at hj;cases hj
 have e1:(⟨b,off,none⟩:Addr).add j=⟨b,off+j,none⟩:=by unfold Addr.add;split<;>simp_all
 rw[e1,hc j hjl,List.getD_eq_getElem?_getD];rw[List.getElem?_eq_getElem hjl] at hj ⊢
 simpa using hj
theorem aK (zs:List Int):∀u∈zs.map (Value.int .i64),u.oneCell'=true:=by
 intro u hu;obtain⟨y,_,rfl⟩:=List.mem_map.1 hu;rfl
def NK (AA:List (List Dd))(b:Bd):Bool:=(List.range AA.length).all (fun c=>decide (((AA.getD c []).length:Int)<=b.AK.getD c 0)&&(b.AG.getD c []).isEmpty)
def JX (AA:List (List Dd))(b:Bd):Bool:=Ac AA b&&NK AA b
def Lq (AA:List (List Dd))(b:Bd):List Int:=if Ac AA b=true then b.sn++b.AM else []
def Tryz.lQ:Go.Shelf.Ren:=⟨fun|6=>67|15=>98|14=>97|28=>128|29=>129|20=>120|21=>121|22=>122|23=>123|24=>124|25=>125|26=>126|27=>127|46=>150|47=>151|48=>152|49=>153|50=>154|57=>165|n=>n,fun|22=>26|24=>28|25=>89|3=>3|39=>116|0=>0|53=>145|55=>147|4=>4|46=>139|45=>138|50=>125|5=>5|9=>9|66=>170|70=>174|76=>182|77=>183|n=>n,fun|n=>n⟩
theorem Tryz.srt:Go.Proofs.SlLaysF.n6 Tryz.prog Tryz.lQ:={
 mixed:=by kernel_rfl
 f6:=⟨Tryz.f67.name,by decide,Tryz.func67.trans (congrArg some (by kernel_rfl))⟩
 f14:=⟨Tryz.f97.name,by decide,Tryz.func97.trans (congrArg some (by kernel_rfl))⟩
 f15:=Tryz.func98.trans (congrArg some (by kernel_rfl))
 f20:=⟨Tryz.f120.name,by decide,Tryz.func120.trans (congrArg some (by kernel_rfl))⟩
 f21:=⟨Tryz.f121.name,by decide,Tryz.func121.trans (congrArg some (by kernel_rfl))⟩
 f22:=⟨Tryz.f122.name,by decide,Tryz.func122.trans (congrArg some (by kernel_rfl))⟩
 f23:=⟨Tryz.f123.name,by decide,Tryz.func123.trans (congrArg some (by kernel_rfl))⟩
 f24:=⟨Tryz.f124.name,by decide,Tryz.func124.trans (congrArg some (by kernel_rfl))⟩
 f25:=⟨Tryz.f125.name,by decide,Tryz.func125.trans (congrArg some (by kernel_rfl))⟩
 f26:=⟨Tryz.f126.name,by decide,Tryz.func126.trans (congrArg some (by kernel_rfl))⟩
 f27:=⟨Tryz.f127.name,by decide,Tryz.func127.trans (congrArg some (by kernel_rfl))⟩
 f28:=Tryz.func128.trans (congrArg some (by kernel_rfl))
 f29:=Tryz.func129.trans (congrArg some (by kernel_rfl))
 f46:=⟨Tryz.f150.name,by decide,Tryz.func150.trans (congrArg some (by kernel_rfl))⟩
 f47:=Tryz.func151.trans (congrArg some (by kernel_rfl))
 f48:=Tryz.func152.trans (congrArg some (by kernel_rfl))
 f49:=⟨Tryz.f153.name,by decide,Tryz.func153.trans (congrArg some (by kernel_rfl))⟩
 f50:=⟨Tryz.f154.name,by decide,Tryz.func154.trans (congrArg some (by kernel_rfl))⟩
 f57:=⟨Tryz.f165.name,by decide,Tryz.func165.trans (congrArg some (by kernel_rfl))⟩
 t0:=Tryz.underlying0
 a0:=Tryz.isAgg0
 z0:=Tryz.sizeOf0
 v0:=Tryz.zeroValue0
 t3:=Tryz.underlying3
 a3:=Tryz.isAgg3
 z3:=Tryz.sizeOf3
 v3:=Tryz.zeroValue3
 t4:=Tryz.underlying4
 a4:=Tryz.isAgg4
 z4:=Tryz.sizeOf4
 v4:=Tryz.zeroValue4
 t5:=Tryz.underlying5
 a5:=Tryz.isAgg5
 z5:=Tryz.sizeOf5
 v5:=Tryz.zeroValue5
 t9:=Tryz.underlying9
 a9:=Tryz.isAgg9
 z9:=Tryz.sizeOf9
 v9:=Tryz.zeroValue9
 t22:=Tryz.underlying26
 a22:=Tryz.isAgg26
 z22:=Tryz.sizeOf26
 v22:=Tryz.zeroValue26
 a24:=Tryz.isAgg28
 z24:=Tryz.sizeOf28
 t25:=Tryz.underlying89
 a25:=Tryz.isAgg89
 z25:=Tryz.sizeOf89
 v25:=Tryz.zeroValue89
 t39:=Tryz.underlying116
 a39:=Tryz.isAgg116
 z39:=Tryz.sizeOf116
 v39:=Tryz.zeroValue116
 t45:=Tryz.underlying138
 a45:=Tryz.isAgg138
 z45:=Tryz.sizeOf138
 v45:=Tryz.zeroValue138
 t46:=Tryz.underlying139
 a46:=Tryz.isAgg139
 z46:=Tryz.sizeOf139
 v46:=Tryz.zeroValue139
 t50:=Tryz.underlying125
 a50:=Tryz.isAgg125
 z50:=Tryz.sizeOf125
 v50:=Tryz.zeroValue125
 t53:=Tryz.underlying145
 a53:=Tryz.isAgg145
 z53:=Tryz.sizeOf145
 v53:=Tryz.zeroValue145
 t55:=Tryz.underlying147
 a55:=Tryz.isAgg147
 z55:=Tryz.sizeOf147
 v55:=Tryz.zeroValue147
 t66:=Tryz.underlying170
 a66:=Tryz.isAgg170
 z66:=Tryz.sizeOf170
 v66:=Tryz.zeroValue170
 t70:=Tryz.underlying174
 a70:=Tryz.isAgg174
 z70:=Tryz.sizeOf174
 v70:=Tryz.zeroValue174
 t76:=Tryz.underlying182
 a76:=Tryz.isAgg182
 z76:=Tryz.sizeOf182
 v76:=Tryz.zeroValue182
 t77:=Tryz.underlying183
 a77:=Tryz.isAgg183
 z77:=Tryz.sizeOf183
 v77:=Tryz.zeroValue183 }
def Ow (x y:Int):Int:=if x<y then -1 else if y<x then 1 else 0
def GG:List Int->List Int->Int
 | [],[]=>0
 | [],_::_=>-1
 |_::_,[]=>1
 |x::xs,y::ys=>if Ow x y=0 then GG xs ys else Ow x y
theorem NH (x y:Int):(x<y/\Ow x y=-1)\/(y<x/\Ow x y=1)\/(x=y/\Ow x y=0):=by
 unfold Ow;by_cases h1:x<y
 . exact .inl ⟨h1,if_pos h1⟩
 ·
  by_cases h2:y<x
  . exact .inr (.inl ⟨h2,by rw[if_neg h1,if_pos h2]⟩)
  . exact .inr (.inr ⟨by omega,by rw[if_neg h1,if_neg h2]⟩)
theorem GU {xs:List Int}{k:Nat}(h:k<xs.length):xs.drop k=xs.getD k 0::xs.drop (k+1):=by
 rw[List.drop_eq_getElem_cons h,List.getD_eq_getElem?_getD,List.getElem?_eq_getElem h];rfl
theorem Xb {xs ys:List Int}{k:Nat}(h1:k<xs.length)(h2:k<ys.length):GG (xs.drop k) (ys.drop k)=if Ow (xs.getD k 0) (ys.getD k 0)=0 then GG (xs.drop (k+1)) (ys.drop (k+1)) else Ow (xs.getD k 0) (ys.getD k 0):=by
 rw[GU h1,GU h2,GG]
theorem Xa {xs ys:List Int}{k:Nat}(h1:k<xs.length)(h2:ys.length<=k):GG (xs.drop k) (ys.drop k)=1:=by
 rw[GU h1,List.drop_eq_nil_of_le h2,GG]
theorem Ze {xs ys:List Int}{k:Nat}(h1:xs.length<=k)(h2:k<=ys.length)(h3:k<=xs.length):GG (xs.drop k) (ys.drop k)=if xs.length<ys.length then -1 else 0:=by
 rw[List.drop_eq_nil_of_le h1];by_cases h:k<ys.length
 . rw[GU h,GG,if_pos (by omega)]
 . rw[List.drop_eq_nil_of_le (by omega),GG,if_neg (by omega)]
theorem PR:∀xs ys:List Int,decide (GG xs ys<0)=Bx xs ys
 | [],[]=>rfl
 | [],_::_=>rfl
 |_::_,[]=>rfl
 |x::xs,y::ys=>by
  have ih:=PR xs ys;rw[GG,Bx];rcases NH x y with ⟨h,e⟩|⟨h,e⟩|⟨h,e⟩
  ·
   rw[e];have:¬x=y:=by omega
   simp[this,h]
  ·
   rw[e];have h1:¬x=y:=by omega
   have h2:¬x<y:=by omega
   simp[h1,h2]
  ·
   rw[e];subst h
   simpa using ih
theorem SP {AA:List (List Dd)}{b:Bd}(hb:Ac AA b=true):NK AA b=DN AA b:=by
 unfold NK DN;rw[List.all_eq,List.all_eq]
 congr 1
 apply propext;constructor
 all_goals
  intro h c hc;have hq:=h c hc
  have hck:UP AA ((AB AA).length:Int) b c=true:=by
   unfold Ac at hb;simp only[Bool.and_eq_true] at hb;exact List.all_eq_true.1 hb.2.2.2 c hc
  unfold UP at hck;simp only[Bool.and_eq_true,decide_eq_true_eq] at hck;rw[Bool.and_eq_true,decide_eq_true_eq] at hq ⊢;refine⟨?_,hq.2⟩;unfold Ap at *;omega
def tV (b:Bd):Prop:=(∀c,(b.AG.getD c []).length<=7)/\∀p,(b.rws.getD p []).length<=15
theorem bC {AA:List (List Dd)}{b:Bd}{a:Ab}{τ:Nat->Nat}{T:Nat}{z:Int}(M:MI AA b a τ T z):(∀c,(b.AG.getD c []).length<=6)/\∀p,(b.rws.getD p []).length<=9:=by
 have h9:=Mh AA;have R:=M.Bt;have I:=M.inv;refine⟨fun c=>?_,fun p=>?_⟩
 ·
  by_cases hc:c<AA.length
  ·
   rw[R.AG,Cq _ _ hc,List.length_map]
   have hnd:(a.N c).Nodup:=by
    have:=I.Lh (c:Int);rw[Hc] at this;exact this.imp (fun h=>Nat.ne_of_lt h)
   have:=Il (lo:=3) (n:=(AB AA).length) hnd (fun x hx=>by
    have hx':x∈(Cm AA a τ).N (c:Int):=by rw[Hc];exact hx
    have:=I.note (c:Int) x hx'
    exact⟨this.2.1,I.lt x this.1⟩)
   omega
  . rw[List.getD_eq_getElem?_getD,List.getElem?_eq_none (by rw[R.AG,List.length_map,List.length_range];omega)];simp
 ·
  by_cases hp:p<3
  ·
   rw[R.rws,Cq _ _ hp,List.length_map];have:=Il (lo:=0) (n:=(AB AA).length) (I.Ln p) (fun x hx=>⟨Nat.zero_le _,I.lt x ((I.rows p x).1 hx).1.1⟩);have e:(Cm AA a τ).R p=a.R p:=rfl;rw[e] at this;omega
  . rw[List.getD_eq_getElem?_getD,List.getElem?_eq_none (by rw[R.rws,List.length_map,List.length_range];omega)];simp
theorem Y9.low {AA:List (List Dd)}{b:Bd}(h:Y9 AA b):(∀c,(b.AG.getD c []).length<=6)/\∀p,(b.rws.getD p []).length<=9:=by
 obtain⟨a,τ,T,z,M,-⟩:=h;exact bC M
theorem qR {b:Bd}(h:(∀c,(b.AG.getD c []).length<=6)/\∀p,(b.rws.getD p []).length<=9):tV b:=⟨fun c=>by have:=h.1 c;omega,fun p=>by have:=h.2 p;omega⟩
end Go.Proofs.YtnmelakgmgenjaaGreat
