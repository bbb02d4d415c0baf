/- Gathered texts. -/
import Derived.Test.YtflehmepjhikcaaGreatDoorMG
import Derived.Laws.Tables
import Derived.Lib.Hide
set_option maxRecDepth 100000
set_option maxHeartbeats 8000000
namespace Go.Proofs.YtflehmepjhikcaaGreatDoor
open Go.ChangeShapes Go.WideShapes Go.ChangeAt Go.RowKit
abbrev KBP:=@Nat.le_of_eq
abbrev KBs:=@setRow_heap
abbrev KCt:=@List.nodup_range
abbrev KDB:=@Array.getElem?_modify
section
inductive BI where
 |bd|AM|AQ|AJ|AK|sn|fr|rws
 |nt (c:Nat)
 |rw (p:Nat) deriving DecidableEq
abbrev Px (ns:List Nt)(v:Value):Rw:=⟨155,3,v,ns.length,ns.flatMap cN⟩
abbrev Hi (D:Nat)(v:BV):Rw:=⟨103,8,.slice (some ⟨D,0,none⟩) 1 1,1,[v.W,v.P,v.L,v.N,v.X,v.S,v.F,v.R]⟩
def Ay (D:Nat)(v:BV)(nv rv:List Value)(b:Bd):BI->Rw
 | .bd=>Hi D v
 | .AM=>Bk b.AM v.P
 | .AQ=>Bk b.AQ v.L
 | .AJ=>Em 151 nv v.N
 | .AK=>Bk b.AK v.X
 | .sn=>Bk b.sn v.S
 | .fr=>Bk b.fr v.F
 | .rws=>Em 25 rv v.R
 | .nt c=>Px (b.AJ.getD c []) (nv.getD c AF)
 | .rw p=>Bk (b.rws.getD p []) (rv.getD p AF)
def BW (nv rv:List Value):BI->Prop
 | .nt c=>c<nv.length
 | .rw p=>p<rv.length
 |_=>True
theorem GU.new {ι:Type}[DecidableEq ι]{w w':World}{m:Nat}{live:ι->Prop}{R:ι->Rw}(h:GU w m live R){i:ι}{r:Rw}(k:AC w w')(hn:∀b,r.v.ownBlock=some b->w.heap.size<=b)(ho:r.own w' m):GU w' m live (JR R i r):=by
 have hk:=h.keep k
 have new:∀j,live j->(R j).v.ownBlock=none\/(R j).v.ownBlock≠r.v.ownBlock:=fun j hj=>by
  cases e:(R j).v.ownBlock with
  |none=>exact .inl rfl
  |some b=>exact .inr (fun e'=>by have:=(h.lt hj b e).2;have:=hn b e'.symm;omega)
 refine⟨fun j hj=>?_,fun j l hj hl hjl=>?_⟩
 ·
  by_cases e:j=i
  . subst e;rw[Ao];exact ho
  . rw[AV R r e];exact hk.own j hj
 ·
  by_cases ej:j=i
  ·
   subst ej;have el:l≠j:=fun e=>hjl e.symm
   rw[Ao,AV R r el];rcases new l hl with h1|h1
   ·
    rw[h1]
    cases r.v.ownBlock with
    |none=>exact .inl rfl
    |some b=>exact .inr (by simp)
   . exact .inr (fun e=>h1 e.symm)
  ·
   rw[AV R r ej];by_cases el:l=i
   . subst el;rw[Ao];exact new j hj
   . rw[AV R r el];exact h.apart j l hj hl hjl
structure AU (w:World)(m D:Nat)(v:BV)(nv rv:List Value)(bs N:Nat)(AA:List (List Dd))(b:Bd):Prop where
 Ag:GU w m (BW nv rv) (Ay D v nv rv b)
 ln:nv.length=b.AJ.length
 lr:rv.length=b.rws.length
 work:Jh w bs N v.W AA
 top:N<=w.heap.size
 out:∀i,BW nv rv i->∀k,(Ay D v nv rv b i).v.ownBlock=some k->k<bs\/N<=k
def vB (D:Nat)(v:BV)(nv rv:List Value):BI->Value
 | .bd => .slice (some ⟨D,0,none⟩) 1 1
 | .AM=>v.P
 | .AQ=>v.L
 | .AJ=>v.N
 | .AK=>v.X
 | .sn=>v.S
 | .fr=>v.F
 | .rws=>v.R
 | .nt c=>nv.getD c AF
 | .rw p=>rv.getD p AF
theorem Lc (D:Nat)(v:BV)(nv rv:List Value)(b:Bd)(i:BI):(Ay D v nv rv b i).v=vB D v nv rv i:=by cases i<;>rfl
def Bo (D:Nat)(v:BV)(nv rv:List Value)(g:Nat):Prop:=∃i,BW nv rv i/\(vB D v nv rv i).ownBlock=some g
structure Ai (w w':World)(F F':Nat->Prop):Prop where
 os:w'.os=w.os
 tape:w'.tape=w.tape
 output:w'.output=w.output
 size:w.heap.size<=w'.heap.size
 block:∀g,g<w.heap.size->¬F g->w'.heap[g]? = w.heap[g]?
 news:∀g,F' g->F g\/w.heap.size<=g
theorem Ai.refl (w:World)(F:Nat->Prop):Ai w w F F:=⟨rfl,rfl,rfl,KAM _,fun _ _ _=>rfl,fun _ h => .inl h⟩
theorem Ai.trans {a b c:World}{F G H:Nat->Prop}(h:Ai a b F G)(k:Ai b c G H):Ai a c F H:=
 ⟨k.os.trans h.os,k.tape.trans h.tape,k.output.trans h.output,KAU h.size k.size,fun g hg hF=>(k.block g (KAC hg h.size) (fun hG=>by
  rcases h.news g hG with h1|h1
  . exact hF h1
  . omega)).trans (h.block g hg hF),fun g hg=>by
  rcases k.news g hg with h1|h1
  . exact h.news g h1
  . exact .inr (KAU h.size h1)⟩
theorem Ai.keep {a w w':World}{F G:Nat->Prop}(h:Ai a w F G)(k:AC w w'):Ai a w' F G:=
 h.trans ⟨Below.os k,Below.tape k,Below.output k,k.size,fun g hg _=>KAW k g hg,fun _ h => .inl h⟩
theorem Ai.grown {a w w':World}{F G:Nat->Prop}{row:Option Nat}(h:Ai a w F G)(hg:w.grownBy w' row)(hr:∀k,row=some k->G k):Ai a w' F G:=
 h.trans ⟨hg.os,hg.tape,hg.output,hg.size,fun g h1 h2=>hg.block g h1 (fun e=>h2 (hr g e.symm)),fun _ h => .inl h⟩
theorem Ai.low {a w:World}{F G:Nat->Prop}{m:Nat}(h:Ai a w F G)(hs:m<=a.heap.size)(hF:∀g,F g->m<=g):Below m a w:=
 ⟨h.os,h.tape,h.output,h.size,fun g hg=>h.block g (KAC hg hs) (fun e=>by have:=hF g e;omega)⟩
theorem Ai.cell {a w:World}{F G:Nat->Prop}(h:Ai a w F G){g j:Nat}(hg:g<a.heap.size)(hF:¬F g):w.cell? ⟨g,j,none⟩=a.cell? ⟨g,j,none⟩:=KAw (w:=a) (h.block g hg hF)
theorem Ai.more {a w:World}{F G G':Nat->Prop}(h:Ai a w F G)(hn:∀g,G' g->F g\/a.heap.size<=g):Ai a w F G':=⟨h.os,h.tape,h.output,h.size,h.block,hn⟩
section
variable {w w':World} {m D:Nat} {v:BV} {nv rv:List Value} {bs N:Nat} {AA:List (List Dd)} {b:Bd}
theorem AU.keep (h:AU w m D v nv rv bs N AA b)(k:AC w w'):AU w' m D v nv rv bs N AA b:=
 ⟨h.Ag.keep k,h.ln,h.lr,h.work.kept k.grownBy (by simp),KAU h.top k.size,h.out⟩
theorem AU.far (h:AU w m D v nv rv bs N AA b){row:Option Nat}(hg:w.grownBy w' row)(hr:∀k,row=some k->k<m/\(k<bs\/N<=k)):AU w' m D v nv rv bs N AA b:=
 ⟨h.Ag.far hg (fun i hi=>by
  cases e:(Ay D v nv rv b i).v.ownBlock with
  |none=>exact .inl rfl
  |some k=>exact .inr (fun e'=>by have:=(h.Ag.lt hi k e).1;have:=hr k e'.symm;omega)),h.ln,h.lr,h.work.kept hg (fun g hg'=>(hr g hg').2),KAU h.top hg.size,h.out⟩
theorem AU.drewN (h:AU w m D v nv rv bs N AA b)(n:Nat):AU (w.drewN n) m D v nv rv bs N AA b:=h.keep ((AC.refl w).drewN n)
theorem AU.drew (h:AU w m D v nv rv bs N AA b):AU w.drew m D v nv rv bs N AA b:=h.keep (AC.refl w).drew
theorem AU.set (h:AU w m D v nv rv bs N AA b)(i:BI)(hi:BW nv rv i){r:Rw}(hg:w.grownBy w' (Ay D v nv rv b i).v.ownBlock)
  (hb:r.v.ownBlock=(Ay D v nv rv b i).v.ownBlock\/r.v.ownBlock=some w.heap.size\/r.v.ownBlock=none) (ho:r.own w' m)
  {v':BV} {nv' rv':List Value} {b':Bd} (hl:nv'.length=nv.length) (hl2:rv'.length=rv.length) (hn:b'.AJ.length=b.AJ.length) (hr:b'.rws.length=b.rws.length) (hW:v'.W=v.W)
  (hf:∀j,Ay D v' nv' rv' b' j=JR (Ay D v nv rv b) i r j):AU w' m D v' nv' rv' bs N AA b':=by
 have hlive:∀j,BW nv' rv' j->BW nv rv j:=fun j=>by cases j<;>simp[BW,hl,hl2]
 refine⟨(h.Ag.set hi hg hb ho).congr hlive (fun j _=>hf j),by rw[hl,hn];exact h.ln,by rw[hl2,hr];exact h.lr,?_,KAU h.top hg.size,fun j hj k hk=>?_⟩
 ·
  rw[hW];exact h.work.kept hg (fun g hg'=>h.out i hi g hg')
 ·
  rw[hf j] at hk;by_cases e:j=i
  ·
   subst e;rw[Ao] at hk;rcases hb with hb|hb|hb
   . rw[hb] at hk;exact h.out j hi k hk
   ·
    rw[hb] at hk;have:=KAI hk;have:=h.top;right;omega
   . rw[hb] at hk;cases hk
  ·
   rw[AV _ _ e] at hk;exact h.out j (hlive j hj) k hk
theorem AU.blk (h:AU w m D v nv rv bs N AA b):∀g,Bo D v nv rv g->m<=g/\g<w.heap.size/\(g<bs\/N<=g):=fun g ⟨i,hi,e⟩=>by
 rw[<-Lc D v nv rv b i] at e;exact⟨(h.Ag.lt hi g e).1,(h.Ag.lt hi g e).2,h.out i hi g e⟩
theorem AU.base (h:AU w m D v nv rv bs N AA b):m<=D/\D<w.heap.size:=h.Ag.lt (i:= .bd) trivial D rfl
theorem AU.ge (h:AU w m D v nv rv bs N AA b)(i:BI)(hi:BW nv rv i):∀k,(Ay D v nv rv b i).v.ownBlock=some k->m<=k:=fun k hk=>(h.Ag.lt hi k hk).1
theorem AU.cells (h:AU w m D v nv rv bs N AA b):w.cell? ⟨D,0,none⟩=some v.W/\w.cell? ⟨D,1,none⟩=some v.P/\w.cell? ⟨D,2,none⟩=some v.L/\w.cell? ⟨D,3,none⟩=some v.N /\
  w.cell? ⟨D,4,none⟩=some v.X/\w.cell? ⟨D,5,none⟩=some v.S/\w.cell? ⟨D,6,none⟩=some v.F/\w.cell? ⟨D,7,none⟩=some v.R:=by
 have o:=h.Ag.own .bd trivial;have c:=fun j hj=>KAp (show w.ownsRow m 103 8 (.slice (some ⟨D,0,none⟩) 1 1) 1 [v.W,v.P,v.L,v.N,v.X,v.S,v.F,v.R] from o) j hj
 exact⟨c 0 (by decide),c 1 (by decide),c 2 (by decide),c 3 (by decide),c 4 (by decide),c 5 (by decide),c 6 (by decide),c 7 (by decide)⟩
theorem AU.free (h:AU w m D v nv rv bs N AA b)(j:Nat):w.frozen? ⟨D,j,none⟩=false:=
 KC5 (show w.ownsRow m 103 8 (.slice (some ⟨D,0,none⟩) 1 1) 1 [v.W,v.P,v.L,v.N,v.X,v.S,v.F,v.R] from h.Ag.own .bd trivial) j
theorem AU.oP (h:AU w m D v nv rv bs N AA b):A8 w m v.P b.AM:=h.Ag.own .AM trivial
theorem AU.oL (h:AU w m D v nv rv bs N AA b):A8 w m v.L b.AQ:=h.Ag.own .AQ trivial
theorem AU.oX (h:AU w m D v nv rv bs N AA b):A8 w m v.X b.AK:=h.Ag.own .AK trivial
theorem AU.oS (h:AU w m D v nv rv bs N AA b):A8 w m v.S b.sn:=h.Ag.own .sn trivial
theorem AU.oF (h:AU w m D v nv rv bs N AA b):A8 w m v.F b.fr:=h.Ag.own .fr trivial
theorem AU.oN (h:AU w m D v nv rv bs N AA b){c:Nat}(hc:c<b.AJ.length):B5 cN 155 3 w m (nv.getD c AF) (b.AJ.getD c []):=h.Ag.own (.nt c) (by show c<nv.length;rw[h.ln];exact hc)
theorem AU.oR (h:AU w m D v nv rv bs N AA b){p:Nat}(hp:p<b.rws.length):A8 w m (rv.getD p AF) (b.rws.getD p []):=h.Ag.own (.rw p) (by show p<rv.length;rw[h.lr];exact hp)
theorem AU.hN (h:AU w m D v nv rv bs N AA b):∃a cap,v.N = .slice a b.AJ.length cap/\(b.AJ=[]\/∃g,a=some ⟨g,0,none⟩/\g<w.heap.size/\∀i,i<b.AJ.length->w.cell? ⟨g,i,none⟩=some (nv.getD i AF)):=by
 obtain⟨a,cap,e,h1⟩:=Bu (h.Ag.own .AJ trivial);rw[h.ln] at e;refine⟨a,cap,e,?_⟩;rcases h1 with h1|⟨g,e1,e2,e3⟩
 ·
  left;have:=h.ln;rw[h1] at this;exact KAZ this.symm
 . exact .inr ⟨g,e1,e2,fun i hi=>e3 i (by rw[h.ln];exact hi)⟩
theorem AU.hR (h:AU w m D v nv rv bs N AA b):∃a cap,v.R = .slice a b.rws.length cap/\(b.rws=[]\/∃g,a=some ⟨g,0,none⟩/\g<w.heap.size/\∀i,i<b.rws.length->w.cell? ⟨g,i,none⟩=some (rv.getD i AF)):=by
 obtain⟨a,cap,e,h1⟩:=Bu (h.Ag.own .rws trivial);rw[h.lr] at e;refine⟨a,cap,e,?_⟩;rcases h1 with h1|⟨g,e1,e2,e3⟩
 ·
  left;have:=h.lr;rw[h1] at this;exact KAZ this.symm
 . exact .inr ⟨g,e1,e2,fun i hi=>e3 i (by rw[h.lr];exact hi)⟩
theorem AU.rd (h:AU w m D v nv rv bs N AA b):Cw w v AA b:=by
 refine⟨h.work.rd,h.oP.rd,h.oL.rd,?_,h.oX.rd,h.oS.rd,h.oF.rd,?_⟩
 ·
  obtain⟨a,cap,e,h1⟩:=h.hN;refine⟨a,cap,e,?_⟩;rcases h1 with h1|⟨g,e1,e2,e3⟩
  . exact .inl h1
  . exact .inr ⟨g,0,e1,e2,fun i hi=>⟨_,by rw[KBC];exact e3 i hi,B5.rd Eg (h.oN hi)⟩⟩
 ·
  obtain⟨a,cap,e,h1⟩:=h.hR;refine⟨a,cap,e,?_⟩;rcases h1 with h1|⟨g,e1,e2,e3⟩
  . exact .inl h1
  . exact .inr ⟨g,0,e1,e2,fun i hi=>⟨_,by rw[KBC];exact e3 i hi,(h.oR hi).rd⟩⟩
theorem Jt {zs:List Int}{u:Value}{g cap k:Nat}{x:Int}(o:(Bk zs u).own w m)(hv:u = .slice (some ⟨g,0,none⟩) zs.length cap):(Bk (zs.set k x) u).own (w.setCell ⟨g,k,none⟩ (.int .i64 x)) m/\w.grownBy (w.setCell ⟨g,k,none⟩ (.int .i64 x)) u.ownBlock/\w.frozen? ⟨g,k,none⟩=false:=by
 obtain⟨h1,h2,h3⟩:=Rw.put o (g:=g) (cap:=cap) (k:=k) hv (.int .i64 x);refine⟨?_,h2,h3⟩
 have e:(Bk (zs.set k x) u)={ Bk zs u with xs:=(Bk zs u).xs.set k (.int .i64 x) }:=by
  simp[Bk,List.map_set]
 rw[e];exact h1
theorem AU.qK (h:AU w m D v nv rv bs N AA b){g cap k:Nat}{x:Int}(hv:v.P = .slice (some ⟨g,0,none⟩) b.AM.length cap):AU (w.setCell ⟨g,k,none⟩ (.int .i64 x)) m D v nv rv bs N AA { b with AM:=b.AM.set k x }:=by
 obtain⟨h1,h2,_⟩:=Jt (k:=k) (x:=x) (h.Ag.own .AM trivial) hv;exact h.set .AM trivial (r:=Bk (b.AM.set k x) v.P) h2 (.inl rfl) h1 rfl rfl rfl rfl rfl (fun j=>by cases j<;>rfl)
theorem AU.Ek (h:AU w m D v nv rv bs N AA b){g cap k:Nat}{x:Int}(hv:v.L = .slice (some ⟨g,0,none⟩) b.AQ.length cap):AU (w.setCell ⟨g,k,none⟩ (.int .i64 x)) m D v nv rv bs N AA { b with AQ:=b.AQ.set k x }:=by
 obtain⟨h1,h2,_⟩:=Jt (k:=k) (x:=x) (h.Ag.own .AQ trivial) hv;exact h.set .AQ trivial (r:=Bk (b.AQ.set k x) v.L) h2 (.inl rfl) h1 rfl rfl rfl rfl rfl (fun j=>by cases j<;>rfl)
theorem AU.wK (h:AU w m D v nv rv bs N AA b){g cap k:Nat}{x:Int}(hv:v.X = .slice (some ⟨g,0,none⟩) b.AK.length cap):AU (w.setCell ⟨g,k,none⟩ (.int .i64 x)) m D v nv rv bs N AA { b with AK:=b.AK.set k x }:=by
 obtain⟨h1,h2,_⟩:=Jt (k:=k) (x:=x) (h.Ag.own .AK trivial) hv;exact h.set .AK trivial (r:=Bk (b.AK.set k x) v.X) h2 (.inl rfl) h1 rfl rfl rfl rfl rfl (fun j=>by cases j<;>rfl)
theorem AU.jv (h:AU w m D v nv rv bs N AA b){g cap k:Nat}{x:Int}(hv:v.S = .slice (some ⟨g,0,none⟩) b.sn.length cap):AU (w.setCell ⟨g,k,none⟩ (.int .i64 x)) m D v nv rv bs N AA { b with sn:=b.sn.set k x }:=by
 obtain⟨h1,h2,_⟩:=Jt (k:=k) (x:=x) (h.Ag.own .sn trivial) hv;exact h.set .sn trivial (r:=Bk (b.sn.set k x) v.S) h2 (.inl rfl) h1 rfl rfl rfl rfl rfl (fun j=>by cases j<;>rfl)
theorem AU.wJ (h:AU w m D v nv rv bs N AA b){g cap k:Nat}{x:Int}(hv:v.F = .slice (some ⟨g,0,none⟩) b.fr.length cap):AU (w.setCell ⟨g,k,none⟩ (.int .i64 x)) m D v nv rv bs N AA { b with fr:=b.fr.set k x }:=by
 obtain⟨h1,h2,_⟩:=Jt (k:=k) (x:=x) (h.Ag.own .fr trivial) hv;exact h.set .fr trivial (r:=Bk (b.fr.set k x) v.F) h2 (.inl rfl) h1 rfl rfl rfl rfl rfl (fun j=>by cases j<;>rfl)
theorem AU.stay (h:AU w m D v nv rv bs N AA b)(i:BI)(hi:BW nv rv i)(hb:i≠.bd)(hg:w.grownBy w' (Ay D v nv rv b i).v.ownBlock)(j:Nat):w'.cell? ⟨D,j,none⟩=w.cell? ⟨D,j,none⟩:=by
 have hne:some D≠(Ay D v nv rv b i).v.ownBlock:=by
  rcases h.Ag.apart .bd i trivial hi (fun e=>hb e.symm) with e|e
  . cases e
  . exact e
 exact KAw (w:=w) (hg.block D h.base.2 hne)
theorem AU.Zy (h:AU w m D v nv rv bs N AA b){p:Nat}(hp:p<b.rws.length){u:Value}{zs:List Int}(hg:w.grownBy w' (rv.getD p AF).ownBlock)
  (hb:u.ownBlock=(rv.getD p AF).ownBlock\/u.ownBlock=some w.heap.size\/u.ownBlock=none) (ho:A8 w' m u zs) {g cap:Nat} (hv:v.R = .slice (some ⟨g,0,none⟩) b.rws.length cap):
  AU (w'.setCell ⟨g,p,none⟩ u) m D v nv (rv.set p u) bs N AA { b with rws:=b.rws.set p zs }/\w'.cell? ⟨g,p,none⟩=some (rv.getD p AF)/\w'.frozen? ⟨g,p,none⟩=false:=by
 have hp':p<rv.length:=by rw[h.lr];exact hp
 have hv':v.R = .slice (some ⟨g,0,none⟩) rv.length cap:=by rw[h.lr];exact hv
 have F1:=h.Ag.set (i:= .rw p) hp' (r:=Bk zs u) hg hb ho;have o1:(Em 25 rv v.R).own w' m:=by have:=F1.own .rws trivial;rw[AV _ _ (by simp)] at this;exact this
 obtain⟨q1,q2,q3⟩:=Rw.put o1 (g:=g) (cap:=cap) (k:=p) hv' u;have F2:=F1.set (i:= .rws) trivial (r:={ Em 25 rv v.R with xs:=rv.set p u }) (by rw[AV _ _ (by simp)];exact q2) (.inl (by rw[AV _ _ (by simp)];rfl)) q1
 have hf:∀j,Ay D v nv (rv.set p u) { b with rws:=b.rws.set p zs } j=JR (JR (Ay D v nv rv b) (.rw p) (Bk zs u)) .rws { Em 25 rv v.R with xs:=rv.set p u } j:=fun j=>by
  cases j with
  |rws=>
   rw[Ao];simp[Ay,Em]
  |rw q=>
   rw[AV _ _ (by simp)];show Bk ((b.rws.set p zs).getD q []) ((rv.set p u).getD q AF)=_;rw[BR _ _ _ _ hp,BR _ _ _ _ hp'];by_cases e:q=p
   . subst e;rw[Ao];simp
   . rw[AV _ _ (by simpa using e),KAQ e,KAQ e];rfl
  |_=>rw[AV _ _ (by simp),AV _ _ (by simp)];rfl
 refine⟨⟨F2.congr (fun j=>by cases j<;>simp[BW]) (fun j _=>hf j),h.ln,by simpa using h.lr,?_,?_,fun j hj k hk=>?_⟩,?_,q3⟩
 . exact (h.work.kept hg (fun g' hg'=>h.out (.rw p) hp' g' hg')).kept q2 (fun g' hg'=>h.out .rws trivial g' hg')
 . exact KAU h.top (KAU hg.size q2.size)
 ·
  rw[hf j] at hk;by_cases e:j = .rws
  ·
   subst e;rw[Ao] at hk;exact h.out .rws trivial k hk
  ·
   rw[AV _ _ e] at hk;by_cases e2:j = .rw p
   ·
    subst e2;rw[Ao] at hk;rcases hb with hb|hb|hb
    . rw[show (Bk zs u).v.ownBlock=u.ownBlock from rfl,hb] at hk;exact h.out (.rw p) hp' k hk
    ·
     rw[show (Bk zs u).v.ownBlock=u.ownBlock from rfl,hb] at hk;have:=KAI hk;have:=h.top;right;omega
    . rw[show (Bk zs u).v.ownBlock=u.ownBlock from rfl,hb] at hk;cases hk
   ·
    rw[AV _ _ e2] at hk;exact h.out j (by cases j<;>simp[BW] at hj ⊢<;>exact hj) k hk
 ·
  have:=Rw.cell o1 (g:=g) (cap:=cap) (k:=p) hv' (by show p<rv.length*1;omega);rw[this,IT];show rv[p]? = _;rw[KAH hp'];rfl
theorem AU.mM (h:AU w m D v nv rv bs N AA b){c:Nat}(hc:c<b.AJ.length){u:Value}{ns:List Nt}(hg:w.grownBy w' (nv.getD c AF).ownBlock)
  (hb:u.ownBlock=(nv.getD c AF).ownBlock\/u.ownBlock=some w.heap.size\/u.ownBlock=none) (ho:B5 cN 155 3 w' m u ns) {g cap:Nat} (hv:v.N = .slice (some ⟨g,0,none⟩) b.AJ.length cap):
  AU (w'.setCell ⟨g,c,none⟩ u) m D v (nv.set c u) rv bs N AA { b with AJ:=b.AJ.set c ns }/\w'.cell? ⟨g,c,none⟩=some (nv.getD c AF)/\w'.frozen? ⟨g,c,none⟩=false:=by
 have hc':c<nv.length:=by rw[h.ln];exact hc
 have hv':v.N = .slice (some ⟨g,0,none⟩) nv.length cap:=by rw[h.ln];exact hv
 have F1:=h.Ag.set (i:= .nt c) hc' (r:=Px ns u) hg hb ho;have o1:(Em 151 nv v.N).own w' m:=by have:=F1.own .AJ trivial;rw[AV _ _ (by simp)] at this;exact this
 obtain⟨q1,q2,q3⟩:=Rw.put o1 (g:=g) (cap:=cap) (k:=c) hv' u;have F2:=F1.set (i:= .AJ) trivial (r:={ Em 151 nv v.N with xs:=nv.set c u }) (by rw[AV _ _ (by simp)];exact q2) (.inl (by rw[AV _ _ (by simp)];rfl)) q1
 have hf:∀j,Ay D v (nv.set c u) rv { b with AJ:=b.AJ.set c ns } j=JR (JR (Ay D v nv rv b) (.nt c) (Px ns u)) .AJ { Em 151 nv v.N with xs:=nv.set c u } j:=fun j=>by
  cases j with
  |AJ=>
   rw[Ao];simp[Ay,Em]
  |nt q=>
   rw[AV _ _ (by simp)];show Px ((b.AJ.set c ns).getD q []) ((nv.set c u).getD q AF)=_;rw[BR _ _ _ _ hc,BR _ _ _ _ hc'];by_cases e:q=c
   . subst e;rw[Ao];simp
   . rw[AV _ _ (by simpa using e),KAQ e,KAQ e];rfl
  |_=>rw[AV _ _ (by simp),AV _ _ (by simp)];rfl
 refine⟨⟨F2.congr (fun j=>by cases j<;>simp[BW]) (fun j _=>hf j),by simpa using h.ln,h.lr,?_,?_,fun j hj k hk=>?_⟩,?_,q3⟩
 . exact (h.work.kept hg (fun g' hg'=>h.out (.nt c) hc' g' hg')).kept q2 (fun g' hg'=>h.out .AJ trivial g' hg')
 . exact KAU h.top (KAU hg.size q2.size)
 ·
  rw[hf j] at hk;by_cases e:j = .AJ
  ·
   subst e;rw[Ao] at hk;exact h.out .AJ trivial k hk
  ·
   rw[AV _ _ e] at hk;by_cases e2:j = .nt c
   ·
    subst e2;rw[Ao] at hk;rcases hb with hb|hb|hb
    . rw[show (Px ns u).v.ownBlock=u.ownBlock from rfl,hb] at hk;exact h.out (.nt c) hc' k hk
    ·
     rw[show (Px ns u).v.ownBlock=u.ownBlock from rfl,hb] at hk;have:=KAI hk;have:=h.top;right;omega
    . rw[show (Px ns u).v.ownBlock=u.ownBlock from rfl,hb] at hk;cases hk
   ·
    rw[AV _ _ e2] at hk;exact h.out j (by cases j<;>simp[BW] at hj ⊢<;>exact hj) k hk
 ·
  have:=Rw.cell o1 (g:=g) (cap:=cap) (k:=c) hv' (by show c<nv.length*1;omega);rw[this,IT];show nv[c]? = _;rw[KAH hc'];rfl
theorem AU.jO (h:AU w m D v nv rv bs N AA b){c:Nat}(hc:c<b.AJ.length){u:Value}{ns:List Nt}(kw:AC w w')
  (hb:∀k,u.ownBlock=some k->w.heap.size<=k) (ho:B5 cN 155 3 w' m u ns) {g cap:Nat} (hv:v.N = .slice (some ⟨g,0,none⟩) b.AJ.length cap):
  AU (w'.setCell ⟨g,c,none⟩ u) m D v (nv.set c u) rv bs N AA { b with AJ:=b.AJ.set c ns }/\w'.cell? ⟨g,c,none⟩=some (nv.getD c AF)/\w'.frozen? ⟨g,c,none⟩=false:=by
 have hc':c<nv.length:=by rw[h.ln];exact hc
 have hv':v.N = .slice (some ⟨g,0,none⟩) nv.length cap:=by rw[h.ln];exact hv
 have F1:=h.Ag.new (i:= .nt c) (r:=Px ns u) kw hb ho;have o1:(Em 151 nv v.N).own w' m:=by have:=F1.own .AJ trivial;rw[AV _ _ (by simp)] at this;exact this
 obtain⟨q1,q2,q3⟩:=Rw.put o1 (g:=g) (cap:=cap) (k:=c) hv' u;have F2:=F1.set (i:= .AJ) trivial (r:={ Em 151 nv v.N with xs:=nv.set c u }) (by rw[AV _ _ (by simp)];exact q2) (.inl (by rw[AV _ _ (by simp)];rfl)) q1
 have hf:∀j,Ay D v (nv.set c u) rv { b with AJ:=b.AJ.set c ns } j=JR (JR (Ay D v nv rv b) (.nt c) (Px ns u)) .AJ { Em 151 nv v.N with xs:=nv.set c u } j:=fun j=>by
  cases j with
  |AJ=>
   rw[Ao];simp[Ay,Em]
  |nt q=>
   rw[AV _ _ (by simp)];show Px ((b.AJ.set c ns).getD q []) ((nv.set c u).getD q AF)=_;rw[BR _ _ _ _ hc,BR _ _ _ _ hc'];by_cases e:q=c
   . subst e;rw[Ao];simp
   . rw[AV _ _ (by simpa using e),KAQ e,KAQ e];rfl
  |_=>rw[AV _ _ (by simp),AV _ _ (by simp)];rfl
 refine⟨⟨F2.congr (fun j=>by cases j<;>simp[BW]) (fun j _=>hf j),by simpa using h.ln,h.lr,?_,?_,fun j hj k hk=>?_⟩,?_,q3⟩
 . exact (h.work.kept kw.grownBy (by simp)).kept q2 (fun g' hg'=>h.out .AJ trivial g' hg')
 . exact KAU h.top (KAU kw.size q2.size)
 ·
  rw[hf j] at hk;by_cases e:j = .AJ
  ·
   subst e;rw[Ao] at hk;exact h.out .AJ trivial k hk
  ·
   rw[AV _ _ e] at hk;by_cases e2:j = .nt c
   ·
    subst e2;rw[Ao] at hk;have:=hb k hk;have:=h.top;right;omega
   ·
    rw[AV _ _ e2] at hk;exact h.out j (by cases j<;>simp[BW] at hj ⊢<;>exact hj) k hk
 ·
  have:=Rw.cell o1 (g:=g) (cap:=cap) (k:=c) hv' (by show c<nv.length*1;omega);rw[this,IT];show nv[c]? = _;rw[KAH hc'];rfl
theorem Mz {c:Nat}(hc:c<nv.length){u:Value}{g:Nat}(hg:Bo D v (nv.set c u) rv g):Bo D v nv rv g\/u.ownBlock=some g:=by
 obtain⟨i,hi,e⟩:=hg
 cases i with
 |nt q=>
  have hq:q<nv.length:=by simpa [BW] using hi
  have e:((nv.set c u).getD q AF).ownBlock=some g:=e;by_cases eq:q=c
  ·
   subst eq;rw[BR _ _ _ _ hq,KAP rfl] at e;exact .inr e
  ·
   rw[BR _ _ _ _ hc,KAQ eq] at e;exact .inl ⟨.nt q,hq,e⟩
 |rw q=>exact .inl ⟨.rw q,hi,e⟩
 |bd=>exact .inl ⟨.bd,trivial,e⟩
 |AM=>exact .inl ⟨.AM,trivial,e⟩
 |AQ=>exact .inl ⟨.AQ,trivial,e⟩
 |AJ=>exact .inl ⟨.AJ,trivial,e⟩
 |AK=>exact .inl ⟨.AK,trivial,e⟩
 |sn=>exact .inl ⟨.sn,trivial,e⟩
 |fr=>exact .inl ⟨.fr,trivial,e⟩
 |rws=>exact .inl ⟨.rws,trivial,e⟩
end
end
theorem AR:(Tryz.prog.info? 103).map (·.size)=some 8:=by kernel_rfl
theorem As (w:World)(g:Nat)(cs:Array Value):w.grownBy (w.setRow g cs) (some g):=
 ⟨rfl,rfl,rfl,by simp,fun k _ hk=>by
  unfold World.setRow;have hk':k≠g:=fun e=>hk (by rw[e])
  rw[KDB]
  simp[hk'.symm]⟩
theorem YL (w:World)(g:Nat)(t:TypeId)(old cs:Array Value)(fr:Nat×Nat)(h:w.heap[g]? = some (.cells old t fr)):(w.setRow g cs).heap[g]? = some (.cells cs t fr):=KBs w g old cs t fr h
theorem VD (w:World){m:Nat}(hm:m<=w.heap.size):Rw.own (w.alloc (.cells #[AF,AF,AF,AF,AF,AF,AF,AF] 103)) m ⟨103,8,.slice (some ⟨w.heap.size,0,none⟩) 1 1,1,[AF,AF,AF,AF,AF,AF,AF,AF]⟩:=
 ⟨rfl,.inr ⟨w.heap.size,1,_,rfl,hm,KAX w _,KAM _,by unfold maxLen;decide,rfl,rfl⟩⟩
theorem VE {w:World}{m D:Nat}{cs:List Value}{v:BV}(h:Rw.own w m ⟨103,8,.slice (some ⟨D,0,none⟩) 1 1,1,cs⟩):(∃old:Array Value,w.heap[D]? = some (.cells old 103 (0,0))/\old.size=8)/\(Hi D v).own (w.setRow D v.arr) m:=by
 rcases h.2 with ⟨e,_⟩|⟨g,cap,cur,e,hb,hg,hn,hm,hs,ht⟩
 . cases e
 ·
  simp only[KAT,KAg,KA6,KBX,KA8] at e;obtain⟨rfl,rfl⟩:=e;exact⟨⟨cur,hg,hs⟩,rfl,.inr ⟨D,1,v.arr,rfl,hb,YL w D _ _ _ _ hg,KAM _,hm,rfl,rfl⟩⟩
theorem Tryz.Ql:(Tryz.prog.info? 151).map (fun i=>(i.zero,i.size,i.bytes))=some (some (.slice none 0 0),1,24):=by kernel_rfl
theorem Cw.shapes {w:World}{v:BV}{AA:List (List Dd)}{b:Bd}(h:Cw w v AA b):
  ∃(aW aP aL aN aX aS aF aR:Option Addr) (cW cP cL cN cX cS cF cR:Nat),v=⟨.slice aW AA.length cW,.slice aP b.AM.length cP,.slice aL b.AQ.length cL,.slice aN b.AJ.length cN,.slice aX b.AK.length cX,.slice aS b.sn.length cS,.slice aF b.fr.length cF,.slice aR b.rws.length cR⟩:=by
 obtain⟨vW,vP,vL,vN,vX,vS,vF,vR⟩:=v;obtain⟨hW,hP,hL,hN,hX,hS,hF,hR⟩:=h;obtain⟨aW,cW,eW,-⟩:=hW;obtain⟨aP,cP,eP,-⟩:=hP;obtain⟨aL,cL,eL,-⟩:=hL;obtain⟨aN,cN,eN,-⟩:=hN;obtain⟨aX,cX,eX,-⟩:=hX;obtain⟨aS,cS,eS,-⟩:=hS;obtain⟨aF,cF,eF,-⟩:=hF;obtain⟨aR,cR,eR,-⟩:=hR;simp only at eW eP eL eN eX eS eF eR;exact⟨aW,aP,aL,aN,aX,aS,aF,aR,cW,cP,cL,cN,cX,cS,cF,cR,by rw[eW,eP,eL,eN,eX,eS,eF,eR]⟩
section
structure BT (w:World)(m:Nat)(v:BV)(nv rv:List Value)(bs N:Nat)(AA:List (List Dd))(b:Bd):Prop where
 Ag:GU w m (fun i=>BW nv rv i/\i≠.bd) (Ay 0 v nv rv b)
 ln:nv.length=b.AJ.length
 lr:rv.length=b.rws.length
 work:Jh w bs N v.W AA
 top:N<=w.heap.size
 out:∀i,BW nv rv i->i≠.bd->∀k,(Ay 0 v nv rv b i).v.ownBlock=some k->k<bs\/N<=k
section
variable {w w':World} {m D:Nat} {v:BV} {nv rv:List Value} {bs N:Nat} {AA:List (List Dd)} {b:Bd}
theorem Mi (D:Nat)(v:BV)(nv rv:List Value)(b:Bd){i:BI}(h:i≠.bd):Ay D v nv rv b i=Ay 0 v nv rv b i:=by cases i<;>first|rfl|exact absurd rfl h
theorem AU.val (h:AU w m D v nv rv bs N AA b):BT w m v nv rv bs N AA b:=
 ⟨h.Ag.congr (fun _ hi=>hi.1) (fun i hi=>(Mi D v nv rv b hi.2).symm),h.ln,h.lr,h.work,h.top,fun i hi hb k hk=>h.out i hi k (by rw[Mi D v nv rv b hb];exact hk)⟩
theorem BT.keep (h:BT w m v nv rv bs N AA b)(k:AC w w'):BT w' m v nv rv bs N AA b:=
 ⟨h.Ag.keep k,h.ln,h.lr,h.work.kept k.grownBy (by simp),KAU h.top k.size,h.out⟩
theorem BT.box (h:BT w m v nv rv bs N AA b)(hm:m<=w.heap.size):AU (w.alloc (.cells v.arr 103)) m w.heap.size v nv rv bs N AA b:=by
 have k:AC w (w.alloc (.cells v.arr 103)):=(AC.refl w).alloc _
 have ho:(Hi w.heap.size v).own (w.alloc (.cells v.arr 103)) m:=by
  refine⟨rfl,.inr ⟨w.heap.size,1,v.arr,rfl,hm,KAX w _,KAM _,by decide,rfl,?_⟩⟩;rfl
 have F:=h.Ag.add (i:= .bd) (fun hi=>hi.2 rfl) (r:=Hi w.heap.size v) rfl k ho (fun q hq=>by have e:w.heap.size=q:=KAI hq;omega);have hk:=h.keep k;refine⟨F.congr (fun i hi=>?_) (fun i hi=>?_),h.ln,h.lr,hk.work,hk.top,fun i hi q hq=>?_⟩
 ·
  by_cases e:i = .bd
  . exact .inr e
  . exact .inl ⟨hi,e⟩
 ·
  by_cases e:i = .bd
  . subst e;rw[Ao];rfl
  . rw[AV _ _ e];exact Mi _ _ _ _ _ e
 ·
  by_cases e:i = .bd
  ·
   subst e;have:w.heap.size=q:=KAI hq;have:=h.top;right;omega
  ·
   rw[Mi _ _ _ _ _ e] at hq;exact h.out i hi e q hq
theorem BT.rd0 (h:BT w m v nv rv bs N AA b):Cw w v AA b:=by
 have oN:∀ {c:Nat},c<b.AJ.length->B5 cN 155 3 w m (nv.getD c AF) (b.AJ.getD c []):=fun {c} hc=>h.Ag.own (.nt c) ⟨by show c<nv.length;rw[h.ln];exact hc,by simp⟩
 have oR:∀ {p:Nat},p<b.rws.length->A8 w m (rv.getD p AF) (b.rws.getD p []):=fun {p} hp=>h.Ag.own (.rw p) ⟨by show p<rv.length;rw[h.lr];exact hp,by simp⟩
 have o1:A8 w m v.P b.AM:=h.Ag.own .AM ⟨trivial,by simp⟩;have o2:A8 w m v.L b.AQ:=h.Ag.own .AQ ⟨trivial,by simp⟩;have o3:A8 w m v.X b.AK:=h.Ag.own .AK ⟨trivial,by simp⟩;have o4:A8 w m v.S b.sn:=h.Ag.own .sn ⟨trivial,by simp⟩;have o5:A8 w m v.F b.fr:=h.Ag.own .fr ⟨trivial,by simp⟩;refine⟨h.work.rd,o1.rd,o2.rd,?_,o3.rd,o4.rd,o5.rd,?_⟩
 ·
  obtain⟨a,cap,e,h1⟩:=Bu (h.Ag.own .AJ ⟨trivial,by simp⟩);rw[h.ln] at e;refine⟨a,cap,e,?_⟩;rcases h1 with h1|⟨g,e1,e2,e3⟩
  ·
   left;have:=h.ln;rw[h1] at this;exact KAZ this.symm
  . exact .inr ⟨g,0,e1,e2,fun i hi=>⟨_,by rw[KBC];exact e3 i (by rw[h.ln];exact hi),B5.rd Eg (oN hi)⟩⟩
 ·
  obtain⟨a,cap,e,h1⟩:=Bu (h.Ag.own .rws ⟨trivial,by simp⟩);rw[h.lr] at e;refine⟨a,cap,e,?_⟩;rcases h1 with h1|⟨g,e1,e2,e3⟩
  ·
   left;have:=h.lr;rw[h1] at this;exact KAZ this.symm
  . exact .inr ⟨g,0,e1,e2,fun i hi=>⟨_,by rw[KBC];exact e3 i (by rw[h.lr];exact hi),(oR hi).rd⟩⟩
theorem GU.BK {ι:Type}{m':Nat}{live:ι->Prop}{R:ι->Rw}(h:GU w m live R)(hm:m'<=m):GU w m' live R:=
 ⟨fun i hi=>by
  have o:=h.own i hi;refine⟨o.1,?_⟩;rcases o.2 with q|⟨g,cap,cur,e,hg,r⟩
  . exact .inl q
  . exact .inr ⟨g,cap,cur,e,KAU hm hg,r⟩,h.apart⟩
theorem BT.BK {m':Nat}(h:BT w m v nv rv bs N AA b)(hm:m'<=m):BT w m' v nv rv bs N AA b:=⟨h.Ag.BK hm,h.ln,h.lr,h.work,h.top,h.out⟩
theorem AU.MA (h:AU w m D v nv rv bs N AA b):w.heap[D]? = some (.cells v.arr 103 (0,0)):=by
 have o:=h.Ag.own .bd trivial;rcases o.2 with ⟨e,_⟩|⟨g,cap,cur,e,_,hg,_,_,hs,ht⟩
 ·
  have e:Value.slice (some ⟨D,0,none⟩) 1 1 = .slice none 0 0:=e;simp at e
 ·
  have e:Value.slice (some ⟨D,0,none⟩) 1 1 = .slice (some ⟨g,0,none⟩) 1 cap:=e;simp only[KAT,KAg,KA6,KBX,KA8] at e;obtain⟨rfl,rfl⟩:=e;have hs:cur.size=1*8:=hs;have ht:cur.toList.take (1*8)=[v.W,v.P,v.L,v.N,v.X,v.S,v.F,v.R]:=ht;rw[KBS (by rw[KCJ];omega)] at ht;have:cur=v.arr:=Array.ext' ht;rw[hg,this];rfl
end
end
section
def BV.Sl (v:BV):Prop:=∃(aW aP aL aN aX aS aF aR:Option Addr) (nW nP nL nN nX nS nF nR cW cP cL cQ cX cS cF cR:Nat),v=⟨.slice aW nW cW,.slice aP nP cP,.slice aL nL cL,.slice aN nN cQ,.slice aX nX cX,.slice aS nS cS,.slice aF nF cF,.slice aR nR cR⟩
theorem Cw.sl {w:World}{v:BV}{AA:List (List Dd)}{b:Bd}(h:Cw w v AA b):v.Sl:=by
 obtain⟨aW,aP,aL,aN,aX,aS,aF,aR,cW,cP,cL,cN,cX,cS,cF,cR,rfl⟩:=h.shapes;exact⟨_,_,_,_,_,_,_,_,_,_,_,_,_,_,_,_,_,_,_,_,_,_,_,_,rfl⟩
def EP (rv:List Value):BI->Prop
 | .AM=>True
 | .AQ=>True
 | .rws=>True
 | .rw p=>p<rv.length
 |_=>False
structure Dt (w:World)(m:Nat)(v:BV)(rv:List Value)(b:Bd):Prop where
 Ag:GU w m (EP rv) (Ay 0 v [] rv b)
 lr:rv.length=b.rws.length
def Fg (v:BV)(rv:List Value)(g:Nat):Prop:=∃i,EP rv i/\(vB 0 v [] rv i).ownBlock=some g
section
variable {w w':World} {m:Nat} {v:BV} {rv:List Value} {b:Bd}
theorem Dt.keep (h:Dt w m v rv b)(k:AC w w'):Dt w' m v rv b:=⟨h.Ag.keep k,h.lr⟩
theorem Dt.blk (h:Dt w m v rv b):∀g,Fg v rv g->m<=g/\g<w.heap.size:=fun g ⟨i,hi,e⟩=>by
 rw[<-Lc 0 v [] rv b i] at e;exact h.Ag.lt hi g e
theorem Dt.oP (h:Dt w m v rv b):A8 w m v.P b.AM:=h.Ag.own .AM trivial
theorem Dt.oL (h:Dt w m v rv b):A8 w m v.L b.AQ:=h.Ag.own .AQ trivial
theorem Dt.oR (h:Dt w m v rv b){p:Nat}(hp:p<b.rws.length):A8 w m (rv.getD p AF) (b.rws.getD p []):=h.Ag.own (.rw p) (by show p<rv.length;rw[h.lr];exact hp)
theorem Dt.hR (h:Dt w m v rv b):∃a cap,v.R = .slice a b.rws.length cap/\(b.rws=[]\/∃g,a=some ⟨g,0,none⟩/\g<w.heap.size/\∀i,i<b.rws.length->w.cell? ⟨g,i,none⟩=some (rv.getD i AF)):=by
 obtain⟨a,cap,e,h1⟩:=Bu (h.Ag.own .rws trivial);rw[h.lr] at e;refine⟨a,cap,e,?_⟩;rcases h1 with h1|⟨g,e1,e2,e3⟩
 ·
  left;have:=h.lr;rw[h1] at this;exact KAZ this.symm
 . exact .inr ⟨g,e1,e2,fun i hi=>e3 i (by rw[h.lr];exact hi)⟩
theorem Dt.qK (h:Dt w m v rv b){g cap k:Nat}{x:Int}(hv:v.P = .slice (some ⟨g,0,none⟩) b.AM.length cap):Dt (w.setCell ⟨g,k,none⟩ (.int .i64 x)) m v rv { b with AM:=b.AM.set k x }:=by
 obtain⟨h1,h2,_⟩:=Jt (k:=k) (x:=x) (h.Ag.own .AM trivial) hv;refine⟨(h.Ag.set (i:= .AM) trivial (r:=Bk (b.AM.set k x) v.P) h2 (.inl rfl) h1).congr (fun _ hi=>hi) (fun j _=>by cases j<;>rfl),h.lr⟩
theorem Dt.Ek (h:Dt w m v rv b){g cap k:Nat}{x:Int}(hv:v.L = .slice (some ⟨g,0,none⟩) b.AQ.length cap):Dt (w.setCell ⟨g,k,none⟩ (.int .i64 x)) m v rv { b with AQ:=b.AQ.set k x }:=by
 obtain⟨h1,h2,_⟩:=Jt (k:=k) (x:=x) (h.Ag.own .AQ trivial) hv;refine⟨(h.Ag.set (i:= .AQ) trivial (r:=Bk (b.AQ.set k x) v.L) h2 (.inl rfl) h1).congr (fun _ hi=>hi) (fun j _=>by cases j<;>rfl),h.lr⟩
theorem Dt.Zy (h:Dt w m v rv b){p:Nat}(hp:p<b.rws.length){u:Value}{zs:List Int}(hg:w.grownBy w' (rv.getD p AF).ownBlock)
  (hb:u.ownBlock=(rv.getD p AF).ownBlock\/u.ownBlock=some w.heap.size\/u.ownBlock=none) (ho:A8 w' m u zs) {g cap:Nat} (hv:v.R = .slice (some ⟨g,0,none⟩) b.rws.length cap):
  Dt (w'.setCell ⟨g,p,none⟩ u) m v (rv.set p u) { b with rws:=b.rws.set p zs }/\w'.cell? ⟨g,p,none⟩=some (rv.getD p AF)/\w'.frozen? ⟨g,p,none⟩=false:=by
 have hp':p<rv.length:=by rw[h.lr];exact hp
 have hv':v.R = .slice (some ⟨g,0,none⟩) rv.length cap:=by rw[h.lr];exact hv
 have F1:=h.Ag.set (i:= .rw p) hp' (r:=Bk zs u) hg hb ho;have o1:(Em 25 rv v.R).own w' m:=by have:=F1.own .rws trivial;rw[AV _ _ (by simp)] at this;exact this
 obtain⟨q1,q2,q3⟩:=Rw.put o1 (g:=g) (cap:=cap) (k:=p) hv' u;have F2:=F1.set (i:= .rws) trivial (r:={ Em 25 rv v.R with xs:=rv.set p u }) (by rw[AV _ _ (by simp)];exact q2) (.inl (by rw[AV _ _ (by simp)];rfl)) q1;refine⟨⟨F2.congr (fun j=>by cases j<;>simp[EP]) (fun j _=>?_),by simpa using h.lr⟩,?_,q3⟩
 ·
  cases j with
  |rws=>
   rw[Ao];simp[Ay,Em]
  |rw q=>
   rw[AV _ _ (by simp)];show Bk ((b.rws.set p zs).getD q []) ((rv.set p u).getD q AF)=_;rw[BR _ _ _ _ hp,BR _ _ _ _ hp'];by_cases e:q=p
   . subst e;rw[Ao];simp
   . rw[AV _ _ (by simpa using e),KAQ e,KAQ e];rfl
  |_=>rw[AV _ _ (by simp),AV _ _ (by simp)];rfl
 ·
  have:=Rw.cell o1 (g:=g) (cap:=cap) (k:=p) hv' (by show p<rv.length*1;omega);rw[this,IT];show rv[p]? = _;rw[KAH hp'];rfl
theorem Wm {p:Nat}{u:Value}{g:Nat}(hp:p<rv.length)(hg:Fg v (rv.set p u) g):Fg v rv g\/u.ownBlock=some g:=by
 obtain⟨i,hi,e⟩:=hg
 cases i with
 |rw q=>
  have hq:q<rv.length:=by simpa [EP] using hi
  have e:((rv.set p u).getD q AF).ownBlock=some g:=e;by_cases eq:q=p
  ·
   subst eq;rw[BR _ _ _ _ hq,KAP rfl] at e;exact .inr e
  ·
   rw[BR _ _ _ _ hp,KAQ eq] at e;exact .inl ⟨.rw q,hq,e⟩
 |AM=>exact .inl ⟨.AM,trivial,e⟩
 |AQ=>exact .inl ⟨.AQ,trivial,e⟩
 |rws=>exact .inl ⟨.rws,trivial,e⟩
 |_=>exact absurd hi (by simp[EP])
end
end
section
section
variable {w w1 w2 w':World} {m D:Nat} {v:BV} {nv rv:List Value} {bs N:Nat} {AA:List (List Dd)} {b:Bd}
theorem AU.mk2 (h:AU w m D v nv rv bs N AA b){v':BV}{nv' rv':List Value}{b':Bd}(F:GU w' m (BW nv' rv') (Ay D v' nv' rv' b'))(ln:nv'.length=b'.AJ.length)(lr:rv'.length=b'.rws.length)(hW:v'.W=v.W)(hs:w.heap.size<=w'.heap.size)(hwk:Jh w' bs N v.W AA)
  (hout:∀i,BW nv' rv' i->∀k,(Ay D v' nv' rv' b' i).v.ownBlock=some k->(∃j,BW nv rv j/\(Ay D v nv rv b j).v.ownBlock=some k)\/w.heap.size<=k):AU w' m D v' nv' rv' bs N AA b':=
 ⟨F,ln,lr,by rw[hW];exact hwk,KAU h.top hs,fun i hi k hk=>by
  rcases hout i hi k hk with ⟨j,hj,e⟩|e
  . exact h.out j hj k e
  ·
   have:=h.top
   right;omega⟩
theorem Jl {k:Nat}{x:Value}{v':BV}(o:(Hi D v).own w m)(hv:(Hi D v').xs=(Hi D v).xs.set k x):(Hi D v').own (w.setCell ⟨D,k,none⟩ x) m/\w.grownBy (w.setCell ⟨D,k,none⟩ x) (some D)/\w.frozen? ⟨D,k,none⟩=false:=by
 obtain⟨h1,h2,h3⟩:=Rw.put o (g:=D) (cap:=1) (k:=k) rfl x;refine⟨?_,h2,h3⟩;have e:Hi D v'={ Hi D v with xs:=(Hi D v).xs.set k x }:=by rw[<-hv]
 rw[e];exact h1
theorem AU.nD (h:AU w m D v nv rv bs N AA b):∀g,some D=some g->g<bs\/N<=g:=fun g e=>h.out .bd trivial g e
theorem AU.VY (h:AU w m D v nv rv bs N AA b){u:Value}{zs:List Int}(hg:w.grownBy w2 v.S.ownBlock)(hb:u.ownBlock=v.S.ownBlock\/u.ownBlock=some w.heap.size\/u.ownBlock=none)(ho:A8 w2 m u zs):
  AU (w2.setCell ⟨D,5,none⟩ u) m D { v with S:=u } nv rv bs N AA { b with sn:=zs }/\w2.cell? ⟨D,5,none⟩=some v.S/\w2.frozen? ⟨D,5,none⟩=false:=by
 have F1:=h.Ag.set (i:= .sn) trivial (r:=Bk zs u) hg hb ho;have o1:(Hi D v).own w2 m:=F1.own .bd trivial;obtain⟨q1,q2,q3⟩:=Jl (k:=5) (x:=u) (v':={ v with S:=u }) o1 rfl;have F2:=F1.set (i:= .bd) trivial (r:=Hi D { v with S:=u }) q2 (.inl rfl) q1;have hf:∀j,Ay D { v with S:=u } nv rv { b with sn:=zs } j=JR (JR (Ay D v nv rv b) .sn (Bk zs u)) .bd (Hi D { v with S:=u }) j:=fun j=>by cases j<;>rfl
 refine⟨h.mk2 (F2.congr (fun _ hj=>hj) (fun j _=>hf j)) h.ln h.lr rfl (KAU hg.size q2.size) ((h.work.kept hg (fun g e=>h.out .sn trivial g e)).kept q2 h.nD) (fun j hj k hk=>?_),(h.stay .sn trivial (by simp) hg 5).trans h.cells.2.2.2.2.2.1,q3⟩;by_cases e:j = .sn
 ·
  subst e;have hk:u.ownBlock=some k:=hk;rcases hb with e|e|e
  . exact .inl ⟨.sn,trivial,by rw[<-hk,e];rfl⟩
  . rw[e] at hk;exact .inr (KBP (KAI hk))
  . rw[e] at hk;cases hk
 ·
  refine .inl ⟨j,hj,?_⟩;cases j<;>first|exact hk|exact absurd rfl e
theorem AU.VX (h:AU w m D v nv rv bs N AA b){u:Value}{zs:List Int}(hg:w.grownBy w2 v.F.ownBlock)(hb:u.ownBlock=v.F.ownBlock\/u.ownBlock=some w.heap.size\/u.ownBlock=none)(ho:A8 w2 m u zs):
  AU (w2.setCell ⟨D,6,none⟩ u) m D { v with F:=u } nv rv bs N AA { b with fr:=zs }/\w2.cell? ⟨D,6,none⟩=some v.F/\w2.frozen? ⟨D,6,none⟩=false:=by
 have F1:=h.Ag.set (i:= .fr) trivial (r:=Bk zs u) hg hb ho;have o1:(Hi D v).own w2 m:=F1.own .bd trivial;obtain⟨q1,q2,q3⟩:=Jl (k:=6) (x:=u) (v':={ v with F:=u }) o1 rfl;have F2:=F1.set (i:= .bd) trivial (r:=Hi D { v with F:=u }) q2 (.inl rfl) q1;have hf:∀j,Ay D { v with F:=u } nv rv { b with fr:=zs } j=JR (JR (Ay D v nv rv b) .fr (Bk zs u)) .bd (Hi D { v with F:=u }) j:=fun j=>by cases j<;>rfl
 refine⟨h.mk2 (F2.congr (fun _ hj=>hj) (fun j _=>hf j)) h.ln h.lr rfl (KAU hg.size q2.size) ((h.work.kept hg (fun g e=>h.out .fr trivial g e)).kept q2 h.nD) (fun j hj k hk=>?_),(h.stay .fr trivial (by simp) hg 6).trans h.cells.2.2.2.2.2.2.1,q3⟩;by_cases e:j = .fr
 ·
  subst e;have hk:u.ownBlock=some k:=hk;rcases hb with e|e|e
  . exact .inl ⟨.fr,trivial,by rw[<-hk,e];rfl⟩
  . rw[e] at hk;exact .inr (KBP (KAI hk))
  . rw[e] at hk;cases hk
 ·
  refine .inl ⟨j,hj,?_⟩;cases j<;>first|exact hk|exact absurd rfl e
theorem Eu {α:Type}(l:List α)(x z:α)(q:Nat):(l++[x]).getD q z=if q=l.length then x else l.getD q z:=by
 rw[IT,IT];by_cases e:q=l.length
 . subst e;simp
 ·
  rw[KAQ e];by_cases hl:q<l.length
  . rw[KAu hl]
  . rw[KA9 (by rw[KAJ];simp;omega),KA9 (by omega)]
theorem AU.TC (h:AU w m D v nv rv bs N AA b){u u':Value}{ns:List Nt}(k1:AC w w1)(hu:∀k,u.ownBlock=some k->w.heap.size<=k)(ou:B5 cN 155 3 w1 m u ns)
  (hg:w1.grownBy w2 v.N.ownBlock) (hb:u'.ownBlock=v.N.ownBlock\/u'.ownBlock=some w1.heap.size\/u'.ownBlock=none) (ho:(Em 151 (nv++[u]) u').own w2 m):
  AU (w2.setCell ⟨D,3,none⟩ u') m D { v with N:=u' } (nv++[u]) rv bs N AA { b with AJ:=b.AJ++[ns] }/\w2.cell? ⟨D,3,none⟩=some v.N/\w2.frozen? ⟨D,3,none⟩=false:=by
 have F1:=h.Ag.add (i:= .nt nv.length) (fun q=>Nat.lt_irrefl _ (show nv.length<nv.length from q)) (r:=Px ns u) rfl k1 ou hu;have F2:=F1.set (i:= .AJ) (.inl trivial) (r:=Em 151 (nv++[u]) u') hg hb ho;have o1:(Hi D v).own w2 m:=F2.own .bd (.inl trivial);obtain⟨q1,q2,q3⟩:=Jl (k:=3) (x:=u') (v':={ v with N:=u' }) o1 rfl;have F3:=F2.set (i:= .bd) (.inl trivial) (r:=Hi D { v with N:=u' }) q2 (.inl rfl) q1;have hs:w.heap.size<=w1.heap.size:=k1.size
 have hf:∀j,Ay D { v with N:=u' } (nv++[u]) rv { b with AJ:=b.AJ++[ns] } j=JR (JR (JR (Ay D v nv rv b) (.nt nv.length) (Px ns u)) .AJ (Em 151 (nv++[u]) u')) .bd (Hi D { v with N:=u' }) j:=fun j=>by
  cases j with
  |nt q=>
   rw[AV _ _ (by simp),AV _ _ (by simp)];show Px ((b.AJ++[ns]).getD q []) ((nv++[u]).getD q AF)=_;rw[Eu,Eu,<-h.ln];by_cases e:q=nv.length
   . subst e;rw[Ao,KAP rfl,KAP rfl]
   . rw[AV _ _ (by simpa using e),KAQ e,KAQ e];rfl
  |_=>rfl
 have hne:some D≠v.N.ownBlock:=by
  rcases h.Ag.apart .bd .AJ trivial trivial (by simp) with e|e
  . cases e
  . exact e
 refine⟨h.mk2 (F3.congr (fun j hj=>?_) (fun j _=>hf j)) (by rw[KAJ];simp[h.ln]) h.lr rfl (KAU hs (KAU hg.size q2.size)) (((h.work.kept k1.grownBy (by simp)).kept hg (fun g e=>h.out .AJ trivial g e)).kept q2 h.nD) (fun j hj k hk=>?_),?_,q3⟩
 ·
  cases j with
  |nt q=>
   have hq:q<(nv++[u]).length:=hj;rw[KAJ] at hq;by_cases e:q=nv.length
   . exact .inr (by rw[e])
   . exact .inl (show q<nv.length by simp at hq;omega)
  |rw q=>exact .inl hj
  |_=>exact .inl trivial
 ·
  cases j with
  |nt q=>
   have hk:((nv++[u]).getD q AF).ownBlock=some k:=hk;rw[Eu] at hk;by_cases e:q=nv.length
   . rw[KAP e] at hk;exact .inr (hu k hk)
   ·
    rw[KAQ e] at hk;have hq:q<(nv++[u]).length:=hj;rw[KAJ] at hq;exact .inl ⟨.nt q,show q<nv.length by simp at hq;omega,hk⟩
  |AJ=>
   have hk:u'.ownBlock=some k:=hk;rcases hb with e|e|e
   . exact .inl ⟨.AJ,trivial,by rw[<-hk,e];rfl⟩
   . rw[e] at hk;exact .inr (by have:=KAI hk;omega)
   . rw[e] at hk;cases hk
  |rw q=>exact .inl ⟨.rw q,hj,hk⟩
  |bd=>exact .inl ⟨.bd,trivial,hk⟩
  |AM=>exact .inl ⟨.AM,trivial,hk⟩
  |AQ=>exact .inl ⟨.AQ,trivial,hk⟩
  |AK=>exact .inl ⟨.AK,trivial,hk⟩
  |sn=>exact .inl ⟨.sn,trivial,hk⟩
  |fr=>exact .inl ⟨.fr,trivial,hk⟩
  |rws=>exact .inl ⟨.rws,trivial,hk⟩
 ·
  have hD:=h.base.2;have e1:w2.cell? ⟨D,3,none⟩=w1.cell? ⟨D,3,none⟩:=KAw (w:=w1) (hg.block D (by omega) hne);rw[e1,k1.cell hD];exact h.cells.2.2.2.1
theorem AU.LF (h:AU w m D v nv rv bs N AA b){u u':Value}{zs:List Int}(k1:AC w w1)(hu:∀k,u.ownBlock=some k->w.heap.size<=k)(ou:A8 w1 m u zs)
  (hg:w1.grownBy w2 v.R.ownBlock) (hb:u'.ownBlock=v.R.ownBlock\/u'.ownBlock=some w1.heap.size\/u'.ownBlock=none) (ho:(Em 25 (rv++[u]) u').own w2 m):
  AU (w2.setCell ⟨D,7,none⟩ u') m D { v with R:=u' } nv (rv++[u]) bs N AA { b with rws:=b.rws++[zs] }/\w2.cell? ⟨D,7,none⟩=some v.R/\w2.frozen? ⟨D,7,none⟩=false:=by
 have F1:=h.Ag.add (i:= .rw rv.length) (fun q=>Nat.lt_irrefl _ (show rv.length<rv.length from q)) (r:=Bk zs u) rfl k1 ou hu;have F2:=F1.set (i:= .rws) (.inl trivial) (r:=Em 25 (rv++[u]) u') hg hb ho;have o1:(Hi D v).own w2 m:=F2.own .bd (.inl trivial);obtain⟨q1,q2,q3⟩:=Jl (k:=7) (x:=u') (v':={ v with R:=u' }) o1 rfl;have F3:=F2.set (i:= .bd) (.inl trivial) (r:=Hi D { v with R:=u' }) q2 (.inl rfl) q1;have hs:w.heap.size<=w1.heap.size:=k1.size
 have hf:∀j,Ay D { v with R:=u' } nv (rv++[u]) { b with rws:=b.rws++[zs] } j=JR (JR (JR (Ay D v nv rv b) (.rw rv.length) (Bk zs u)) .rws (Em 25 (rv++[u]) u')) .bd (Hi D { v with R:=u' }) j:=fun j=>by
  cases j with
  |rw q=>
   rw[AV _ _ (by simp),AV _ _ (by simp)];show Bk ((b.rws++[zs]).getD q []) ((rv++[u]).getD q AF)=_;rw[Eu,Eu,<-h.lr];by_cases e:q=rv.length
   . subst e;rw[Ao,KAP rfl,KAP rfl]
   . rw[AV _ _ (by simpa using e),KAQ e,KAQ e];rfl
  |_=>rfl
 have hne:some D≠v.R.ownBlock:=by
  rcases h.Ag.apart .bd .rws trivial trivial (by simp) with e|e
  . cases e
  . exact e
 refine⟨h.mk2 (F3.congr (fun j hj=>?_) (fun j _=>hf j)) h.ln (by rw[KAJ];simp[h.lr]) rfl (KAU hs (KAU hg.size q2.size)) (((h.work.kept k1.grownBy (by simp)).kept hg (fun g e=>h.out .rws trivial g e)).kept q2 h.nD) (fun j hj k hk=>?_),?_,q3⟩
 ·
  cases j with
  |rw q=>
   have hq:q<(rv++[u]).length:=hj;rw[KAJ] at hq;by_cases e:q=rv.length
   . exact .inr (by rw[e])
   . exact .inl (show q<rv.length by simp at hq;omega)
  |nt q=>exact .inl hj
  |_=>exact .inl trivial
 ·
  cases j with
  |rw q=>
   have hk:((rv++[u]).getD q AF).ownBlock=some k:=hk;rw[Eu] at hk;by_cases e:q=rv.length
   . rw[KAP e] at hk;exact .inr (hu k hk)
   ·
    rw[KAQ e] at hk;have hq:q<(rv++[u]).length:=hj;rw[KAJ] at hq;exact .inl ⟨.rw q,show q<rv.length by simp at hq;omega,hk⟩
  |rws=>
   have hk:u'.ownBlock=some k:=hk;rcases hb with e|e|e
   . exact .inl ⟨.rws,trivial,by rw[<-hk,e];rfl⟩
   . rw[e] at hk;exact .inr (by have:=KAI hk;omega)
   . rw[e] at hk;cases hk
  |nt q=>exact .inl ⟨.nt q,hj,hk⟩
  |bd=>exact .inl ⟨.bd,trivial,hk⟩
  |AM=>exact .inl ⟨.AM,trivial,hk⟩
  |AQ=>exact .inl ⟨.AQ,trivial,hk⟩
  |AK=>exact .inl ⟨.AK,trivial,hk⟩
  |sn=>exact .inl ⟨.sn,trivial,hk⟩
  |fr=>exact .inl ⟨.fr,trivial,hk⟩
  |AJ=>exact .inl ⟨.AJ,trivial,hk⟩
 ·
  have hD:=h.base.2;have e1:w2.cell? ⟨D,7,none⟩=w1.cell? ⟨D,7,none⟩:=KAw (w:=w1) (hg.block D (by omega) hne);rw[e1,k1.cell hD];exact h.cells.2.2.2.2.2.2.2
end
end
section
def Jf (s:Nat)(V:Nat->Value)(ln:Nat->Nat):Nat->List (Value×Nat)
 | 0=>[]
 |n+1=>Jf s V ln n++[(V n,s*ln n)]
theorem QC (s:Nat)(V:Nat->Value)(ln:Nat->Nat):∀n (r:Value×Nat),r∈Jf s V ln n↔∃i,i<n/\r=(V i,s*ln i)
 | 0,r=>by simp[Jf]
 |n+1,r=>by
  rw[Jf,KA0,QC s V ln n r,KBD];constructor
  ·
   rintro (⟨i,hi,e⟩|e)
   . exact⟨i,by omega,e⟩
   . exact⟨n,by omega,e⟩
  ·
   rintro⟨i,hi,e⟩;by_cases h:i=n
   . subst h;exact .inr e
   . exact .inl ⟨i,by omega,e⟩
def YX (v:Value)(n:Nat):Prop:=∃a c,v = .slice a n c/\(n=0\/∃b o,a=some ⟨b,o,none⟩)
section
variable (v:BV) (Vw Vn Vr:Nat->Value) (AA:List (List Dd)) (b:Bd)
def tX:List (Value×Nat):=Jf 4 Vw (fun i=>(AA.getD i []).length) AA.length
def tY:List (Value×Nat):=tX Vw AA++[(v.P,b.AM.length)]
def tZ:List (Value×Nat):=tY v Vw AA b++[(v.L,b.AQ.length)]
def tq:List (Value×Nat):=tZ v Vw AA b++Jf 3 Vn (fun i=>(b.AJ.getD i []).length) b.AJ.length
def tu:List (Value×Nat):=tq v Vw Vn AA b++[(v.X,b.AK.length)]
def uD:List (Value×Nat):=tu v Vw Vn AA b++[(v.S,b.sn.length)]
def uE:List (Value×Nat):=uD v Vw Vn AA b++[(v.F,b.fr.length)]
def Ok:List (Value×Nat):=uE v Vw Vn AA b++Jf 1 Vr (fun i=>(b.rws.getD i []).length) b.rws.length
end
def lJ (w:World)(v:Value)(V:Nat->Value)(n:Nat)(S:Addr->Prop):Prop:=
 ∃a c,v = .slice a n c/\(n=0\/∃b o,a=some ⟨b,o,none⟩/\b<w.heap.size/\∀i,i<n->w.cell? ⟨b,o+i,none⟩=some (V i)/\¬S ⟨b,o+i,none⟩)
structure zG (w:World)(v:BV)(Vw Vn Vr:Nat->Value)(AA:List (List Dd))(b:Bd):Prop where
 hW:lJ w v.W Vw AA.length (Il (Ok v Vw Vn Vr AA b))
 sW:∀i,i<AA.length->YX (Vw i) (AA.getD i []).length
 sP:YX v.P b.AM.length
 sL:YX v.L b.AQ.length
 hN:lJ w v.N Vn b.AJ.length (Il (Ok v Vw Vn Vr AA b))
 sN:∀i,i<b.AJ.length->YX (Vn i) (b.AJ.getD i []).length
 sX:YX v.X b.AK.length
 sS:YX v.S b.sn.length
 sF:YX v.F b.fr.length
 hR:lJ w v.R Vr b.rws.length (Il (Ok v Vw Vn Vr AA b))
 sR:∀i,i<b.rws.length->YX (Vr i) (b.rws.getD i []).length
section
variable {w w':World} {v:BV} {Vw Vn Vr:Nat->Value} {AA:List (List Dd)} {b:Bd}
end
end
abbrev Th (ds:List Dd)(v:Value):Rw:=⟨82,4,v,ds.length,ds.flatMap cD⟩
section
inductive BJ where
 |b (i:BI)
 |wk
 |wd (c:Nat) deriving DecidableEq
def JT (v:BV)(nv rv wv:List Value)(AA:List (List Dd))(b:Bd):BJ->Rw
 | .b i=>Ay 0 v nv rv b i
 | .wk=>Em 72 wv v.W
 | .wd c=>Th (AA.getD c []) (wv.getD c AF)
def FO (nv rv wv:List Value):BJ->Prop
 | .b i=>BW nv rv i/\i≠.bd
 | .wk=>True
 | .wd c=>c<wv.length
structure GH (w:World)(m:Nat)(v:BV)(nv rv wv:List Value)(AA:List (List Dd))(b:Bd):Prop where
 Ag:GU w m (FO nv rv wv) (JT v nv rv wv AA b)
 ln:nv.length=b.AJ.length
 lr:rv.length=b.rws.length
 lw:wv.length=AA.length
theorem GU.Ry {ι:Type}{w:World}{m m':Nat}{live:ι->Prop}{R:ι->Rw}(h:GU w m live R)(hm:m'<=m):GU w m' live R:=⟨fun i hi=>Dp (h.own i hi) hm,h.apart⟩
section
variable {w w':World} {m:Nat} {v:BV} {nv rv wv:List Value} {AA:List (List Dd)} {b:Bd}
theorem GH.far (h:GH w m v nv rv wv AA b){g:Nat}(hg:w.grownBy w' (some g))(hl:g<m):GH w' m v nv rv wv AA b:=
 ⟨h.Ag.far hg (fun i hi=>by
  cases e:(JT v nv rv wv AA b i).v.ownBlock with
  |none=>exact .inl rfl
  |some k=>exact .inr (fun e'=>by have:=(h.Ag.lt hi k e).1;have:=KAI e';omega)),h.ln,h.lr,h.lw⟩
theorem GH.rd (h:GH w m v nv rv wv AA b):Cw w v AA b:=by
 have oN:∀ {c:Nat},c<b.AJ.length->B5 cN 155 3 w m (nv.getD c AF) (b.AJ.getD c []):=fun {c} hc=>h.Ag.own (.b (.nt c)) ⟨by show c<nv.length;rw[h.ln];exact hc,by simp⟩
 have oR:∀ {p:Nat},p<b.rws.length->A8 w m (rv.getD p AF) (b.rws.getD p []):=fun {p} hp=>h.Ag.own (.b (.rw p)) ⟨by show p<rv.length;rw[h.lr];exact hp,by simp⟩
 have oW:∀ {c:Nat},c<AA.length->Bq w m (wv.getD c AF) (AA.getD c []):=fun {c} hc=>h.Ag.own (.wd c) (by show c<wv.length;rw[h.lw];exact hc)
 have o1:A8 w m v.P b.AM:=h.Ag.own (.b .AM) ⟨trivial,by simp⟩;have o2:A8 w m v.L b.AQ:=h.Ag.own (.b .AQ) ⟨trivial,by simp⟩;have o3:A8 w m v.X b.AK:=h.Ag.own (.b .AK) ⟨trivial,by simp⟩;have o4:A8 w m v.S b.sn:=h.Ag.own (.b .sn) ⟨trivial,by simp⟩;have o5:A8 w m v.F b.fr:=h.Ag.own (.b .fr) ⟨trivial,by simp⟩;refine⟨?_,o1.rd,o2.rd,?_,o3.rd,o4.rd,o5.rd,?_⟩
 ·
  obtain⟨a,cap,e,h1⟩:=Bu (h.Ag.own .wk trivial);rw[h.lw] at e;refine⟨a,cap,e,?_⟩;rcases h1 with h1|⟨g,e1,e2,e3⟩
  ·
   left;have:=h.lw;rw[h1] at this;exact KAZ this.symm
  . exact .inr ⟨g,0,e1,e2,fun i hi=>⟨_,by rw[KBC];exact e3 i (by rw[h.lw];exact hi),(oW hi).S9.rd⟩⟩
 ·
  obtain⟨a,cap,e,h1⟩:=Bu (h.Ag.own (.b .AJ) ⟨trivial,by simp⟩);rw[h.ln] at e;refine⟨a,cap,e,?_⟩;rcases h1 with h1|⟨g,e1,e2,e3⟩
  ·
   left;have:=h.ln;rw[h1] at this;exact KAZ this.symm
  . exact .inr ⟨g,0,e1,e2,fun i hi=>⟨_,by rw[KBC];exact e3 i (by rw[h.ln];exact hi),B5.rd Eg (oN hi)⟩⟩
 ·
  obtain⟨a,cap,e,h1⟩:=Bu (h.Ag.own (.b .rws) ⟨trivial,by simp⟩);rw[h.lr] at e;refine⟨a,cap,e,?_⟩;rcases h1 with h1|⟨g,e1,e2,e3⟩
  ·
   left;have:=h.lr;rw[h1] at this;exact KAZ this.symm
  . exact .inr ⟨g,0,e1,e2,fun i hi=>⟨_,by rw[KBC];exact e3 i (by rw[h.lr];exact hi),(oR hi).rd⟩⟩
end
end
section
def gm (v:Value)(n m:Nat):Prop:=∀b o l c,v = .slice (some ⟨b,o,none⟩) l c->0<n->m<=b
structure Dh (w:World)(m M:Nat)(v:BV)(AA:List (List Dd))(b:Bd):Prop where
 rd:Cw w v AA b
 ex:∃Vw Vn Vr:Nat->Value,zG w v Vw Vn Vr AA b/\lU w (Ok v Vw Vn Vr AA b)/\∀x,Il (Ok v Vw Vn Vr AA b) x->m<=x.block/\x.block<M
 hd:gm v.W AA.length m/\gm v.N b.AJ.length m/\gm v.R b.rws.length m
theorem Lp (s:Nat)(V:Nat->Value)(ln:Nat->Nat):∀n,Jf s V ln n=(List.range n).map (fun i=>(V i,s*ln i))
 | 0=>rfl
 |n+1=>by rw[Jf,Lp s V ln n,KBx,KBB];rfl
def Mx (nw nn nr:Nat):List BJ:=(((((((List.range nw).map BJ.wd++[.b .AM])++[.b .AQ])++(List.range nn).map (fun c=>BJ.b (.nt c)))++[.b .AK])++[.b .sn])++[.b .fr])++(List.range nr).map (fun p=>BJ.b (.rw p))
def RN (v:BV)(Vw Vn Vr:Nat->Value)(AA:List (List Dd))(b:Bd):BJ->Value×Nat
 | .wd c=>(Vw c,4*(AA.getD c []).length)
 | .b .AM=>(v.P,b.AM.length)
 | .b .AQ=>(v.L,b.AQ.length)
 | .b (.nt c)=>(Vn c,3*(b.AJ.getD c []).length)
 | .b .AK=>(v.X,b.AK.length)
 | .b .sn=>(v.S,b.sn.length)
 | .b .fr=>(v.F,b.fr.length)
 | .b (.rw p)=>(Vr p,1*(b.rws.getD p []).length)
 |_=>(v.W,0)
theorem EE (v:BV)(Vw Vn Vr:Nat->Value)(AA:List (List Dd))(b:Bd):Ok v Vw Vn Vr AA b=(Mx AA.length b.AJ.length b.rws.length).map (RN v Vw Vn Vr AA b):=by
 unfold Ok uE uD tu tq tZ tY tX Mx;simp only[Lp,KBB,KCW,KBy,KCY];rfl
theorem GA {nw nn nr:Nat}{j:BJ}(h:j∈Mx nw nn nr):(∃c,c<nw/\j = .wd c)\/j = .b .AM\/j = .b .AQ\/(∃c,c<nn/\j = .b (.nt c))\/j = .b .AK\/j = .b .sn\/j = .b .fr\/∃p,p<nr/\j = .b (.rw p):=by
 unfold Mx at h;simp only[KA0,KAv,KAd,KBD] at h;rcases h with ((((((⟨c,hc,rfl⟩|h)|h)|⟨c,hc,rfl⟩)|h)|h)|h)|⟨c,hc,rfl⟩
 . exact .inl ⟨c,hc,rfl⟩
 . exact .inr (.inl h)
 . exact .inr (.inr (.inl h))
 . exact .inr (.inr (.inr (.inl ⟨c,hc,rfl⟩)))
 . exact .inr (.inr (.inr (.inr (.inl h))))
 . exact .inr (.inr (.inr (.inr (.inr (.inl h)))))
 . exact .inr (.inr (.inr (.inr (.inr (.inr (.inl h))))))
 . exact .inr (.inr (.inr (.inr (.inr (.inr (.inr ⟨c,hc,rfl⟩))))))
theorem GP {α β:Type}{f:α->β}{l:List α}(h:l.Nodup)(hf:∀a b,f a=f b->a=b):(l.map f).Nodup:=by
 unfold List.Nodup;rw[KCZ];exact h.imp (fun {a b} hne e=>hne (hf a b e))
theorem PP (nw nn nr:Nat):(Mx nw nn nr).Nodup:=by
 have h1:=GP (f:=BJ.wd) (KCt (n:=nw)) (fun a b e=>by injection e);have h2:=GP (f:=fun c=>BJ.b (.nt c)) (KCt (n:=nn)) (fun a b e=>by injection e with e;injection e);have h3:=GP (f:=fun c=>BJ.b (.rw c)) (KCt (n:=nr)) (fun a b e=>by injection e with e;injection e);unfold Mx;have one:∀j:BJ,[j].Nodup:=fun j=>by simp
 refine KBp.2 ⟨KBp.2 ⟨KBp.2 ⟨KBp.2 ⟨KBp.2 ⟨KBp.2 ⟨KBp.2 ⟨h1,one _,?_⟩,one _,?_⟩,h2,?_⟩,one _,?_⟩,one _,?_⟩,one _,?_⟩,h3,?_⟩
 all_goals
  intro x hx y hy e;subst e;simp only[KA0,KAv,KAd,KBD] at hx hy
  first
   | (subst hy;simp at hx;done)
   | (obtain⟨q,_,rfl⟩:=hy;simp at hx;done)
theorem Rw.wb {w:World}{m:Nat}{r:Rw}(h:r.own w m){n:Nat}(hn:n<=r.n*r.size){x:Addr}(hx:Ik r.v n x):Wb w x/\m<=x.block/\r.v.ownBlock=some x.block:=by
 obtain⟨b,o,l,c,i,e,hi,rfl⟩:=hx;unfold Rw.own at h;rcases h.2 with ⟨h1,_⟩|⟨g,cap,cur,h1,hb,hg,hc,_,hs,_⟩
 . rw[h1] at e;simp at e
 ·
  rw[h1] at e;simp only[KAT,KAg,KA6,KBX] at e;obtain⟨⟨rfl,rfl⟩,rfl,rfl⟩:=e;refine⟨⟨cur,r.e,hg,?_⟩,hb,by rw[h1];rfl⟩;rw[hs];have:r.n*r.size<=cap*r.size:=KDH _ hc;show 0+i<cap*r.size;omega
theorem Rw.TR {w:World}{m:Nat}{r:Rw}(h:r.own w m):YX r.v r.n:=by
 unfold Rw.own at h;rcases h.2 with ⟨h1,h2⟩|⟨g,cap,cur,h1,_⟩
 . exact⟨none,0,by rw[h1,h2],.inl h2⟩
 . exact⟨_,cap,h1,.inr ⟨g,0,rfl⟩⟩
section
variable {w:World} {m:Nat} {v:BV} {nv rv wv:List Value} {AA:List (List Dd)} {b:Bd}
theorem GH.row (h:GH w m v nv rv wv AA b){j:BJ}(hj:j∈Mx AA.length b.AJ.length b.rws.length):
  FO nv rv wv j/\(RN v (fun i=>wv.getD i AF) (fun i=>nv.getD i AF) (fun i=>rv.getD i AF) AA b j).1=(JT v nv rv wv AA b j).v /\
  (RN v (fun i=>wv.getD i AF) (fun i=>nv.getD i AF) (fun i=>rv.getD i AF) AA b j).2<=(JT v nv rv wv AA b j).n*(JT v nv rv wv AA b j).size:=by
 rcases GA hj with ⟨c,hc,rfl⟩|rfl|rfl|⟨c,hc,rfl⟩|rfl|rfl|rfl|⟨c,hc,rfl⟩
 . exact⟨by show c<wv.length;rw[h.lw];exact hc,rfl,by show 4*(AA.getD c []).length<=(AA.getD c []).length*4;omega⟩
 . exact⟨⟨trivial,by simp⟩,rfl,by show b.AM.length<=b.AM.length*1;omega⟩
 . exact⟨⟨trivial,by simp⟩,rfl,by show b.AQ.length<=b.AQ.length*1;omega⟩
 . exact⟨⟨by show c<nv.length;rw[h.ln];exact hc,by simp⟩,rfl,by show 3*(b.AJ.getD c []).length<=(b.AJ.getD c []).length*3;omega⟩
 . exact⟨⟨trivial,by simp⟩,rfl,by show b.AK.length<=b.AK.length*1;omega⟩
 . exact⟨⟨trivial,by simp⟩,rfl,by show b.sn.length<=b.sn.length*1;omega⟩
 . exact⟨⟨trivial,by simp⟩,rfl,by show b.fr.length<=b.fr.length*1;omega⟩
 . exact⟨⟨by show c<rv.length;rw[h.lr];exact hc,by simp⟩,rfl,by show 1*(b.rws.getD c []).length<=(b.rws.getD c []).length*1;omega⟩
theorem GH.heads (h:GH w m v nv rv wv AA b){j:BJ}{t:TypeId}{vs:List Value}{u:Value}(hl:FO nv rv wv j)(e:JT v nv rv wv AA b j=Em t vs u)(hj:j∉Mx AA.length b.AJ.length b.rws.length):
  lJ w u (fun i=>vs.getD i AF) vs.length (Il (Ok v (fun i=>wv.getD i AF) (fun i=>nv.getD i AF) (fun i=>rv.getD i AF) AA b)):=by
 have ho:=h.Ag.own j hl;rw[e] at ho;obtain⟨a,c,ea,h1⟩:=Bu ho;refine⟨a,c,ea,?_⟩;rcases h1 with h1|⟨g,e1,e2,e3⟩
 . exact .inl (by rw[h1];rfl)
 ·
  refine .inr ⟨g,0,e1,e2,fun i hi=>⟨by rw[KBC];exact e3 i hi,?_⟩⟩;rintro⟨r,hr,hx⟩;rw[EE,KAv] at hr;obtain⟨q,hq,rfl⟩:=hr;obtain⟨l1,l2,l3⟩:=h.row hq;rw[l2] at hx;obtain⟨-,-,hb⟩:=Rw.wb (h.Ag.own q l1) l3 hx;have ap:=h.Ag.apart q j l1 hl (fun e=>hj (e ▸ hq));rw[hb,e] at ap;rcases ap with ap|ap
  . cases ap
  ·
   apply ap;show _=u.ownBlock;rw[ea,e1];rfl
theorem GH.Qg (h:GH w m v nv rv wv AA b){j:BJ}(hl:FO nv rv wv j)(n:Nat):gm (JT v nv rv wv AA b j).v n m:=by
 intro q o l c e _;exact (h.Ag.lt hl q (by rw[e];rfl)).1
theorem GH.free (h:GH w m v nv rv wv AA b):Dh w m w.heap.size v AA b:=by
 refine⟨h.rd,⟨fun i=>wv.getD i AF,fun i=>nv.getD i AF,fun i=>rv.getD i AF,?_,⟨?_,?_⟩,?_⟩,h.Qg (j:= .wk) trivial _,h.Qg (j:= .b .AJ) ⟨trivial,by simp⟩ _,h.Qg (j:= .b .rws) ⟨trivial,by simp⟩ _⟩
 ·
  have hw:=h.heads (j:= .wk) (t:=72) (vs:=wv) (u:=v.W) trivial rfl (fun hq=>by have:=GA hq;simp at this);have hn:=h.heads (j:= .b .AJ) (t:=151) (vs:=nv) (u:=v.N) ⟨trivial,by simp⟩ rfl (fun hq=>by have:=GA hq;simp at this);have hr:=h.heads (j:= .b .rws) (t:=25) (vs:=rv) (u:=v.R) ⟨trivial,by simp⟩ rfl (fun hq=>by have:=GA hq;simp at this);rw[h.lw] at hw;rw[h.ln] at hn;rw[h.lr] at hr
  exact⟨hw,fun i hi=>Rw.TR (h.Ag.own (.wd i) (by show i<wv.length;rw[h.lw];exact hi)),Rw.TR (h.Ag.own (.b .AM) ⟨trivial,by simp⟩),Rw.TR (h.Ag.own (.b .AQ) ⟨trivial,by simp⟩),hn,
   fun i hi=>Rw.TR (h.Ag.own (.b (.nt i)) ⟨by show i<nv.length;rw[h.ln];exact hi,by simp⟩),Rw.TR (h.Ag.own (.b .AK) ⟨trivial,by simp⟩),Rw.TR (h.Ag.own (.b .sn) ⟨trivial,by simp⟩),Rw.TR (h.Ag.own (.b .fr) ⟨trivial,by simp⟩),hr,
   fun i hi=>Rw.TR (h.Ag.own (.b (.rw i)) ⟨by show i<rv.length;rw[h.lr];exact hi,by simp⟩)⟩
 ·
  rintro x ⟨r,hr,hx⟩;rw[EE,KAv] at hr;obtain⟨q,hq,rfl⟩:=hr;obtain⟨l1,l2,l3⟩:=h.row hq;rw[l2] at hx;exact (Rw.wb (h.Ag.own q l1) l3 hx).1
 ·
  rw[EE,KCZ];refine List.Pairwise.imp_of_mem (R:=fun a b=>a≠b) (fun {p q} hp hq hne x hx hy=>?_) (PP _ _ _);obtain⟨l1,l2,l3⟩:=h.row hp;obtain⟨k1,k2,k3⟩:=h.row hq;rw[l2] at hx;rw[k2] at hy;have a1:=(Rw.wb (h.Ag.own p l1) l3 hx).2.2;have a2:=(Rw.wb (h.Ag.own q k1) k3 hy).2.2;rcases h.Ag.apart p q l1 k1 hne with ap|ap
  . rw[a1] at ap;cases ap
  . rw[a1,a2] at ap;exact ap rfl
 ·
  rintro x ⟨r,hr,hx⟩;rw[EE,KAv] at hr;obtain⟨q,hq,rfl⟩:=hr;obtain⟨l1,l2,l3⟩:=h.row hq;rw[l2] at hx;have:=Rw.wb (h.Ag.own q l1) l3 hx;exact⟨this.2.1,this.1.lt⟩
end
theorem Gl {w w':World}{m:Nat}(hh:∀q,m<=q->q<w.heap.size->w'.heap[q]? = w.heap[q]?)(hs:w.heap.size<=w'.heap.size){v:Value}{zs:List Int}(h:Rd w v zs)(hr:∀x,Ik v zs.length x->m<=x.block):Rd w' v zs:=by
 obtain⟨a,c,rfl,h⟩:=h;refine⟨a,c,rfl,?_⟩;rcases h with h|⟨b,o,rfl,hb,hc⟩
 . exact .inl h
 ·
  by_cases hz:zs.length=0
  . exact .inl (KAZ hz)
  have hm:=hr ⟨b,o+0,none⟩ ⟨b,o,_,c,0,rfl,by omega,rfl⟩;exact .inr ⟨b,o,rfl,KAC hb hs,fun i hi=>(KAw (a:=⟨b,o+i,none⟩) (hh b hm hb)).trans (hc i hi)⟩
theorem YF {w w':World}{m:Nat}(hh:∀q,m<=q->q<w.heap.size->w'.heap[q]? = w.heap[q]?)(hs:w.heap.size<=w'.heap.size){v:Value}{zs:List Nt}(h:lV w v zs)(hr:∀x,Ik v (3*zs.length) x->m<=x.block):lV w' v zs:=by
 obtain⟨a,c,rfl,h⟩:=h;refine⟨a,c,rfl,?_⟩;rcases h with h|⟨b,o,rfl,hb,hc⟩
 . exact .inl h
 ·
  by_cases hz:zs.length=0
  . exact .inl (KAZ hz)
  have hm:=hr ⟨b,o+0,none⟩ ⟨b,o,_,_,0,rfl,by omega,rfl⟩;exact .inr ⟨b,o,rfl,KAC hb hs,fun i x hx=>(hc i x hx).same (hh b hm hb)⟩
theorem YE {w w':World}{m:Nat}(hh:∀q,m<=q->q<w.heap.size->w'.heap[q]? = w.heap[q]?)(hs:w.heap.size<=w'.heap.size){v:Value}{zs:List Dd}(h:Jg w v zs)(hr:∀x,Ik v (4*zs.length) x->m<=x.block):Jg w' v zs:=by
 obtain⟨a,c,rfl,h⟩:=h;refine⟨a,c,rfl,?_⟩;rcases h with h|⟨b,o,rfl,hb,hc⟩
 . exact .inl h
 ·
  by_cases hz:zs.length=0
  . exact .inl (KAZ hz)
  have hm:=hr ⟨b,o+0,none⟩ ⟨b,o,_,_,0,rfl,by omega,rfl⟩;refine .inr ⟨b,o,rfl,KAC hb hs,fun i hi=>?_⟩;obtain⟨c0,c1,c2,c3⟩:=hc i hi;have e:=hh b hm hb;exact⟨(KAw (a:=⟨b,_,none⟩) e).trans c0,(KAw (a:=⟨b,_,none⟩) e).trans c1,(KAw (a:=⟨b,_,none⟩) e).trans c2,(KAw (a:=⟨b,_,none⟩) e).trans c3⟩
theorem NT {w w':World}{m:Nat}(hh:∀q,m<=q->q<w.heap.size->w'.heap[q]? = w.heap[q]?)(hs:w.heap.size<=w'.heap.size){v:Value}{V:Nat->Value}{n:Nat}{S:Addr->Prop}(h:lJ w v V n S)(hm:gm v n m):lJ w' v V n S:=by
 obtain⟨a,c,rfl,h⟩:=h;refine⟨a,c,rfl,?_⟩;rcases h with h|⟨b,o,rfl,hb,hc⟩
 . exact .inl h
 ·
  by_cases hz:n=0
  . exact .inl hz
  . exact .inr ⟨b,o,rfl,KAC hb hs,fun i hi=>⟨(KAw (a:=⟨b,o+i,none⟩) (hh b (hm b o n c rfl (by omega)) hb)).trans (hc i hi).1,(hc i hi).2⟩⟩
theorem qO {v:BV}{Vw Vn Vr:Nat->Value}{AA:List (List Dd)}{b:Bd}{j:BJ}(hj:j∈Mx AA.length b.AJ.length b.rws.length){x:Addr}(hx:Ik (RN v Vw Vn Vr AA b j).1 (RN v Vw Vn Vr AA b j).2 x):Il (Ok v Vw Vn Vr AA b) x:=
 ⟨_,by rw[EE];exact KAv.2 ⟨j,hj,rfl⟩,hx⟩
theorem tV {nw nn nr c:Nat}(h:c<nw):BJ.wd c∈Mx nw nn nr:=by simp[Mx,h]
theorem tN {nw nn nr c:Nat}(h:c<nn):BJ.b (.nt c)∈Mx nw nn nr:=by simp[Mx,h]
theorem tQ {nw nn nr c:Nat}(h:c<nr):BJ.b (.rw c)∈Mx nw nn nr:=by simp[Mx,h]
theorem Dh.above {w w':World}{m M:Nat}{v:BV}{AA:List (List Dd)}{b:Bd}(h:Dh w m M v AA b)(hh:∀q,m<=q->q<w.heap.size->w'.heap[q]? = w.heap[q]?)(hs:w.heap.size<=w'.heap.size):Dh w' m M v AA b:=by
 obtain⟨Vw,Vn,Vr,H,L,G⟩:=h.ex;obtain⟨d1,d2,d3⟩:=h.hd;have gr:∀j,j∈Mx AA.length b.AJ.length b.rws.length->∀x,Ik (RN v Vw Vn Vr AA b j).1 (RN v Vw Vn Vr AA b j).2 x->m<=x.block:=fun j hj x hx=>(G x (qO hj hx)).1
 refine⟨⟨?_,Gl hh hs h.rd.P (gr (.b .AM) (by simp[Mx])),Gl hh hs h.rd.L (gr (.b .AQ) (by simp[Mx])),?_,Gl hh hs h.rd.X (gr (.b .AK) (by simp[Mx])),Gl hh hs h.rd.S (gr (.b .sn) (by simp[Mx])),Gl hh hs h.rd.F (gr (.b .fr) (by simp[Mx])),?_⟩,⟨Vw,Vn,Vr,⟨NT hh hs H.hW d1,H.sW,H.sP,H.sL,NT hh hs H.hN d2,H.sN,H.sX,H.sS,H.sF,NT hh hs H.hR d3,H.sR⟩,⟨fun x hx=>?_,L.ap⟩,G⟩,h.hd⟩
 ·
  obtain⟨a,c,e,hw⟩:=h.rd.W;refine⟨a,c,e,?_⟩;rcases hw with hw|⟨q,o,rfl,hq,hc⟩
  . exact .inl hw
  ·
   by_cases hz:AA.length=0
   . exact .inl (KAZ hz)
   obtain⟨a',c',e',H1⟩:=H.hW;rw[e] at e';simp only[KAT,KA8] at e';obtain⟨rfl,rfl⟩:=e';rcases H1 with H1|⟨q',o',e2,_,H2⟩
   . exact absurd H1 hz
   simp only[KAg,KA6,KBX] at e2;obtain⟨rfl,rfl⟩:=e2;refine .inr ⟨q,o,rfl,KAC hq hs,fun i hi=>?_⟩;obtain⟨vi,h1,h2⟩:=hc i hi;have ev:vi=Vw i:=by have:=h1.symm.trans (H2 i hi).1;exact KAI this
   subst ev;exact⟨_,(KAw (a:=⟨q,o+i,none⟩) (hh q (d1 q o _ _ e (by omega)) hq)).trans h1,YE hh hs h2 (gr (.wd i) (tV hi))⟩
 ·
  obtain⟨a,c,e,hw⟩:=h.rd.N;refine⟨a,c,e,?_⟩;rcases hw with hw|⟨q,o,rfl,hq,hc⟩
  . exact .inl hw
  ·
   by_cases hz:b.AJ.length=0
   . exact .inl (KAZ hz)
   obtain⟨a',c',e',H1⟩:=H.hN;rw[e] at e';simp only[KAT,KA8] at e';obtain⟨rfl,rfl⟩:=e';rcases H1 with H1|⟨q',o',e2,_,H2⟩
   . exact absurd H1 hz
   simp only[KAg,KA6,KBX] at e2;obtain⟨rfl,rfl⟩:=e2;refine .inr ⟨q,o,rfl,KAC hq hs,fun i hi=>?_⟩;obtain⟨vi,h1,h2⟩:=hc i hi;have ev:vi=Vn i:=by have:=h1.symm.trans (H2 i hi).1;exact KAI this
   subst ev;exact⟨_,(KAw (a:=⟨q,o+i,none⟩) (hh q (d2 q o _ _ e (by omega)) hq)).trans h1,YF hh hs h2 (gr (.b (.nt i)) (tN hi))⟩
 ·
  obtain⟨a,c,e,hw⟩:=h.rd.R;refine⟨a,c,e,?_⟩;rcases hw with hw|⟨q,o,rfl,hq,hc⟩
  . exact .inl hw
  ·
   by_cases hz:b.rws.length=0
   . exact .inl (KAZ hz)
   obtain⟨a',c',e',H1⟩:=H.hR;rw[e] at e';simp only[KAT,KA8] at e';obtain⟨rfl,rfl⟩:=e';rcases H1 with H1|⟨q',o',e2,_,H2⟩
   . exact absurd H1 hz
   simp only[KAg,KA6,KBX] at e2;obtain⟨rfl,rfl⟩:=e2;refine .inr ⟨q,o,rfl,KAC hq hs,fun i hi=>?_⟩;obtain⟨vi,h1,h2⟩:=hc i hi;have ev:vi=Vr i:=by have:=h1.symm.trans (H2 i hi).1;exact KAI this
   subst ev;exact⟨_,(KAw (a:=⟨q,o+i,none⟩) (hh q (d3 q o _ _ e (by omega)) hq)).trans h1,Gl hh hs h2 (fun x hx=>gr (.b (.rw i)) (tQ hi) x (by show Ik _ (1*_) x;rw[Nat.one_mul];exact hx))⟩
 ·
  obtain⟨cur,t,h1,h2⟩:=L.wb x hx;exact⟨cur,t,(hh _ (G x hx).1 (L.wb x hx).lt).trans h1,h2⟩
end
theorem Bq.kept {w w':World}{base:Nat}{v:Value}{ds:List Dd}{row:Option Nat}(h:Bq w base v ds)(hg:w.grownBy w' row)(hne:v.ownBlock=none\/v.ownBlock≠row):Bq w' base v ds:=
 KAs h hg hne
theorem Bq.lt {w:World}{base:Nat}{v:Value}{ds:List Dd}(h:Bq w base v ds):∀k,v.ownBlock=some k->base<=k/\k<w.heap.size:=KAY h
theorem Bq.BK {w:World}{base base':Nat}{v:Value}{ds:List Dd}(h:Bq w base v ds)(hb:base'<=base):Bq w base' v ds:=by
 refine⟨h.1,?_⟩;rcases h.2 with q|⟨g,cap,cur,e,hg,r⟩
 . exact .inl q
 . exact .inr ⟨g,cap,cur,e,KAU hb hg,r⟩
theorem Fm {v:Value}{base c:Nat}(h:∀k,v.ownBlock=some k->base<=k)(hc:c<base):v.ownBlock=none\/v.ownBlock≠some c:=by
 cases hv:v.ownBlock with
 |none=>exact .inl rfl
 |some k=>exact .inr (fun e=>by have:=h k hv;simp at e;omega)
theorem Zi (ds:List Dd)(k:Nat)(x:Int):k<ds.length->(ds.flatMap cD).set (k*4+3) (.int .i64 x)=(ds.set k ((ds.getD k zD).1,(ds.getD k zD).2.1,(ds.getD k zD).2.2.1,x)).flatMap cD:=by
 induction ds generalizing k with
 |nil=>intro hk;simp at hk
 |cons d r ih=>
  intro hk
  cases k with
  |zero=>simp[cD]
  |succ k=>
   have h1:=ih k (by simpa using hk);rw[KBH,KCN _ _ (by simp[cD];omega),show (k+1)*4+3-(cD d).length=k*4+3 by simp[cD];omega,h1];simp
theorem Bq.put {w:World}{base g n c:Nat}{ds:List Dd}(h:Bq w base (.slice (some ⟨g,0,none⟩) n c) ds){k:Nat}(hk:k<ds.length)(x:Int):
  Bq (w.setCell ⟨g,k*4+3,none⟩ (.int .i64 x)) base (.slice (some ⟨g,0,none⟩) n c) (ds.set k ((ds.getD k zD).1,(ds.getD k zD).2.1,(ds.getD k zD).2.2.1,x)):=by
 have hlen:(ds.flatMap cD).length=ds.length*4:=h.1;have e:=Zi ds k x hk;rcases h.2 with ⟨q,_⟩|⟨g',cap,cur,e1,hb,hg,hc1,hc2,hs,ht⟩
 . cases q
 ·
  simp only[KAT,KAg,KA6,KBX] at e1;obtain⟨rfl,rfl,rfl⟩:=e1;refine⟨by rw[<-e,KA4,KA4];exact hlen,.inr ⟨g,_,cur.setIfInBounds (k*4+3) (.int .i64 x),by rw[KA4],hb,?_,by rw[KA4];exact hc1,hc2,by simpa using hs,?_⟩⟩
  . rw[KAt w g (k*4+3) _ _ _ hg]
  . rw[KCL,KA4,List.take_set,ht,e]
structure Cg (w:World)(base N:Nat)(v:Value)(V:Nat->Value)(AA:List (List Dd)):Prop where
 row:w.ownsRow base 72 1 v AA.length ((List.range AA.length).map V)
 lt:∀k,v.ownBlock=some k->k<N
 each:∀i,i<AA.length->Bq w base (V i) (AA.getD i [])
 ja:∀i,i<AA.length->∀k,(V i).ownBlock=some k->k<N
 out:∀i,i<AA.length->∀k,(V i).ownBlock=some k->v.ownBlock≠some k
 apart:∀i j,i<j->j<AA.length->∀k,(V i).ownBlock=some k->(V j).ownBlock≠some k
theorem Cg.kept {w w':World}{base N c:Nat}{v:Value}{V:Nat->Value}{AA:List (List Dd)}(h:Cg w base N v V AA)(hg:w.grownBy w' (some c))(hc:c<base):Cg w' base N v V AA:=
 ⟨KAs h.row hg (Fm (fun k hk=>(KAY h.row k hk).1) hc),h.lt,fun i hi=>(h.each i hi).kept hg (Fm (h.each i hi).ge hc),h.ja,h.out,h.apart⟩
theorem Cg.keep {w w':World}{base N:Nat}{v:Value}{V:Nat->Value}{AA:List (List Dd)}(h:Cg w base N v V AA)(k:AC w w'):Cg w' base N v V AA:=
 ⟨KAs h.row k.grownBy (by cases v.ownBlock<;>simp),h.lt,fun i hi=>(h.each i hi).keep k,h.ja,h.out,h.apart⟩
theorem Cg.up {w:World}{base N N':Nat}{v:Value}{V:Nat->Value}{AA:List (List Dd)}(h:Cg w base N v V AA)(hN:N<=N'):Cg w base N' v V AA:=
 ⟨h.row,fun k hk=>KAC (h.lt k hk) hN,h.each,fun i hi k hk=>KAC (h.ja i hi k hk) hN,h.out,h.apart⟩
theorem Fu (V:Nat->Value)(n i:Nat)(h:i<n):((List.range n).map V)[i]? = some (V i):=by
 rw[KBN,KCx h];rfl
theorem Cg.at {w:World}{base N:Nat}{v:Value}{V:Nat->Value}{AA:List (List Dd)}(h:Cg w base N v V AA)(hn:0<AA.length):
  ∃g c,v = .slice (some ⟨g,0,none⟩) AA.length c/\base<=g/\g<N/\g<w.heap.size/\AA.length<=c/\(∀i,i<AA.length->w.cell? ⟨g,i,none⟩=some (V i))/\∀i,w.frozen? ⟨g,i,none⟩=false:=by
 have h2:=h.row;have hlt:=KAY h2;have hN:=h.lt;rcases h2.2 with ⟨_,hz⟩|⟨g,cap,cur,rfl,hb,hg,hc,_⟩
 . omega
 ·
  refine⟨g,cap,rfl,hb,hN g rfl,(hlt g rfl).2,hc,fun i hi=>?_,fun i=>KA1 w g i _ _ hg⟩;rw[KAp h2 i (by simpa using hi),Fu V _ i hi]
theorem Cg.rdW {w:World}{base N:Nat}{v:Value}{V:Nat->Value}{AA:List (List Dd)}(h:Cg w base N v V AA):Fw w v AA:=by
 by_cases hn:0<AA.length
 ·
  obtain⟨g,c,rfl,_,_,hg,_,hc,_⟩:=h.at hn;exact⟨_,_,rfl,.inr ⟨g,0,rfl,hg,fun i hi=>⟨V i,by rw[KBC];exact hc i hi,(h.each i hi).S9.rd⟩⟩⟩
 ·
  have h0:AA=[]:=KAZ (by omega);subst h0;rcases h.row.2 with ⟨rfl,_⟩|⟨g,cap,cur,rfl,_⟩
  . exact⟨none,0,rfl,.inl rfl⟩
  . exact⟨_,_,rfl,.inl rfl⟩
theorem Ro.kept {w w':World}{base c:Nat}{v:Value}{AA:List (List Dd)}(h:Ro w base v AA)(hg:w.grownBy w' (some c))(hc:c<base):Ro w' base v AA:=by
 obtain⟨a,cap,hv,h⟩:=h;refine⟨a,cap,hv,?_⟩;rcases h with h|⟨b,off,ha,hbb,hb,hl⟩
 . exact .inl h
 ·
  refine .inr ⟨b,off,ha,hbb,KAC hb hg.size,fun i hi=>?_⟩;obtain⟨vi,h1,h2⟩:=hl i hi;have hblk:w'.heap[b]? = w.heap[b]?:=hg.block b hb (by simp;omega);refine⟨vi,?_,h2.kept hg (Fm h2.ge hc)⟩;simp only[World.cell?,hblk] at h1 ⊢;exact h1
theorem Cg.yY {w:World}{base N:Nat}{v:Value}{V:Nat->Value}{AA:List (List Dd)}(h:Cg w base N v V AA):Ro w base v AA:=by
 by_cases hn:0<AA.length
 ·
  obtain⟨g,c,rfl,hb,_,hg,_,hc,_⟩:=h.at hn;exact⟨_,_,rfl,.inr ⟨g,0,rfl,hb,hg,fun i hi=>⟨V i,by rw[KBC];exact hc i hi,h.each i hi⟩⟩⟩
 ·
  have h0:AA=[]:=KAZ (by omega);subst h0;rcases h.row.2 with ⟨rfl,_⟩|⟨g,cap,cur,rfl,_⟩
  . exact⟨none,0,rfl,.inl rfl⟩
  . exact⟨_,_,rfl,.inl rfl⟩
theorem Cg.push {w w1:World}{base N:Nat}{v v' u:Value}{V:Nat->Value}{AA:List (List Dd)}{ds:List Dd}(h:Cg w base N v V AA)(hu:Bq w N u ds)(hb:base<=N)
  (hown:w1.ownsRow base 72 1 v' (AA.length+1) ((List.range AA.length).map V++[u])) (hgrow:w.grownBy w1 v.ownBlock) (hblk:v'.ownBlock=v.ownBlock\/v'.ownBlock=some w.heap.size) (hN:N<=w.heap.size):
  Cg w1 base w1.heap.size v' (fun i=>if i=AA.length then u else V i) (AA++[ds]):=by
 have hl:(AA++[ds]).length=AA.length+1:=by simp
 have hs:=hgrow.size;have vne:∀k,u.ownBlock=some k->v.ownBlock≠some k:=fun k hk e=>by have:=(hu.lt k hk).1;have:=h.lt k e;omega
 have older:∀i,i<AA.length+1->i≠AA.length->i<AA.length:=fun i h1 h2=>by omega
 refine⟨?_,fun k hk=>(KAY hown k hk).2,fun i hi=>?_,fun i hi k hk=>?_,fun i hi k hk=>?_,fun i j hij hj k hk=>?_⟩
 ·
  rw[hl,KBx,KBB]
  have e:(List.range AA.length).map (fun i=>if i=AA.length then u else V i)=(List.range AA.length).map V:=by
   apply KAh;intro i hi;rw[KAd] at hi;rw[KAQ (by omega)]
  rw[e]
  simpa using hown
 ·
  rw[hl] at hi;by_cases e:i=AA.length
  ·
   subst e;rw[KAP rfl,Pf AA ds []];refine (hu.BK hb).kept hgrow ?_
   cases hv:u.ownBlock with
   |none=>exact .inl rfl
   |some k=>exact .inr (fun e=>vne k hv e.symm)
  ·
   rw[KAQ e,JA AA [ds] i [] (older i hi e)];refine (h.each i (older i hi e)).kept hgrow ?_
   cases hv:(V i).ownBlock with
   |none=>exact .inl rfl
   |some k=>exact .inr (fun e2=>h.out i (older i hi e) k hv e2.symm)
 ·
  rw[hl] at hi;by_cases e:i=AA.length
  ·
   rw[KAP e] at hk;have:=(hu.lt k hk).2;omega
  ·
   rw[KAQ e] at hk;have:=h.ja i (older i hi e) k hk;omega
 ·
  rw[hl] at hi;by_cases e:i=AA.length
  ·
   rw[KAP e] at hk;rcases hblk with e2|e2
   . rw[e2];exact vne k hk
   ·
    rw[e2];have:=(hu.lt k hk).2;simp only[ne_eq,KAg];omega
  ·
   rw[KAQ e] at hk;rcases hblk with e2|e2
   . rw[e2];exact h.out i (older i hi e) k hk
   ·
    rw[e2];have:=h.ja i (older i hi e) k hk;simp only[ne_eq,KAg];omega
 ·
  rw[hl] at hj;rw[KAQ (show i≠AA.length by omega)] at hk;by_cases e:j=AA.length
  ·
   rw[KAP e];intro e2;have:=(hu.lt k e2).1;have:=h.ja i (by omega) k hk;omega
  ·
   rw[KAQ e];exact h.apart i j hij (by omega) k hk
theorem Gg {α:Type}(l:List α)(i j:Nat)(x z:α)(hi:i<l.length):(l.set i x).getD j z=if i=j then x else l.getD j z:=by
 rw[IT,KBt];by_cases e:i=j
 . subst e;rw[KAP rfl,KAP hi,KAP rfl];rfl
 . rw[KAQ e,KAQ e,IT]
theorem Cg.put {w:World}{base N:Nat}{v:Value}{V:Nat->Value}{AA:List (List Dd)}(h:Cg w base N v V AA){i k g n c:Nat}(hi:i<AA.length)(hV:V i = .slice (some ⟨g,0,none⟩) n c)(hk:k<(AA.getD i []).length)(x:Int):
  ∃ds,ds.length=(AA.getD i []).length/\Cg (w.setCell ⟨g,k*4+3,none⟩ (.int .i64 x)) base N v V (AA.set i ds):=by
 have ob:(V i).ownBlock=some g:=by rw[hV];rfl
 have hg:=JB w g (k*4+3) (.int .i64 x);have hap:=h.each i hi;rw[hV] at hap;refine⟨(AA.getD i []).set k (((AA.getD i []).getD k zD).1,((AA.getD i []).getD k zD).2.1,((AA.getD i []).getD k zD).2.2.1,x),by rw[KA4],⟨?_,h.lt,fun j hj=>?_,fun j hj=>h.ja j (by simpa using hj),fun j hj=>h.out j (by simpa using hj),fun a b hab hb=>h.apart a b hab (by simpa using hb)⟩⟩
 ·
  rw[KA4];refine KAs h.row hg ?_;exact .inr (h.out i hi g ob)
 ·
  rw[KA4] at hj;rw[Gg AA i j _ [] hi];by_cases e:i=j
  ·
   subst e;rw[KAP rfl,hV];exact hap.put hk x
  ·
   rw[KAQ e];refine (h.each j hj).kept hg ?_
   cases hv:(V j).ownBlock with
   |none=>exact .inl rfl
   |some q=>
    refine .inr (fun e2=>?_);simp only[KAg] at e2;subst e2;rcases Nat.lt_or_gt_of_ne e with hl|hl
    . exact h.apart i j hl hj q ob hv
    . exact h.apart j i hl hi q hv ob
end Go.Proofs.YtflehmepjhikcaaGreatDoor
