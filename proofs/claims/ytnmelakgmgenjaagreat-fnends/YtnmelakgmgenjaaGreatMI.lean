/- Gathered texts. -/
import Derived.Test.YtnmelakgmgenjaaGreatMH
import Derived.Laws.Tables
import Derived.Lib.Hide
set_option maxRecDepth 100000
set_option maxHeartbeats 8000000
namespace Go.Proofs.YtnmelakgmgenjaaGreat
open Go.ChangeShapes Go.WideShapes Go.ChangeAt Go.RowKit
section
inductive BI where
 |bd|AM|AO|AG|AL|sn|fr|rws
 |nt (c:Nat)
 |rw (p:Nat) deriving DecidableEq
abbrev PL (ns:List Nt)(v:Value):Rw:=⟨104,3,v,ns.length,ns.flatMap cN⟩
abbrev Ha (D:Nat)(v:BV):Rw:=⟨36,8,.slice (some ⟨D,0,none⟩) 1 1,1,[v.W,v.P,v.L,v.N,v.X,v.S,v.F,v.R]⟩
def Ax (D:Nat)(v:BV)(nv rv:List Value)(b:Bd):BI->Rw
 | .bd=>Ha D v
 | .AM=>Bn b.AM v.P
 | .AO=>Bn b.AO v.L
 | .AG=>EP 101 nv v.N
 | .AL=>Bn b.AL v.X
 | .sn=>Bn b.sn v.S
 | .fr=>Bn b.fr v.F
 | .rws=>EP 28 rv v.R
 | .nt c=>PL (b.AG.getD c []) (nv.getD c AE)
 | .rw p=>Bn (b.rws.getD p []) (rv.getD p AE)
def BZ (nv rv:List Value):BI->Prop
 | .nt c=>c<nv.length
 | .rw p=>p<rv.length
 |_=>True
theorem GH.new {ι:Type}[DecidableEq ι]{w w':World}{m:Nat}{live:ι->Prop}{R:ι->Rw}(h:GH w m live R){i:ι}{r:Rw}(k:AC w w')(hn:∀b,r.v.ownBlock=some b->w.heap.size<=b)(ho:r.own w' m):GH w' m live (JC R i r):=by
 have hk:=h.keep k
 have new:∀j,live j->(R j).v.ownBlock=none\/(R j).v.ownBlock≠r.v.ownBlock:=fun j hj=>by
  cases e:(R j).v.ownBlock with
  |none=>exact .inl rfl
  |some b=>exact .inr (fun e'=>by have:=(h.lt hj b e).2;have:=hn b e'.symm;omega)
 refine⟨fun j hj=>?_,fun j l hj hl hjl=>?_⟩
 ·
  by_cases e:j=i
  . subst e;rw[Ap];exact ho
  . rw[AV R r e];exact hk.own j hj
 ·
  by_cases ej:j=i
  ·
   subst ej;have el:l≠j:=fun e=>hjl e.symm
   rw[Ap,AV R r el];rcases new l hl with h1|h1
   ·
    rw[h1]
    cases r.v.ownBlock with
    |none=>exact .inl rfl
    |some b=>exact .inr (by simp)
   . exact .inr (fun e=>h1 e.symm)
  ·
   rw[AV R r ej];by_cases el:l=i
   . subst el;rw[Ap];exact new j hj
   . rw[AV R r el];exact h.apart j l hj hl hjl
structure AR (w:World)(m D:Nat)(v:BV)(nv rv:List Value)(bs N:Nat)(AA:List (List Dd))(b:Bd):Prop where
 Ai:GH w m (BZ nv rv) (Ax D v nv rv b)
 ln:nv.length=b.AG.length
 lr:rv.length=b.rws.length
 work:JP w bs N v.W AA
 top:N<=w.heap.size
 out:∀i,BZ nv rv i->∀k,(Ax D v nv rv b i).v.ownBlock=some k->k<bs\/N<=k
def vB (D:Nat)(v:BV)(nv rv:List Value):BI->Value
 | .bd => .slice (some ⟨D,0,none⟩) 1 1
 | .AM=>v.P
 | .AO=>v.L
 | .AG=>v.N
 | .AL=>v.X
 | .sn=>v.S
 | .fr=>v.F
 | .rws=>v.R
 | .nt c=>nv.getD c AE
 | .rw p=>rv.getD p AE
theorem Kz (D:Nat)(v:BV)(nv rv:List Value)(b:Bd)(i:BI):(Ax D v nv rv b i).v=vB D v nv rv i:=by cases i<;>rfl
def Bp (D:Nat)(v:BV)(nv rv:List Value)(g:Nat):Prop:=∃i,BZ nv rv i/\(vB D v nv rv i).ownBlock=some g
structure Ak (w w':World)(F F':Nat->Prop):Prop where
 os:w'.os=w.os
 tape:w'.tape=w.tape
 output:w'.output=w.output
 size:w.heap.size<=w'.heap.size
 block:∀g,g<w.heap.size->¬F g->w'.heap[g]? = w.heap[g]?
 news:∀g,F' g->F g\/w.heap.size<=g
theorem Ak.refl (w:World)(F:Nat->Prop):Ak w w F F:=⟨rfl,rfl,rfl,Nat.le_refl _,fun _ _ _=>rfl,fun _ h => .inl h⟩
theorem Ak.trans {a b c:World}{F G H:Nat->Prop}(h:Ak a b F G)(k:Ak b c G H):Ak a c F H:=
 ⟨k.os.trans h.os,k.tape.trans h.tape,k.output.trans h.output,Nat.le_trans h.size k.size,fun g hg hF=>(k.block g (Nat.lt_of_lt_of_le hg h.size) (fun hG=>by
  rcases h.news g hG with h1|h1
  . exact hF h1
  . omega)).trans (h.block g hg hF),fun g hg=>by
  rcases k.news g hg with h1|h1
  . exact h.news g h1
  . exact .inr (Nat.le_trans h.size h1)⟩
theorem Ak.keep {a w w':World}{F G:Nat->Prop}(h:Ak a w F G)(k:AC w w'):Ak a w' F G:=
 h.trans ⟨Below.os k,Below.tape k,Below.output k,k.size,fun g hg _=>Below.block k g hg,fun _ h => .inl h⟩
theorem Ak.grown {a w w':World}{F G:Nat->Prop}{row:Option Nat}(h:Ak a w F G)(hg:w.grownBy w' row)(hr:∀k,row=some k->G k):Ak a w' F G:=
 h.trans ⟨hg.os,hg.tape,hg.output,hg.size,fun g h1 h2=>hg.block g h1 (fun e=>h2 (hr g e.symm)),fun _ h => .inl h⟩
theorem Ak.low {a w:World}{F G:Nat->Prop}{m:Nat}(h:Ak a w F G)(hs:m<=a.heap.size)(hF:∀g,F g->m<=g):Below m a w:=
 ⟨h.os,h.tape,h.output,h.size,fun g hg=>h.block g (Nat.lt_of_lt_of_le hg hs) (fun e=>by have:=hF g e;omega)⟩
theorem Ak.cell {a w:World}{F G:Nat->Prop}(h:Ak a w F G){g j:Nat}(hg:g<a.heap.size)(hF:¬F g):w.cell? ⟨g,j,none⟩=a.cell? ⟨g,j,none⟩:=World.cell?_of_block (w:=a) (h.block g hg hF)
theorem Ak.more {a w:World}{F G G':Nat->Prop}(h:Ak a w F G)(hn:∀g,G' g->F g\/a.heap.size<=g):Ak a w F G':=⟨h.os,h.tape,h.output,h.size,h.block,hn⟩
section
variable {w w':World} {m D:Nat} {v:BV} {nv rv:List Value} {bs N:Nat} {AA:List (List Dd)} {b:Bd}
theorem AR.keep (h:AR w m D v nv rv bs N AA b)(k:AC w w'):AR w' m D v nv rv bs N AA b:=
 ⟨h.Ai.keep k,h.ln,h.lr,h.work.kept k.grownBy (by simp),Nat.le_trans h.top k.size,h.out⟩
theorem AR.far (h:AR w m D v nv rv bs N AA b){row:Option Nat}(hg:w.grownBy w' row)(hr:∀k,row=some k->k<m/\(k<bs\/N<=k)):AR w' m D v nv rv bs N AA b:=
 ⟨h.Ai.far hg (fun i hi=>by
  cases e:(Ax D v nv rv b i).v.ownBlock with
  |none=>exact .inl rfl
  |some k=>exact .inr (fun e'=>by have:=(h.Ai.lt hi k e).1;have:=hr k e'.symm;omega)),h.ln,h.lr,h.work.kept hg (fun g hg'=>(hr g hg').2),Nat.le_trans h.top hg.size,h.out⟩
theorem AR.drewN (h:AR w m D v nv rv bs N AA b)(n:Nat):AR (w.drewN n) m D v nv rv bs N AA b:=h.keep ((AC.refl w).drewN n)
theorem AR.drew (h:AR w m D v nv rv bs N AA b):AR w.drew m D v nv rv bs N AA b:=h.keep (AC.refl w).drew
theorem AR.set (h:AR w m D v nv rv bs N AA b)(i:BI)(hi:BZ nv rv i){r:Rw}(hg:w.grownBy w' (Ax D v nv rv b i).v.ownBlock)
  (hb:r.v.ownBlock=(Ax D v nv rv b i).v.ownBlock\/r.v.ownBlock=some w.heap.size\/r.v.ownBlock=none) (ho:r.own w' m)
  {v':BV} {nv' rv':List Value} {b':Bd} (hl:nv'.length=nv.length) (hl2:rv'.length=rv.length) (hn:b'.AG.length=b.AG.length) (hr:b'.rws.length=b.rws.length) (hW:v'.W=v.W)
  (hf:∀j,Ax D v' nv' rv' b' j=JC (Ax D v nv rv b) i r j):AR w' m D v' nv' rv' bs N AA b':=by
 have hlive:∀j,BZ nv' rv' j->BZ nv rv j:=fun j=>by cases j<;>simp[BZ,hl,hl2]
 refine⟨(h.Ai.set hi hg hb ho).congr hlive (fun j _=>hf j),by rw[hl,hn];exact h.ln,by rw[hl2,hr];exact h.lr,?_,Nat.le_trans h.top hg.size,fun j hj k hk=>?_⟩
 ·
  rw[hW];exact h.work.kept hg (fun g hg'=>h.out i hi g hg')
 ·
  rw[hf j] at hk;by_cases e:j=i
  ·
   subst e;rw[Ap] at hk;rcases hb with hb|hb|hb
   . rw[hb] at hk;exact h.out j hi k hk
   ·
    rw[hb] at hk;have:=Option.some.inj hk;have:=h.top;right;omega
   . rw[hb] at hk;cases hk
  ·
   rw[AV _ _ e] at hk;exact h.out j (hlive j hj) k hk
theorem AR.blk (h:AR w m D v nv rv bs N AA b):∀g,Bp D v nv rv g->m<=g/\g<w.heap.size/\(g<bs\/N<=g):=fun g ⟨i,hi,e⟩=>by
 rw[<-Kz D v nv rv b i] at e;exact⟨(h.Ai.lt hi g e).1,(h.Ai.lt hi g e).2,h.out i hi g e⟩
theorem AR.base (h:AR w m D v nv rv bs N AA b):m<=D/\D<w.heap.size:=h.Ai.lt (i:= .bd) trivial D rfl
theorem AR.ge (h:AR w m D v nv rv bs N AA b)(i:BI)(hi:BZ nv rv i):∀k,(Ax D v nv rv b i).v.ownBlock=some k->m<=k:=fun k hk=>(h.Ai.lt hi k hk).1
theorem AR.cells (h:AR w m D v nv rv bs N AA b):w.cell? ⟨D,0,none⟩=some v.W/\w.cell? ⟨D,1,none⟩=some v.P/\w.cell? ⟨D,2,none⟩=some v.L/\w.cell? ⟨D,3,none⟩=some v.N /\
  w.cell? ⟨D,4,none⟩=some v.X/\w.cell? ⟨D,5,none⟩=some v.S/\w.cell? ⟨D,6,none⟩=some v.F/\w.cell? ⟨D,7,none⟩=some v.R:=by
 have o:=h.Ai.own .bd trivial;have c:=fun j hj=>World.ownsRow.cellAt (show w.ownsRow m 36 8 (.slice (some ⟨D,0,none⟩) 1 1) 1 [v.W,v.P,v.L,v.N,v.X,v.S,v.F,v.R] from o) j hj
 exact⟨c 0 (by decide),c 1 (by decide),c 2 (by decide),c 3 (by decide),c 4 (by decide),c 5 (by decide),c 6 (by decide),c 7 (by decide)⟩
theorem AR.free (h:AR w m D v nv rv bs N AA b)(j:Nat):w.frozen? ⟨D,j,none⟩=false:=
 World.ownsRow.frozenAt (show w.ownsRow m 36 8 (.slice (some ⟨D,0,none⟩) 1 1) 1 [v.W,v.P,v.L,v.N,v.X,v.S,v.F,v.R] from h.Ai.own .bd trivial) j
theorem AR.oP (h:AR w m D v nv rv bs N AA b):BM w m v.P b.AM:=h.Ai.own .AM trivial
theorem AR.oL (h:AR w m D v nv rv bs N AA b):BM w m v.L b.AO:=h.Ai.own .AO trivial
theorem AR.oX (h:AR w m D v nv rv bs N AA b):BM w m v.X b.AL:=h.Ai.own .AL trivial
theorem AR.oS (h:AR w m D v nv rv bs N AA b):BM w m v.S b.sn:=h.Ai.own .sn trivial
theorem AR.oF (h:AR w m D v nv rv bs N AA b):BM w m v.F b.fr:=h.Ai.own .fr trivial
theorem AR.oN (h:AR w m D v nv rv bs N AA b){c:Nat}(hc:c<b.AG.length):B5 cN 104 3 w m (nv.getD c AE) (b.AG.getD c []):=h.Ai.own (.nt c) (by show c<nv.length;rw[h.ln];exact hc)
theorem AR.oR (h:AR w m D v nv rv bs N AA b){p:Nat}(hp:p<b.rws.length):BM w m (rv.getD p AE) (b.rws.getD p []):=h.Ai.own (.rw p) (by show p<rv.length;rw[h.lr];exact hp)
theorem AR.hN (h:AR w m D v nv rv bs N AA b):∃a cap,v.N = .slice a b.AG.length cap/\(b.AG=[]\/∃g,a=some ⟨g,0,none⟩/\g<w.heap.size/\∀i,i<b.AG.length->w.cell? ⟨g,i,none⟩=some (nv.getD i AE)):=by
 obtain⟨a,cap,e,h1⟩:=Bt (h.Ai.own .AG trivial);rw[h.ln] at e;refine⟨a,cap,e,?_⟩;rcases h1 with h1|⟨g,e1,e2,e3⟩
 ·
  left;have:=h.ln;rw[h1] at this;exact List.eq_nil_of_length_eq_zero this.symm
 . exact .inr ⟨g,e1,e2,fun i hi=>e3 i (by rw[h.ln];exact hi)⟩
theorem AR.hR (h:AR w m D v nv rv bs N AA b):∃a cap,v.R = .slice a b.rws.length cap/\(b.rws=[]\/∃g,a=some ⟨g,0,none⟩/\g<w.heap.size/\∀i,i<b.rws.length->w.cell? ⟨g,i,none⟩=some (rv.getD i AE)):=by
 obtain⟨a,cap,e,h1⟩:=Bt (h.Ai.own .rws trivial);rw[h.lr] at e;refine⟨a,cap,e,?_⟩;rcases h1 with h1|⟨g,e1,e2,e3⟩
 ·
  left;have:=h.lr;rw[h1] at this;exact List.eq_nil_of_length_eq_zero this.symm
 . exact .inr ⟨g,e1,e2,fun i hi=>e3 i (by rw[h.lr];exact hi)⟩
theorem AR.rd (h:AR w m D v nv rv bs N AA b):CV w v AA b:=by
 refine⟨h.work.rd,h.oP.rd,h.oL.rd,?_,h.oX.rd,h.oS.rd,h.oF.rd,?_⟩
 ·
  obtain⟨a,cap,e,h1⟩:=h.hN;refine⟨a,cap,e,?_⟩;rcases h1 with h1|⟨g,e1,e2,e3⟩
  . exact .inl h1
  . exact .inr ⟨g,0,e1,e2,fun i hi=>⟨_,by rw[Nat.zero_add];exact e3 i hi,B5.rd EE (h.oN hi)⟩⟩
 ·
  obtain⟨a,cap,e,h1⟩:=h.hR;refine⟨a,cap,e,?_⟩;rcases h1 with h1|⟨g,e1,e2,e3⟩
  . exact .inl h1
  . exact .inr ⟨g,0,e1,e2,fun i hi=>⟨_,by rw[Nat.zero_add];exact e3 i hi,(h.oR hi).rd⟩⟩
theorem Jc {zs:List Int}{u:Value}{g cap k:Nat}{x:Int}(o:(Bn zs u).own w m)(hv:u = .slice (some ⟨g,0,none⟩) zs.length cap):(Bn (zs.set k x) u).own (w.setCell ⟨g,k,none⟩ (.int .i64 x)) m/\w.grownBy (w.setCell ⟨g,k,none⟩ (.int .i64 x)) u.ownBlock/\w.frozen? ⟨g,k,none⟩=false:=by
 obtain⟨h1,h2,h3⟩:=Rw.put o (g:=g) (cap:=cap) (k:=k) hv (.int .i64 x);refine⟨?_,h2,h3⟩
 have e:(Bn (zs.set k x) u)={ Bn zs u with xs:=(Bn zs u).xs.set k (.int .i64 x) }:=by
  simp[Bn,List.map_set]
 rw[e];exact h1
theorem AR.mr (h:AR w m D v nv rv bs N AA b){g cap k:Nat}{x:Int}(hv:v.P = .slice (some ⟨g,0,none⟩) b.AM.length cap):AR (w.setCell ⟨g,k,none⟩ (.int .i64 x)) m D v nv rv bs N AA { b with AM:=b.AM.set k x }:=by
 obtain⟨h1,h2,_⟩:=Jc (k:=k) (x:=x) (h.Ai.own .AM trivial) hv;exact h.set .AM trivial (r:=Bn (b.AM.set k x) v.P) h2 (.inl rfl) h1 rfl rfl rfl rfl rfl (fun j=>by cases j<;>rfl)
theorem AR.EL (h:AR w m D v nv rv bs N AA b){g cap k:Nat}{x:Int}(hv:v.L = .slice (some ⟨g,0,none⟩) b.AO.length cap):AR (w.setCell ⟨g,k,none⟩ (.int .i64 x)) m D v nv rv bs N AA { b with AO:=b.AO.set k x }:=by
 obtain⟨h1,h2,_⟩:=Jc (k:=k) (x:=x) (h.Ai.own .AO trivial) hv;exact h.set .AO trivial (r:=Bn (b.AO.set k x) v.L) h2 (.inl rfl) h1 rfl rfl rfl rfl rfl (fun j=>by cases j<;>rfl)
theorem AR.sZ (h:AR w m D v nv rv bs N AA b){g cap k:Nat}{x:Int}(hv:v.X = .slice (some ⟨g,0,none⟩) b.AL.length cap):AR (w.setCell ⟨g,k,none⟩ (.int .i64 x)) m D v nv rv bs N AA { b with AL:=b.AL.set k x }:=by
 obtain⟨h1,h2,_⟩:=Jc (k:=k) (x:=x) (h.Ai.own .AL trivial) hv;exact h.set .AL trivial (r:=Bn (b.AL.set k x) v.X) h2 (.inl rfl) h1 rfl rfl rfl rfl rfl (fun j=>by cases j<;>rfl)
theorem AR.iU (h:AR w m D v nv rv bs N AA b){g cap k:Nat}{x:Int}(hv:v.S = .slice (some ⟨g,0,none⟩) b.sn.length cap):AR (w.setCell ⟨g,k,none⟩ (.int .i64 x)) m D v nv rv bs N AA { b with sn:=b.sn.set k x }:=by
 obtain⟨h1,h2,_⟩:=Jc (k:=k) (x:=x) (h.Ai.own .sn trivial) hv;exact h.set .sn trivial (r:=Bn (b.sn.set k x) v.S) h2 (.inl rfl) h1 rfl rfl rfl rfl rfl (fun j=>by cases j<;>rfl)
theorem AR.sV (h:AR w m D v nv rv bs N AA b){g cap k:Nat}{x:Int}(hv:v.F = .slice (some ⟨g,0,none⟩) b.fr.length cap):AR (w.setCell ⟨g,k,none⟩ (.int .i64 x)) m D v nv rv bs N AA { b with fr:=b.fr.set k x }:=by
 obtain⟨h1,h2,_⟩:=Jc (k:=k) (x:=x) (h.Ai.own .fr trivial) hv;exact h.set .fr trivial (r:=Bn (b.fr.set k x) v.F) h2 (.inl rfl) h1 rfl rfl rfl rfl rfl (fun j=>by cases j<;>rfl)
theorem AR.stay (h:AR w m D v nv rv bs N AA b)(i:BI)(hi:BZ nv rv i)(hb:i≠.bd)(hg:w.grownBy w' (Ax D v nv rv b i).v.ownBlock)(j:Nat):w'.cell? ⟨D,j,none⟩=w.cell? ⟨D,j,none⟩:=by
 have hne:some D≠(Ax D v nv rv b i).v.ownBlock:=by
  rcases h.Ai.apart .bd i trivial hi (fun e=>hb e.symm) with e|e
  . cases e
  . exact e
 exact World.cell?_of_block (w:=w) (hg.block D h.base.2 hne)
theorem AR.Y8 (h:AR w m D v nv rv bs N AA b){p:Nat}(hp:p<b.rws.length){u:Value}{zs:List Int}(hg:w.grownBy w' (rv.getD p AE).ownBlock)
  (hb:u.ownBlock=(rv.getD p AE).ownBlock\/u.ownBlock=some w.heap.size\/u.ownBlock=none) (ho:BM w' m u zs) {g cap:Nat} (hv:v.R = .slice (some ⟨g,0,none⟩) b.rws.length cap):
  AR (w'.setCell ⟨g,p,none⟩ u) m D v nv (rv.set p u) bs N AA { b with rws:=b.rws.set p zs }/\w'.cell? ⟨g,p,none⟩=some (rv.getD p AE)/\w'.frozen? ⟨g,p,none⟩=false:=by
 have hp':p<rv.length:=by rw[h.lr];exact hp
 have hv':v.R = .slice (some ⟨g,0,none⟩) rv.length cap:=by rw[h.lr];exact hv
 have F1:=h.Ai.set (i:= .rw p) hp' (r:=Bn zs u) hg hb ho;have o1:(EP 28 rv v.R).own w' m:=by have:=F1.own .rws trivial;rw[AV _ _ (by simp)] at this;exact this
 obtain⟨q1,q2,q3⟩:=Rw.put o1 (g:=g) (cap:=cap) (k:=p) hv' u;have F2:=F1.set (i:= .rws) trivial (r:={ EP 28 rv v.R with xs:=rv.set p u }) (by rw[AV _ _ (by simp)];exact q2) (.inl (by rw[AV _ _ (by simp)];rfl)) q1
 have hf:∀j,Ax D v nv (rv.set p u) { b with rws:=b.rws.set p zs } j=JC (JC (Ax D v nv rv b) (.rw p) (Bn zs u)) .rws { EP 28 rv v.R with xs:=rv.set p u } j:=fun j=>by
  cases j with
  |rws=>
   rw[Ap];simp[Ax,EP]
  |rw q=>
   rw[AV _ _ (by simp)];show Bn ((b.rws.set p zs).getD q []) ((rv.set p u).getD q AE)=_;rw[BR _ _ _ _ hp,BR _ _ _ _ hp'];by_cases e:q=p
   . subst e;rw[Ap];simp
   . rw[AV _ _ (by simpa using e),if_neg e,if_neg e];rfl
  |_=>rw[AV _ _ (by simp),AV _ _ (by simp)];rfl
 refine⟨⟨F2.congr (fun j=>by cases j<;>simp[BZ]) (fun j _=>hf j),h.ln,by simpa using h.lr,?_,?_,fun j hj k hk=>?_⟩,?_,q3⟩
 . exact (h.work.kept hg (fun g' hg'=>h.out (.rw p) hp' g' hg')).kept q2 (fun g' hg'=>h.out .rws trivial g' hg')
 . exact Nat.le_trans h.top (Nat.le_trans hg.size q2.size)
 ·
  rw[hf j] at hk;by_cases e:j = .rws
  ·
   subst e;rw[Ap] at hk;exact h.out .rws trivial k hk
  ·
   rw[AV _ _ e] at hk;by_cases e2:j = .rw p
   ·
    subst e2;rw[Ap] at hk;rcases hb with hb|hb|hb
    . rw[show (Bn zs u).v.ownBlock=u.ownBlock from rfl,hb] at hk;exact h.out (.rw p) hp' k hk
    ·
     rw[show (Bn zs u).v.ownBlock=u.ownBlock from rfl,hb] at hk;have:=Option.some.inj hk;have:=h.top;right;omega
    . rw[show (Bn zs u).v.ownBlock=u.ownBlock from rfl,hb] at hk;cases hk
   ·
    rw[AV _ _ e2] at hk;exact h.out j (by cases j<;>simp[BZ] at hj ⊢<;>exact hj) k hk
 ·
  have:=Rw.cell o1 (g:=g) (cap:=cap) (k:=p) hv' (by show p<rv.length*1;omega);rw[this,List.getD_eq_getElem?_getD];show rv[p]? = _;rw[List.getElem?_eq_getElem hp'];rfl
theorem AR.jU (h:AR w m D v nv rv bs N AA b){c:Nat}(hc:c<b.AG.length){u:Value}{ns:List Nt}(hg:w.grownBy w' (nv.getD c AE).ownBlock)
  (hb:u.ownBlock=(nv.getD c AE).ownBlock\/u.ownBlock=some w.heap.size\/u.ownBlock=none) (ho:B5 cN 104 3 w' m u ns) {g cap:Nat} (hv:v.N = .slice (some ⟨g,0,none⟩) b.AG.length cap):
  AR (w'.setCell ⟨g,c,none⟩ u) m D v (nv.set c u) rv bs N AA { b with AG:=b.AG.set c ns }/\w'.cell? ⟨g,c,none⟩=some (nv.getD c AE)/\w'.frozen? ⟨g,c,none⟩=false:=by
 have hc':c<nv.length:=by rw[h.ln];exact hc
 have hv':v.N = .slice (some ⟨g,0,none⟩) nv.length cap:=by rw[h.ln];exact hv
 have F1:=h.Ai.set (i:= .nt c) hc' (r:=PL ns u) hg hb ho;have o1:(EP 101 nv v.N).own w' m:=by have:=F1.own .AG trivial;rw[AV _ _ (by simp)] at this;exact this
 obtain⟨q1,q2,q3⟩:=Rw.put o1 (g:=g) (cap:=cap) (k:=c) hv' u;have F2:=F1.set (i:= .AG) trivial (r:={ EP 101 nv v.N with xs:=nv.set c u }) (by rw[AV _ _ (by simp)];exact q2) (.inl (by rw[AV _ _ (by simp)];rfl)) q1
 have hf:∀j,Ax D v (nv.set c u) rv { b with AG:=b.AG.set c ns } j=JC (JC (Ax D v nv rv b) (.nt c) (PL ns u)) .AG { EP 101 nv v.N with xs:=nv.set c u } j:=fun j=>by
  cases j with
  |AG=>
   rw[Ap];simp[Ax,EP]
  |nt q=>
   rw[AV _ _ (by simp)];show PL ((b.AG.set c ns).getD q []) ((nv.set c u).getD q AE)=_;rw[BR _ _ _ _ hc,BR _ _ _ _ hc'];by_cases e:q=c
   . subst e;rw[Ap];simp
   . rw[AV _ _ (by simpa using e),if_neg e,if_neg e];rfl
  |_=>rw[AV _ _ (by simp),AV _ _ (by simp)];rfl
 refine⟨⟨F2.congr (fun j=>by cases j<;>simp[BZ]) (fun j _=>hf j),by simpa using h.ln,h.lr,?_,?_,fun j hj k hk=>?_⟩,?_,q3⟩
 . exact (h.work.kept hg (fun g' hg'=>h.out (.nt c) hc' g' hg')).kept q2 (fun g' hg'=>h.out .AG trivial g' hg')
 . exact Nat.le_trans h.top (Nat.le_trans hg.size q2.size)
 ·
  rw[hf j] at hk;by_cases e:j = .AG
  ·
   subst e;rw[Ap] at hk;exact h.out .AG trivial k hk
  ·
   rw[AV _ _ e] at hk;by_cases e2:j = .nt c
   ·
    subst e2;rw[Ap] at hk;rcases hb with hb|hb|hb
    . rw[show (PL ns u).v.ownBlock=u.ownBlock from rfl,hb] at hk;exact h.out (.nt c) hc' k hk
    ·
     rw[show (PL ns u).v.ownBlock=u.ownBlock from rfl,hb] at hk;have:=Option.some.inj hk;have:=h.top;right;omega
    . rw[show (PL ns u).v.ownBlock=u.ownBlock from rfl,hb] at hk;cases hk
   ·
    rw[AV _ _ e2] at hk;exact h.out j (by cases j<;>simp[BZ] at hj ⊢<;>exact hj) k hk
 ·
  have:=Rw.cell o1 (g:=g) (cap:=cap) (k:=c) hv' (by show c<nv.length*1;omega);rw[this,List.getD_eq_getElem?_getD];show nv[c]? = _;rw[List.getElem?_eq_getElem hc'];rfl
theorem AR.gW (h:AR w m D v nv rv bs N AA b){c:Nat}(hc:c<b.AG.length){u:Value}{ns:List Nt}(kw:AC w w')
  (hb:∀k,u.ownBlock=some k->w.heap.size<=k) (ho:B5 cN 104 3 w' m u ns) {g cap:Nat} (hv:v.N = .slice (some ⟨g,0,none⟩) b.AG.length cap):
  AR (w'.setCell ⟨g,c,none⟩ u) m D v (nv.set c u) rv bs N AA { b with AG:=b.AG.set c ns }/\w'.cell? ⟨g,c,none⟩=some (nv.getD c AE)/\w'.frozen? ⟨g,c,none⟩=false:=by
 have hc':c<nv.length:=by rw[h.ln];exact hc
 have hv':v.N = .slice (some ⟨g,0,none⟩) nv.length cap:=by rw[h.ln];exact hv
 have F1:=h.Ai.new (i:= .nt c) (r:=PL ns u) kw hb ho;have o1:(EP 101 nv v.N).own w' m:=by have:=F1.own .AG trivial;rw[AV _ _ (by simp)] at this;exact this
 obtain⟨q1,q2,q3⟩:=Rw.put o1 (g:=g) (cap:=cap) (k:=c) hv' u;have F2:=F1.set (i:= .AG) trivial (r:={ EP 101 nv v.N with xs:=nv.set c u }) (by rw[AV _ _ (by simp)];exact q2) (.inl (by rw[AV _ _ (by simp)];rfl)) q1
 have hf:∀j,Ax D v (nv.set c u) rv { b with AG:=b.AG.set c ns } j=JC (JC (Ax D v nv rv b) (.nt c) (PL ns u)) .AG { EP 101 nv v.N with xs:=nv.set c u } j:=fun j=>by
  cases j with
  |AG=>
   rw[Ap];simp[Ax,EP]
  |nt q=>
   rw[AV _ _ (by simp)];show PL ((b.AG.set c ns).getD q []) ((nv.set c u).getD q AE)=_;rw[BR _ _ _ _ hc,BR _ _ _ _ hc'];by_cases e:q=c
   . subst e;rw[Ap];simp
   . rw[AV _ _ (by simpa using e),if_neg e,if_neg e];rfl
  |_=>rw[AV _ _ (by simp),AV _ _ (by simp)];rfl
 refine⟨⟨F2.congr (fun j=>by cases j<;>simp[BZ]) (fun j _=>hf j),by simpa using h.ln,h.lr,?_,?_,fun j hj k hk=>?_⟩,?_,q3⟩
 . exact (h.work.kept kw.grownBy (by simp)).kept q2 (fun g' hg'=>h.out .AG trivial g' hg')
 . exact Nat.le_trans h.top (Nat.le_trans kw.size q2.size)
 ·
  rw[hf j] at hk;by_cases e:j = .AG
  ·
   subst e;rw[Ap] at hk;exact h.out .AG trivial k hk
  ·
   rw[AV _ _ e] at hk;by_cases e2:j = .nt c
   ·
    subst e2;rw[Ap] at hk;have:=hb k hk;have:=h.top;right;omega
   ·
    rw[AV _ _ e2] at hk;exact h.out j (by cases j<;>simp[BZ] at hj ⊢<;>exact hj) k hk
 ·
  have:=Rw.cell o1 (g:=g) (cap:=cap) (k:=c) hv' (by show c<nv.length*1;omega);rw[this,List.getD_eq_getElem?_getD];show nv[c]? = _;rw[List.getElem?_eq_getElem hc'];rfl
theorem Me {c:Nat}(hc:c<nv.length){u:Value}{g:Nat}(hg:Bp D v (nv.set c u) rv g):Bp D v nv rv g\/u.ownBlock=some g:=by
 obtain⟨i,hi,e⟩:=hg
 cases i with
 |nt q=>
  have hq:q<nv.length:=by simpa [BZ] using hi
  have e:((nv.set c u).getD q AE).ownBlock=some g:=e;by_cases eq:q=c
  ·
   subst eq;rw[BR _ _ _ _ hq,if_pos rfl] at e;exact .inr e
  ·
   rw[BR _ _ _ _ hc,if_neg eq] at e;exact .inl ⟨.nt q,hq,e⟩
 |rw q=>exact .inl ⟨.rw q,hi,e⟩
 |bd=>exact .inl ⟨.bd,trivial,e⟩
 |AM=>exact .inl ⟨.AM,trivial,e⟩
 |AO=>exact .inl ⟨.AO,trivial,e⟩
 |AG=>exact .inl ⟨.AG,trivial,e⟩
 |AL=>exact .inl ⟨.AL,trivial,e⟩
 |sn=>exact .inl ⟨.sn,trivial,e⟩
 |fr=>exact .inl ⟨.fr,trivial,e⟩
 |rws=>exact .inl ⟨.rws,trivial,e⟩
end
end
theorem AK:(Tryz.prog.info? 36).map (·.size)=some 8:=by kernel_rfl
theorem Af (w:World)(g:Nat)(cs:Array Value):w.grownBy (w.setRow g cs) (some g):=
 ⟨rfl,rfl,rfl,by simp,fun k _ hk=>by
  unfold World.setRow;have hk':k≠g:=fun e=>hk (by rw[e])
  rw[Array.getElem?_modify]
  simp[hk'.symm]⟩
theorem Wx (w:World)(g:Nat)(t:TypeId)(old cs:Array Value)(fr:Nat×Nat)(h:w.heap[g]? = some (.cells old t fr)):(w.setRow g cs).heap[g]? = some (.cells cs t fr):=setRow_heap w g old cs t fr h
theorem UY (w:World){m:Nat}(hm:m<=w.heap.size):Rw.own (w.alloc (.cells #[AE,AE,AE,AE,AE,AE,AE,AE] 36)) m ⟨36,8,.slice (some ⟨w.heap.size,0,none⟩) 1 1,1,[AE,AE,AE,AE,AE,AE,AE,AE]⟩:=
 ⟨rfl,.inr ⟨w.heap.size,1,_,rfl,hm,heap_alloc_new w _,Nat.le_refl _,by unfold maxLen;decide,rfl,rfl⟩⟩
theorem UZ {w:World}{m D:Nat}{cs:List Value}{v:BV}(h:Rw.own w m ⟨36,8,.slice (some ⟨D,0,none⟩) 1 1,1,cs⟩):(∃old:Array Value,w.heap[D]? = some (.cells old 36 (0,0))/\old.size=8)/\(Ha D v).own (w.setRow D v.arr) m:=by
 rcases h.2 with ⟨e,_⟩|⟨g,cap,cur,e,hb,hg,hn,hm,hs,ht⟩
 . cases e
 ·
  simp only[Value.slice.injEq,Option.some.injEq,Addr.mk.injEq,and_true,true_and] at e;obtain⟨rfl,rfl⟩:=e;exact⟨⟨cur,hg,hs⟩,rfl,.inr ⟨D,1,v.arr,rfl,hb,Wx w D _ _ _ _ hg,Nat.le_refl _,hm,rfl,rfl⟩⟩
theorem Tryz.QD:(Tryz.prog.info? 101).map (fun i=>(i.zero,i.size,i.bytes))=some (some (.slice none 0 0),1,24):=by kernel_rfl
theorem CV.shapes {w:World}{v:BV}{AA:List (List Dd)}{b:Bd}(h:CV w v AA b):
  ∃(aW aP aL aN aX aS aF aR:Option Addr) (cW cP cL cN cX cS cF cR:Nat),v=⟨.slice aW AA.length cW,.slice aP b.AM.length cP,.slice aL b.AO.length cL,.slice aN b.AG.length cN,.slice aX b.AL.length cX,.slice aS b.sn.length cS,.slice aF b.fr.length cF,.slice aR b.rws.length cR⟩:=by
 obtain⟨vW,vP,vL,vN,vX,vS,vF,vR⟩:=v;obtain⟨hW,hP,hL,hN,hX,hS,hF,hR⟩:=h;obtain⟨aW,cW,eW,-⟩:=hW;obtain⟨aP,cP,eP,-⟩:=hP;obtain⟨aL,cL,eL,-⟩:=hL;obtain⟨aN,cN,eN,-⟩:=hN;obtain⟨aX,cX,eX,-⟩:=hX;obtain⟨aS,cS,eS,-⟩:=hS;obtain⟨aF,cF,eF,-⟩:=hF;obtain⟨aR,cR,eR,-⟩:=hR;simp only at eW eP eL eN eX eS eF eR;exact⟨aW,aP,aL,aN,aX,aS,aF,aR,cW,cP,cL,cN,cX,cS,cF,cR,by rw[eW,eP,eL,eN,eX,eS,eF,eR]⟩
section
structure BG (w:World)(m:Nat)(v:BV)(nv rv:List Value)(bs N:Nat)(AA:List (List Dd))(b:Bd):Prop where
 Ai:GH w m (fun i=>BZ nv rv i/\i≠.bd) (Ax 0 v nv rv b)
 ln:nv.length=b.AG.length
 lr:rv.length=b.rws.length
 work:JP w bs N v.W AA
 top:N<=w.heap.size
 out:∀i,BZ nv rv i->i≠.bd->∀k,(Ax 0 v nv rv b i).v.ownBlock=some k->k<bs\/N<=k
section
variable {w w':World} {m D:Nat} {v:BV} {nv rv:List Value} {bs N:Nat} {AA:List (List Dd)} {b:Bd}
theorem MP (D:Nat)(v:BV)(nv rv:List Value)(b:Bd){i:BI}(h:i≠.bd):Ax D v nv rv b i=Ax 0 v nv rv b i:=by cases i<;>first|rfl|exact absurd rfl h
theorem AR.val (h:AR w m D v nv rv bs N AA b):BG w m v nv rv bs N AA b:=
 ⟨h.Ai.congr (fun _ hi=>hi.1) (fun i hi=>(MP D v nv rv b hi.2).symm),h.ln,h.lr,h.work,h.top,fun i hi hb k hk=>h.out i hi k (by rw[MP D v nv rv b hb];exact hk)⟩
theorem BG.keep (h:BG w m v nv rv bs N AA b)(k:AC w w'):BG w' m v nv rv bs N AA b:=
 ⟨h.Ai.keep k,h.ln,h.lr,h.work.kept k.grownBy (by simp),Nat.le_trans h.top k.size,h.out⟩
theorem BG.far (h:BG w m v nv rv bs N AA b){row:Option Nat}(hg:w.grownBy w' row)(hr:∀k,row=some k->k<m/\(k<bs\/N<=k)):BG w' m v nv rv bs N AA b:=
 ⟨h.Ai.far hg (fun i hi=>by
  cases e:(Ax 0 v nv rv b i).v.ownBlock with
  |none=>exact .inl rfl
  |some k=>exact .inr (fun e'=>by have:=(h.Ai.lt hi k e).1;have:=hr k e'.symm;omega)),h.ln,h.lr,h.work.kept hg (fun g hg'=>(hr g hg').2),Nat.le_trans h.top hg.size,h.out⟩
theorem BG.box (h:BG w m v nv rv bs N AA b)(hm:m<=w.heap.size):AR (w.alloc (.cells v.arr 36)) m w.heap.size v nv rv bs N AA b:=by
 have k:AC w (w.alloc (.cells v.arr 36)):=(AC.refl w).alloc _
 have ho:(Ha w.heap.size v).own (w.alloc (.cells v.arr 36)) m:=by
  refine⟨rfl,.inr ⟨w.heap.size,1,v.arr,rfl,hm,heap_alloc_new w _,Nat.le_refl _,by decide,rfl,?_⟩⟩;rfl
 have F:=h.Ai.add (i:= .bd) (fun hi=>hi.2 rfl) (r:=Ha w.heap.size v) rfl k ho (fun q hq=>by have e:w.heap.size=q:=Option.some.inj hq;omega);have hk:=h.keep k;refine⟨F.congr (fun i hi=>?_) (fun i hi=>?_),h.ln,h.lr,hk.work,hk.top,fun i hi q hq=>?_⟩
 ·
  by_cases e:i = .bd
  . exact .inr e
  . exact .inl ⟨hi,e⟩
 ·
  by_cases e:i = .bd
  . subst e;rw[Ap];rfl
  . rw[AV _ _ e];exact MP _ _ _ _ _ e
 ·
  by_cases e:i = .bd
  ·
   subst e;have:w.heap.size=q:=Option.some.inj hq;have:=h.top;right;omega
  ·
   rw[MP _ _ _ _ _ e] at hq;exact h.out i hi e q hq
theorem BG.rd0 (h:BG w m v nv rv bs N AA b):CV w v AA b:=by
 have oN:∀ {c:Nat},c<b.AG.length->B5 cN 104 3 w m (nv.getD c AE) (b.AG.getD c []):=fun {c} hc=>h.Ai.own (.nt c) ⟨by show c<nv.length;rw[h.ln];exact hc,by simp⟩
 have oR:∀ {p:Nat},p<b.rws.length->BM w m (rv.getD p AE) (b.rws.getD p []):=fun {p} hp=>h.Ai.own (.rw p) ⟨by show p<rv.length;rw[h.lr];exact hp,by simp⟩
 have o1:BM w m v.P b.AM:=h.Ai.own .AM ⟨trivial,by simp⟩;have o2:BM w m v.L b.AO:=h.Ai.own .AO ⟨trivial,by simp⟩;have o3:BM w m v.X b.AL:=h.Ai.own .AL ⟨trivial,by simp⟩;have o4:BM w m v.S b.sn:=h.Ai.own .sn ⟨trivial,by simp⟩;have o5:BM w m v.F b.fr:=h.Ai.own .fr ⟨trivial,by simp⟩;refine⟨h.work.rd,o1.rd,o2.rd,?_,o3.rd,o4.rd,o5.rd,?_⟩
 ·
  obtain⟨a,cap,e,h1⟩:=Bt (h.Ai.own .AG ⟨trivial,by simp⟩);rw[h.ln] at e;refine⟨a,cap,e,?_⟩;rcases h1 with h1|⟨g,e1,e2,e3⟩
  ·
   left;have:=h.ln;rw[h1] at this;exact List.eq_nil_of_length_eq_zero this.symm
  . exact .inr ⟨g,0,e1,e2,fun i hi=>⟨_,by rw[Nat.zero_add];exact e3 i (by rw[h.ln];exact hi),B5.rd EE (oN hi)⟩⟩
 ·
  obtain⟨a,cap,e,h1⟩:=Bt (h.Ai.own .rws ⟨trivial,by simp⟩);rw[h.lr] at e;refine⟨a,cap,e,?_⟩;rcases h1 with h1|⟨g,e1,e2,e3⟩
  ·
   left;have:=h.lr;rw[h1] at this;exact List.eq_nil_of_length_eq_zero this.symm
  . exact .inr ⟨g,0,e1,e2,fun i hi=>⟨_,by rw[Nat.zero_add];exact e3 i (by rw[h.lr];exact hi),(oR hi).rd⟩⟩
theorem GH.Az {ι:Type}{m':Nat}{live:ι->Prop}{R:ι->Rw}(h:GH w m live R)(hm:m'<=m):GH w m' live R:=
 ⟨fun i hi=>by
  have o:=h.own i hi;refine⟨o.1,?_⟩;rcases o.2 with q|⟨g,cap,cur,e,hg,r⟩
  . exact .inl q
  . exact .inr ⟨g,cap,cur,e,Nat.le_trans hm hg,r⟩,h.apart⟩
theorem BG.Az {m':Nat}(h:BG w m v nv rv bs N AA b)(hm:m'<=m):BG w m' v nv rv bs N AA b:=⟨h.Ai.Az hm,h.ln,h.lr,h.work,h.top,h.out⟩
theorem AR.JK (h:AR w m D v nv rv bs N AA b):w.heap[D]? = some (.cells v.arr 36 (0,0)):=by
 have o:=h.Ai.own .bd trivial;rcases o.2 with ⟨e,_⟩|⟨g,cap,cur,e,_,hg,_,_,hs,ht⟩
 ·
  have e:Value.slice (some ⟨D,0,none⟩) 1 1 = .slice none 0 0:=e;simp at e
 ·
  have e:Value.slice (some ⟨D,0,none⟩) 1 1 = .slice (some ⟨g,0,none⟩) 1 cap:=e;simp only[Value.slice.injEq,Option.some.injEq,Addr.mk.injEq,and_true,true_and] at e;obtain⟨rfl,rfl⟩:=e;have hs:cur.size=1*8:=hs;have ht:cur.toList.take (1*8)=[v.W,v.P,v.L,v.N,v.X,v.S,v.F,v.R]:=ht;rw[List.take_of_length_le (by rw[Array.length_toList];omega)] at ht;have:cur=v.arr:=Array.ext' ht;rw[hg,this];rfl
end
end
section
def BV.Sl (v:BV):Prop:=∃(aW aP aL aN aX aS aF aR:Option Addr) (nW nP nL nN nX nS nF nR cW cP cL cQ cX cS cF cR:Nat),v=⟨.slice aW nW cW,.slice aP nP cP,.slice aL nL cL,.slice aN nN cQ,.slice aX nX cX,.slice aS nS cS,.slice aF nF cF,.slice aR nR cR⟩
theorem CV.sl {w:World}{v:BV}{AA:List (List Dd)}{b:Bd}(h:CV w v AA b):v.Sl:=by
 obtain⟨aW,aP,aL,aN,aX,aS,aF,aR,cW,cP,cL,cN,cX,cS,cF,cR,rfl⟩:=h.shapes;exact⟨_,_,_,_,_,_,_,_,_,_,_,_,_,_,_,_,_,_,_,_,_,_,_,_,rfl⟩
def Ds (rv:List Value):BI->Prop
 | .AM=>True
 | .AO=>True
 | .rws=>True
 | .rw p=>p<rv.length
 |_=>False
structure DV (w:World)(m:Nat)(v:BV)(rv:List Value)(b:Bd):Prop where
 Ai:GH w m (Ds rv) (Ax 0 v [] rv b)
 lr:rv.length=b.rws.length
def FL (v:BV)(rv:List Value)(g:Nat):Prop:=∃i,Ds rv i/\(vB 0 v [] rv i).ownBlock=some g
section
variable {w w':World} {m:Nat} {v:BV} {rv:List Value} {b:Bd}
theorem DV.keep (h:DV w m v rv b)(k:AC w w'):DV w' m v rv b:=⟨h.Ai.keep k,h.lr⟩
theorem DV.blk (h:DV w m v rv b):∀g,FL v rv g->m<=g/\g<w.heap.size:=fun g ⟨i,hi,e⟩=>by
 rw[<-Kz 0 v [] rv b i] at e;exact h.Ai.lt hi g e
theorem DV.oP (h:DV w m v rv b):BM w m v.P b.AM:=h.Ai.own .AM trivial
theorem DV.oL (h:DV w m v rv b):BM w m v.L b.AO:=h.Ai.own .AO trivial
theorem DV.oR (h:DV w m v rv b){p:Nat}(hp:p<b.rws.length):BM w m (rv.getD p AE) (b.rws.getD p []):=h.Ai.own (.rw p) (by show p<rv.length;rw[h.lr];exact hp)
theorem DV.hR (h:DV w m v rv b):∃a cap,v.R = .slice a b.rws.length cap/\(b.rws=[]\/∃g,a=some ⟨g,0,none⟩/\g<w.heap.size/\∀i,i<b.rws.length->w.cell? ⟨g,i,none⟩=some (rv.getD i AE)):=by
 obtain⟨a,cap,e,h1⟩:=Bt (h.Ai.own .rws trivial);rw[h.lr] at e;refine⟨a,cap,e,?_⟩;rcases h1 with h1|⟨g,e1,e2,e3⟩
 ·
  left;have:=h.lr;rw[h1] at this;exact List.eq_nil_of_length_eq_zero this.symm
 . exact .inr ⟨g,e1,e2,fun i hi=>e3 i (by rw[h.lr];exact hi)⟩
theorem DV.mr (h:DV w m v rv b){g cap k:Nat}{x:Int}(hv:v.P = .slice (some ⟨g,0,none⟩) b.AM.length cap):DV (w.setCell ⟨g,k,none⟩ (.int .i64 x)) m v rv { b with AM:=b.AM.set k x }:=by
 obtain⟨h1,h2,_⟩:=Jc (k:=k) (x:=x) (h.Ai.own .AM trivial) hv;refine⟨(h.Ai.set (i:= .AM) trivial (r:=Bn (b.AM.set k x) v.P) h2 (.inl rfl) h1).congr (fun _ hi=>hi) (fun j _=>by cases j<;>rfl),h.lr⟩
theorem DV.EL (h:DV w m v rv b){g cap k:Nat}{x:Int}(hv:v.L = .slice (some ⟨g,0,none⟩) b.AO.length cap):DV (w.setCell ⟨g,k,none⟩ (.int .i64 x)) m v rv { b with AO:=b.AO.set k x }:=by
 obtain⟨h1,h2,_⟩:=Jc (k:=k) (x:=x) (h.Ai.own .AO trivial) hv;refine⟨(h.Ai.set (i:= .AO) trivial (r:=Bn (b.AO.set k x) v.L) h2 (.inl rfl) h1).congr (fun _ hi=>hi) (fun j _=>by cases j<;>rfl),h.lr⟩
theorem DV.Y8 (h:DV w m v rv b){p:Nat}(hp:p<b.rws.length){u:Value}{zs:List Int}(hg:w.grownBy w' (rv.getD p AE).ownBlock)
  (hb:u.ownBlock=(rv.getD p AE).ownBlock\/u.ownBlock=some w.heap.size\/u.ownBlock=none) (ho:BM w' m u zs) {g cap:Nat} (hv:v.R = .slice (some ⟨g,0,none⟩) b.rws.length cap):
  DV (w'.setCell ⟨g,p,none⟩ u) m v (rv.set p u) { b with rws:=b.rws.set p zs }/\w'.cell? ⟨g,p,none⟩=some (rv.getD p AE)/\w'.frozen? ⟨g,p,none⟩=false:=by
 have hp':p<rv.length:=by rw[h.lr];exact hp
 have hv':v.R = .slice (some ⟨g,0,none⟩) rv.length cap:=by rw[h.lr];exact hv
 have F1:=h.Ai.set (i:= .rw p) hp' (r:=Bn zs u) hg hb ho;have o1:(EP 28 rv v.R).own w' m:=by have:=F1.own .rws trivial;rw[AV _ _ (by simp)] at this;exact this
 obtain⟨q1,q2,q3⟩:=Rw.put o1 (g:=g) (cap:=cap) (k:=p) hv' u;have F2:=F1.set (i:= .rws) trivial (r:={ EP 28 rv v.R with xs:=rv.set p u }) (by rw[AV _ _ (by simp)];exact q2) (.inl (by rw[AV _ _ (by simp)];rfl)) q1;refine⟨⟨F2.congr (fun j=>by cases j<;>simp[Ds]) (fun j _=>?_),by simpa using h.lr⟩,?_,q3⟩
 ·
  cases j with
  |rws=>
   rw[Ap];simp[Ax,EP]
  |rw q=>
   rw[AV _ _ (by simp)];show Bn ((b.rws.set p zs).getD q []) ((rv.set p u).getD q AE)=_;rw[BR _ _ _ _ hp,BR _ _ _ _ hp'];by_cases e:q=p
   . subst e;rw[Ap];simp
   . rw[AV _ _ (by simpa using e),if_neg e,if_neg e];rfl
  |_=>rw[AV _ _ (by simp),AV _ _ (by simp)];rfl
 ·
  have:=Rw.cell o1 (g:=g) (cap:=cap) (k:=p) hv' (by show p<rv.length*1;omega);rw[this,List.getD_eq_getElem?_getD];show rv[p]? = _;rw[List.getElem?_eq_getElem hp'];rfl
theorem Vu {p:Nat}{u:Value}{g:Nat}(hp:p<rv.length)(hg:FL v (rv.set p u) g):FL v rv g\/u.ownBlock=some g:=by
 obtain⟨i,hi,e⟩:=hg
 cases i with
 |rw q=>
  have hq:q<rv.length:=by simpa [Ds] using hi
  have e:((rv.set p u).getD q AE).ownBlock=some g:=e;by_cases eq:q=p
  ·
   subst eq;rw[BR _ _ _ _ hq,if_pos rfl] at e;exact .inr e
  ·
   rw[BR _ _ _ _ hp,if_neg eq] at e;exact .inl ⟨.rw q,hq,e⟩
 |AM=>exact .inl ⟨.AM,trivial,e⟩
 |AO=>exact .inl ⟨.AO,trivial,e⟩
 |rws=>exact .inl ⟨.rws,trivial,e⟩
 |_=>exact absurd hi (by simp[Ds])
end
end
section
section
variable {w w1 w2 w':World} {m D:Nat} {v:BV} {nv rv:List Value} {bs N:Nat} {AA:List (List Dd)} {b:Bd}
theorem AR.mk2 (h:AR w m D v nv rv bs N AA b){v':BV}{nv' rv':List Value}{b':Bd}(F:GH w' m (BZ nv' rv') (Ax D v' nv' rv' b'))(ln:nv'.length=b'.AG.length)(lr:rv'.length=b'.rws.length)(hW:v'.W=v.W)(hs:w.heap.size<=w'.heap.size)(hwk:JP w' bs N v.W AA)
  (hout:∀i,BZ nv' rv' i->∀k,(Ax D v' nv' rv' b' i).v.ownBlock=some k->(∃j,BZ nv rv j/\(Ax D v nv rv b j).v.ownBlock=some k)\/w.heap.size<=k):AR w' m D v' nv' rv' bs N AA b':=
 ⟨F,ln,lr,by rw[hW];exact hwk,Nat.le_trans h.top hs,fun i hi k hk=>by
  rcases hout i hi k hk with ⟨j,hj,e⟩|e
  . exact h.out j hj k e
  ·
   have:=h.top
   right;omega⟩
theorem JT {k:Nat}{x:Value}{v':BV}(o:(Ha D v).own w m)(hv:(Ha D v').xs=(Ha D v).xs.set k x):(Ha D v').own (w.setCell ⟨D,k,none⟩ x) m/\w.grownBy (w.setCell ⟨D,k,none⟩ x) (some D)/\w.frozen? ⟨D,k,none⟩=false:=by
 obtain⟨h1,h2,h3⟩:=Rw.put o (g:=D) (cap:=1) (k:=k) rfl x;refine⟨?_,h2,h3⟩;have e:Ha D v'={ Ha D v with xs:=(Ha D v).xs.set k x }:=by rw[<-hv]
 rw[e];exact h1
theorem AR.nD (h:AR w m D v nv rv bs N AA b):∀g,some D=some g->g<bs\/N<=g:=fun g e=>h.out .bd trivial g e
theorem AR.Uq (h:AR w m D v nv rv bs N AA b){u:Value}{zs:List Int}(hg:w.grownBy w2 v.S.ownBlock)(hb:u.ownBlock=v.S.ownBlock\/u.ownBlock=some w.heap.size\/u.ownBlock=none)(ho:BM w2 m u zs):
  AR (w2.setCell ⟨D,5,none⟩ u) m D { v with S:=u } nv rv bs N AA { b with sn:=zs }/\w2.cell? ⟨D,5,none⟩=some v.S/\w2.frozen? ⟨D,5,none⟩=false:=by
 have F1:=h.Ai.set (i:= .sn) trivial (r:=Bn zs u) hg hb ho;have o1:(Ha D v).own w2 m:=F1.own .bd trivial;obtain⟨q1,q2,q3⟩:=JT (k:=5) (x:=u) (v':={ v with S:=u }) o1 rfl;have F2:=F1.set (i:= .bd) trivial (r:=Ha D { v with S:=u }) q2 (.inl rfl) q1;have hf:∀j,Ax D { v with S:=u } nv rv { b with sn:=zs } j=JC (JC (Ax D v nv rv b) .sn (Bn zs u)) .bd (Ha D { v with S:=u }) j:=fun j=>by cases j<;>rfl
 refine⟨h.mk2 (F2.congr (fun _ hj=>hj) (fun j _=>hf j)) h.ln h.lr rfl (Nat.le_trans hg.size q2.size) ((h.work.kept hg (fun g e=>h.out .sn trivial g e)).kept q2 h.nD) (fun j hj k hk=>?_),(h.stay .sn trivial (by simp) hg 5).trans h.cells.2.2.2.2.2.1,q3⟩;by_cases e:j = .sn
 ·
  subst e;have hk:u.ownBlock=some k:=hk;rcases hb with e|e|e
  . exact .inl ⟨.sn,trivial,by rw[<-hk,e];rfl⟩
  . rw[e] at hk;exact .inr (Nat.le_of_eq (Option.some.inj hk))
  . rw[e] at hk;cases hk
 ·
  refine .inl ⟨j,hj,?_⟩;cases j<;>first|exact hk|exact absurd rfl e
theorem AR.Up (h:AR w m D v nv rv bs N AA b){u:Value}{zs:List Int}(hg:w.grownBy w2 v.F.ownBlock)(hb:u.ownBlock=v.F.ownBlock\/u.ownBlock=some w.heap.size\/u.ownBlock=none)(ho:BM w2 m u zs):
  AR (w2.setCell ⟨D,6,none⟩ u) m D { v with F:=u } nv rv bs N AA { b with fr:=zs }/\w2.cell? ⟨D,6,none⟩=some v.F/\w2.frozen? ⟨D,6,none⟩=false:=by
 have F1:=h.Ai.set (i:= .fr) trivial (r:=Bn zs u) hg hb ho;have o1:(Ha D v).own w2 m:=F1.own .bd trivial;obtain⟨q1,q2,q3⟩:=JT (k:=6) (x:=u) (v':={ v with F:=u }) o1 rfl;have F2:=F1.set (i:= .bd) trivial (r:=Ha D { v with F:=u }) q2 (.inl rfl) q1;have hf:∀j,Ax D { v with F:=u } nv rv { b with fr:=zs } j=JC (JC (Ax D v nv rv b) .fr (Bn zs u)) .bd (Ha D { v with F:=u }) j:=fun j=>by cases j<;>rfl
 refine⟨h.mk2 (F2.congr (fun _ hj=>hj) (fun j _=>hf j)) h.ln h.lr rfl (Nat.le_trans hg.size q2.size) ((h.work.kept hg (fun g e=>h.out .fr trivial g e)).kept q2 h.nD) (fun j hj k hk=>?_),(h.stay .fr trivial (by simp) hg 6).trans h.cells.2.2.2.2.2.2.1,q3⟩;by_cases e:j = .fr
 ·
  subst e;have hk:u.ownBlock=some k:=hk;rcases hb with e|e|e
  . exact .inl ⟨.fr,trivial,by rw[<-hk,e];rfl⟩
  . rw[e] at hk;exact .inr (Nat.le_of_eq (Option.some.inj hk))
  . rw[e] at hk;cases hk
 ·
  refine .inl ⟨j,hj,?_⟩;cases j<;>first|exact hk|exact absurd rfl e
theorem EW {α:Type}(l:List α)(x z:α)(q:Nat):(l++[x]).getD q z=if q=l.length then x else l.getD q z:=by
 rw[List.getD_eq_getElem?_getD,List.getD_eq_getElem?_getD];by_cases e:q=l.length
 . subst e;simp
 ·
  rw[if_neg e];by_cases hl:q<l.length
  . rw[List.getElem?_append_left hl]
  . rw[List.getElem?_eq_none (by rw[List.length_append];simp;omega),List.getElem?_eq_none (by omega)]
theorem AR.SZ (h:AR w m D v nv rv bs N AA b){u u':Value}{ns:List Nt}(k1:AC w w1)(hu:∀k,u.ownBlock=some k->w.heap.size<=k)(ou:B5 cN 104 3 w1 m u ns)
  (hg:w1.grownBy w2 v.N.ownBlock) (hb:u'.ownBlock=v.N.ownBlock\/u'.ownBlock=some w1.heap.size\/u'.ownBlock=none) (ho:(EP 101 (nv++[u]) u').own w2 m):
  AR (w2.setCell ⟨D,3,none⟩ u') m D { v with N:=u' } (nv++[u]) rv bs N AA { b with AG:=b.AG++[ns] }/\w2.cell? ⟨D,3,none⟩=some v.N/\w2.frozen? ⟨D,3,none⟩=false:=by
 have F1:=h.Ai.add (i:= .nt nv.length) (fun q=>Nat.lt_irrefl _ (show nv.length<nv.length from q)) (r:=PL ns u) rfl k1 ou hu;have F2:=F1.set (i:= .AG) (.inl trivial) (r:=EP 101 (nv++[u]) u') hg hb ho;have o1:(Ha D v).own w2 m:=F2.own .bd (.inl trivial);obtain⟨q1,q2,q3⟩:=JT (k:=3) (x:=u') (v':={ v with N:=u' }) o1 rfl;have F3:=F2.set (i:= .bd) (.inl trivial) (r:=Ha D { v with N:=u' }) q2 (.inl rfl) q1;have hs:w.heap.size<=w1.heap.size:=k1.size
 have hf:∀j,Ax D { v with N:=u' } (nv++[u]) rv { b with AG:=b.AG++[ns] } j=JC (JC (JC (Ax D v nv rv b) (.nt nv.length) (PL ns u)) .AG (EP 101 (nv++[u]) u')) .bd (Ha D { v with N:=u' }) j:=fun j=>by
  cases j with
  |nt q=>
   rw[AV _ _ (by simp),AV _ _ (by simp)];show PL ((b.AG++[ns]).getD q []) ((nv++[u]).getD q AE)=_;rw[EW,EW,<-h.ln];by_cases e:q=nv.length
   . subst e;rw[Ap,if_pos rfl,if_pos rfl]
   . rw[AV _ _ (by simpa using e),if_neg e,if_neg e];rfl
  |_=>rfl
 have hne:some D≠v.N.ownBlock:=by
  rcases h.Ai.apart .bd .AG trivial trivial (by simp) with e|e
  . cases e
  . exact e
 refine⟨h.mk2 (F3.congr (fun j hj=>?_) (fun j _=>hf j)) (by rw[List.length_append];simp[h.ln]) h.lr rfl (Nat.le_trans hs (Nat.le_trans hg.size q2.size)) (((h.work.kept k1.grownBy (by simp)).kept hg (fun g e=>h.out .AG trivial g e)).kept q2 h.nD) (fun j hj k hk=>?_),?_,q3⟩
 ·
  cases j with
  |nt q=>
   have hq:q<(nv++[u]).length:=hj;rw[List.length_append] at hq;by_cases e:q=nv.length
   . exact .inr (by rw[e])
   . exact .inl (show q<nv.length by simp at hq;omega)
  |rw q=>exact .inl hj
  |_=>exact .inl trivial
 ·
  cases j with
  |nt q=>
   have hk:((nv++[u]).getD q AE).ownBlock=some k:=hk;rw[EW] at hk;by_cases e:q=nv.length
   . rw[if_pos e] at hk;exact .inr (hu k hk)
   ·
    rw[if_neg e] at hk;have hq:q<(nv++[u]).length:=hj;rw[List.length_append] at hq;exact .inl ⟨.nt q,show q<nv.length by simp at hq;omega,hk⟩
  |AG=>
   have hk:u'.ownBlock=some k:=hk;rcases hb with e|e|e
   . exact .inl ⟨.AG,trivial,by rw[<-hk,e];rfl⟩
   . rw[e] at hk;exact .inr (by have:=Option.some.inj hk;omega)
   . rw[e] at hk;cases hk
  |rw q=>exact .inl ⟨.rw q,hj,hk⟩
  |bd=>exact .inl ⟨.bd,trivial,hk⟩
  |AM=>exact .inl ⟨.AM,trivial,hk⟩
  |AO=>exact .inl ⟨.AO,trivial,hk⟩
  |AL=>exact .inl ⟨.AL,trivial,hk⟩
  |sn=>exact .inl ⟨.sn,trivial,hk⟩
  |fr=>exact .inl ⟨.fr,trivial,hk⟩
  |rws=>exact .inl ⟨.rws,trivial,hk⟩
 ·
  have hD:=h.base.2;have e1:w2.cell? ⟨D,3,none⟩=w1.cell? ⟨D,3,none⟩:=World.cell?_of_block (w:=w1) (hg.block D (by omega) hne);rw[e1,k1.cell hD];exact h.cells.2.2.2.1
theorem AR.VI (h:AR w m D v nv rv bs N AA b){u u':Value}{zs:List Int}(k1:AC w w1)(hu:∀k,u.ownBlock=some k->w.heap.size<=k)(ou:BM w1 m u zs)
  (hg:w1.grownBy w2 v.R.ownBlock) (hb:u'.ownBlock=v.R.ownBlock\/u'.ownBlock=some w1.heap.size\/u'.ownBlock=none) (ho:(EP 28 (rv++[u]) u').own w2 m):
  AR (w2.setCell ⟨D,7,none⟩ u') m D { v with R:=u' } nv (rv++[u]) bs N AA { b with rws:=b.rws++[zs] }/\w2.cell? ⟨D,7,none⟩=some v.R/\w2.frozen? ⟨D,7,none⟩=false:=by
 have F1:=h.Ai.add (i:= .rw rv.length) (fun q=>Nat.lt_irrefl _ (show rv.length<rv.length from q)) (r:=Bn zs u) rfl k1 ou hu;have F2:=F1.set (i:= .rws) (.inl trivial) (r:=EP 28 (rv++[u]) u') hg hb ho;have o1:(Ha D v).own w2 m:=F2.own .bd (.inl trivial);obtain⟨q1,q2,q3⟩:=JT (k:=7) (x:=u') (v':={ v with R:=u' }) o1 rfl;have F3:=F2.set (i:= .bd) (.inl trivial) (r:=Ha D { v with R:=u' }) q2 (.inl rfl) q1;have hs:w.heap.size<=w1.heap.size:=k1.size
 have hf:∀j,Ax D { v with R:=u' } nv (rv++[u]) { b with rws:=b.rws++[zs] } j=JC (JC (JC (Ax D v nv rv b) (.rw rv.length) (Bn zs u)) .rws (EP 28 (rv++[u]) u')) .bd (Ha D { v with R:=u' }) j:=fun j=>by
  cases j with
  |rw q=>
   rw[AV _ _ (by simp),AV _ _ (by simp)];show Bn ((b.rws++[zs]).getD q []) ((rv++[u]).getD q AE)=_;rw[EW,EW,<-h.lr];by_cases e:q=rv.length
   . subst e;rw[Ap,if_pos rfl,if_pos rfl]
   . rw[AV _ _ (by simpa using e),if_neg e,if_neg e];rfl
  |_=>rfl
 have hne:some D≠v.R.ownBlock:=by
  rcases h.Ai.apart .bd .rws trivial trivial (by simp) with e|e
  . cases e
  . exact e
 refine⟨h.mk2 (F3.congr (fun j hj=>?_) (fun j _=>hf j)) h.ln (by rw[List.length_append];simp[h.lr]) rfl (Nat.le_trans hs (Nat.le_trans hg.size q2.size)) (((h.work.kept k1.grownBy (by simp)).kept hg (fun g e=>h.out .rws trivial g e)).kept q2 h.nD) (fun j hj k hk=>?_),?_,q3⟩
 ·
  cases j with
  |rw q=>
   have hq:q<(rv++[u]).length:=hj;rw[List.length_append] at hq;by_cases e:q=rv.length
   . exact .inr (by rw[e])
   . exact .inl (show q<rv.length by simp at hq;omega)
  |nt q=>exact .inl hj
  |_=>exact .inl trivial
 ·
  cases j with
  |rw q=>
   have hk:((rv++[u]).getD q AE).ownBlock=some k:=hk;rw[EW] at hk;by_cases e:q=rv.length
   . rw[if_pos e] at hk;exact .inr (hu k hk)
   ·
    rw[if_neg e] at hk;have hq:q<(rv++[u]).length:=hj;rw[List.length_append] at hq;exact .inl ⟨.rw q,show q<rv.length by simp at hq;omega,hk⟩
  |rws=>
   have hk:u'.ownBlock=some k:=hk;rcases hb with e|e|e
   . exact .inl ⟨.rws,trivial,by rw[<-hk,e];rfl⟩
   . rw[e] at hk;exact .inr (by have:=Option.some.inj hk;omega)
   . rw[e] at hk;cases hk
  |nt q=>exact .inl ⟨.nt q,hj,hk⟩
  |bd=>exact .inl ⟨.bd,trivial,hk⟩
  |AM=>exact .inl ⟨.AM,trivial,hk⟩
  |AO=>exact .inl ⟨.AO,trivial,hk⟩
  |AL=>exact .inl ⟨.AL,trivial,hk⟩
  |sn=>exact .inl ⟨.sn,trivial,hk⟩
  |fr=>exact .inl ⟨.fr,trivial,hk⟩
  |AG=>exact .inl ⟨.AG,trivial,hk⟩
 ·
  have hD:=h.base.2;have e1:w2.cell? ⟨D,7,none⟩=w1.cell? ⟨D,7,none⟩:=World.cell?_of_block (w:=w1) (hg.block D (by omega) hne);rw[e1,k1.cell hD];exact h.cells.2.2.2.2.2.2.2
end
end
section
def JO (s:Nat)(V:Nat->Value)(ln:Nat->Nat):Nat->List (Value×Nat)
 | 0=>[]
 |n+1=>JO s V ln n++[(V n,s*ln n)]
theorem PU (s:Nat)(V:Nat->Value)(ln:Nat->Nat):∀n (r:Value×Nat),r∈JO s V ln n↔∃i,i<n/\r=(V i,s*ln i)
 | 0,r=>by simp[JO]
 |n+1,r=>by
  rw[JO,List.mem_append,PU s V ln n r,List.mem_singleton];constructor
  ·
   rintro (⟨i,hi,e⟩|e)
   . exact⟨i,by omega,e⟩
   . exact⟨n,by omega,e⟩
  ·
   rintro⟨i,hi,e⟩;by_cases h:i=n
   . subst h;exact .inr e
   . exact .inl ⟨i,by omega,e⟩
def Xc (v:Value)(n:Nat):Prop:=∃a c,v = .slice a n c/\(n=0\/∃b o,a=some ⟨b,o,none⟩)
section
variable (v:BV) (Vw Vn Vr:Nat->Value) (AA:List (List Dd)) (b:Bd)
def qa:List (Value×Nat):=JO 4 Vw (fun i=>(AA.getD i []).length) AA.length
def qb:List (Value×Nat):=qa Vw AA++[(v.P,b.AM.length)]
def qc:List (Value×Nat):=qb v Vw AA b++[(v.L,b.AO.length)]
def qd:List (Value×Nat):=qc v Vw AA b++JO 3 Vn (fun i=>(b.AG.getD i []).length) b.AG.length
def qf:List (Value×Nat):=qd v Vw Vn AA b++[(v.X,b.AL.length)]
def qg:List (Value×Nat):=qf v Vw Vn AA b++[(v.S,b.sn.length)]
def qh:List (Value×Nat):=qg v Vw Vn AA b++[(v.F,b.fr.length)]
def Nx:List (Value×Nat):=qh v Vw Vn AA b++JO 1 Vr (fun i=>(b.rws.getD i []).length) b.rws.length
end
def Xz (w:World)(v:Value)(V:Nat->Value)(n:Nat)(S:Addr->Prop):Prop:=
 ∃a c,v = .slice a n c/\(n=0\/∃b o,a=some ⟨b,o,none⟩/\b<w.heap.size/\∀i,i<n->w.cell? ⟨b,o+i,none⟩=some (V i)/\¬S ⟨b,o+i,none⟩)
theorem Xz.keep {w w':World}{v:Value}{V:Nat->Value}{n:Nat}{S:Addr->Prop}(h:Xz w v V n S)(k:AC w w'):Xz w' v V n S:=by
 obtain⟨a,c,e,h⟩:=h;refine⟨a,c,e,?_⟩;rcases h with h|⟨b,o,ea,hb,hc⟩
 . exact .inl h
 . exact .inr ⟨b,o,ea,Nat.lt_of_lt_of_le hb k.size,fun i hi=>⟨(k.cell hb).trans (hc i hi).1,(hc i hi).2⟩⟩
structure dI (w:World)(v:BV)(Vw Vn Vr:Nat->Value)(AA:List (List Dd))(b:Bd):Prop where
 hW:Xz w v.W Vw AA.length (IV (Nx v Vw Vn Vr AA b))
 sW:∀i,i<AA.length->Xc (Vw i) (AA.getD i []).length
 sP:Xc v.P b.AM.length
 sL:Xc v.L b.AO.length
 hN:Xz w v.N Vn b.AG.length (IV (Nx v Vw Vn Vr AA b))
 sN:∀i,i<b.AG.length->Xc (Vn i) (b.AG.getD i []).length
 sX:Xc v.X b.AL.length
 sS:Xc v.S b.sn.length
 sF:Xc v.F b.fr.length
 hR:Xz w v.R Vr b.rws.length (IV (Nx v Vw Vn Vr AA b))
 sR:∀i,i<b.rws.length->Xc (Vr i) (b.rws.getD i []).length
section
variable {w w':World} {v:BV} {Vw Vn Vr:Nat->Value} {AA:List (List Dd)} {b:Bd}
theorem dI.keep (h:dI w v Vw Vn Vr AA b)(k:AC w w'):dI w' v Vw Vn Vr AA b:=
 ⟨h.hW.keep k,h.sW,h.sP,h.sL,h.hN.keep k,h.sN,h.sX,h.sS,h.sF,h.hR.keep k,h.sR⟩
end
end
abbrev S6 (ds:List Dd)(v:Value):Rw:=⟨65,4,v,ds.length,ds.flatMap cD⟩
section
inductive BJ where
 |b (i:BI)
 |wk
 |wd (c:Nat) deriving DecidableEq
def JE (v:BV)(nv rv wv:List Value)(AA:List (List Dd))(b:Bd):BJ->Rw
 | .b i=>Ax 0 v nv rv b i
 | .wk=>EP 62 wv v.W
 | .wd c=>S6 (AA.getD c []) (wv.getD c AE)
def Ew (nv rv wv:List Value):BJ->Prop
 | .b i=>BZ nv rv i/\i≠.bd
 | .wk=>True
 | .wd c=>c<wv.length
structure Fy (w:World)(m:Nat)(v:BV)(nv rv wv:List Value)(AA:List (List Dd))(b:Bd):Prop where
 Ai:GH w m (Ew nv rv wv) (JE v nv rv wv AA b)
 ln:nv.length=b.AG.length
 lr:rv.length=b.rws.length
 lw:wv.length=AA.length
theorem GH.RX {ι:Type}{w:World}{m m':Nat}{live:ι->Prop}{R:ι->Rw}(h:GH w m live R)(hm:m'<=m):GH w m' live R:=⟨fun i hi=>DS (h.own i hi) hm,h.apart⟩
section
variable {w w':World} {m:Nat} {v:BV} {nv rv wv:List Value} {AA:List (List Dd)} {b:Bd}
theorem Fy.far (h:Fy w m v nv rv wv AA b){g:Nat}(hg:w.grownBy w' (some g))(hl:g<m):Fy w' m v nv rv wv AA b:=
 ⟨h.Ai.far hg (fun i hi=>by
  cases e:(JE v nv rv wv AA b i).v.ownBlock with
  |none=>exact .inl rfl
  |some k=>exact .inr (fun e'=>by have:=(h.Ai.lt hi k e).1;have:=Option.some.inj e';omega)),h.ln,h.lr,h.lw⟩
theorem Fy.rd (h:Fy w m v nv rv wv AA b):CV w v AA b:=by
 have oN:∀ {c:Nat},c<b.AG.length->B5 cN 104 3 w m (nv.getD c AE) (b.AG.getD c []):=fun {c} hc=>h.Ai.own (.b (.nt c)) ⟨by show c<nv.length;rw[h.ln];exact hc,by simp⟩
 have oR:∀ {p:Nat},p<b.rws.length->BM w m (rv.getD p AE) (b.rws.getD p []):=fun {p} hp=>h.Ai.own (.b (.rw p)) ⟨by show p<rv.length;rw[h.lr];exact hp,by simp⟩
 have oW:∀ {c:Nat},c<AA.length->Br w m (wv.getD c AE) (AA.getD c []):=fun {c} hc=>h.Ai.own (.wd c) (by show c<wv.length;rw[h.lw];exact hc)
 have o1:BM w m v.P b.AM:=h.Ai.own (.b .AM) ⟨trivial,by simp⟩;have o2:BM w m v.L b.AO:=h.Ai.own (.b .AO) ⟨trivial,by simp⟩;have o3:BM w m v.X b.AL:=h.Ai.own (.b .AL) ⟨trivial,by simp⟩;have o4:BM w m v.S b.sn:=h.Ai.own (.b .sn) ⟨trivial,by simp⟩;have o5:BM w m v.F b.fr:=h.Ai.own (.b .fr) ⟨trivial,by simp⟩;refine⟨?_,o1.rd,o2.rd,?_,o3.rd,o4.rd,o5.rd,?_⟩
 ·
  obtain⟨a,cap,e,h1⟩:=Bt (h.Ai.own .wk trivial);rw[h.lw] at e;refine⟨a,cap,e,?_⟩;rcases h1 with h1|⟨g,e1,e2,e3⟩
  ·
   left;have:=h.lw;rw[h1] at this;exact List.eq_nil_of_length_eq_zero this.symm
  . exact .inr ⟨g,0,e1,e2,fun i hi=>⟨_,by rw[Nat.zero_add];exact e3 i (by rw[h.lw];exact hi),(oW hi).SX.rd⟩⟩
 ·
  obtain⟨a,cap,e,h1⟩:=Bt (h.Ai.own (.b .AG) ⟨trivial,by simp⟩);rw[h.ln] at e;refine⟨a,cap,e,?_⟩;rcases h1 with h1|⟨g,e1,e2,e3⟩
  ·
   left;have:=h.ln;rw[h1] at this;exact List.eq_nil_of_length_eq_zero this.symm
  . exact .inr ⟨g,0,e1,e2,fun i hi=>⟨_,by rw[Nat.zero_add];exact e3 i (by rw[h.ln];exact hi),B5.rd EE (oN hi)⟩⟩
 ·
  obtain⟨a,cap,e,h1⟩:=Bt (h.Ai.own (.b .rws) ⟨trivial,by simp⟩);rw[h.lr] at e;refine⟨a,cap,e,?_⟩;rcases h1 with h1|⟨g,e1,e2,e3⟩
  ·
   left;have:=h.lr;rw[h1] at this;exact List.eq_nil_of_length_eq_zero this.symm
  . exact .inr ⟨g,0,e1,e2,fun i hi=>⟨_,by rw[Nat.zero_add];exact e3 i (by rw[h.lr];exact hi),(oR hi).rd⟩⟩
end
end
section
def dJ (v:Value)(n m:Nat):Prop:=∀b o l c,v = .slice (some ⟨b,o,none⟩) l c->0<n->m<=b
structure Cf (w:World)(m M:Nat)(v:BV)(AA:List (List Dd))(b:Bd):Prop where
 rd:CV w v AA b
 ex:∃Vw Vn Vr:Nat->Value,dI w v Vw Vn Vr AA b/\RA w (Nx v Vw Vn Vr AA b)/\∀x,IV (Nx v Vw Vn Vr AA b) x->m<=x.block/\x.block<M
 hd:dJ v.W AA.length m/\dJ v.N b.AG.length m/\dJ v.R b.rws.length m
theorem Cf.keep {w w':World}{m M:Nat}{v:BV}{AA:List (List Dd)}{b:Bd}(h:Cf w m M v AA b)(k:AC w w'):Cf w' m M v AA b:=by
 obtain⟨Vw,Vn,Vr,h1,h2,h3⟩:=h.ex;exact⟨h.rd.keep k,⟨Vw,Vn,Vr,h1.keep k,h2.keep k,h3⟩,h.hd⟩
theorem LV (s:Nat)(V:Nat->Value)(ln:Nat->Nat):∀n,JO s V ln n=(List.range n).map (fun i=>(V i,s*ln i))
 | 0=>rfl
 |n+1=>by rw[JO,LV s V ln n,List.range_succ,List.map_append];rfl
def Mc (nw nn nr:Nat):List BJ:=(((((((List.range nw).map BJ.wd++[.b .AM])++[.b .AO])++(List.range nn).map (fun c=>BJ.b (.nt c)))++[.b .AL])++[.b .sn])++[.b .fr])++(List.range nr).map (fun p=>BJ.b (.rw p))
def Qo (v:BV)(Vw Vn Vr:Nat->Value)(AA:List (List Dd))(b:Bd):BJ->Value×Nat
 | .wd c=>(Vw c,4*(AA.getD c []).length)
 | .b .AM=>(v.P,b.AM.length)
 | .b .AO=>(v.L,b.AO.length)
 | .b (.nt c)=>(Vn c,3*(b.AG.getD c []).length)
 | .b .AL=>(v.X,b.AL.length)
 | .b .sn=>(v.S,b.sn.length)
 | .b .fr=>(v.F,b.fr.length)
 | .b (.rw p)=>(Vr p,1*(b.rws.getD p []).length)
 |_=>(v.W,0)
theorem Dj (v:BV)(Vw Vn Vr:Nat->Value)(AA:List (List Dd))(b:Bd):Nx v Vw Vn Vr AA b=(Mc AA.length b.AG.length b.rws.length).map (Qo v Vw Vn Vr AA b):=by
 unfold Nx qh qg qf qd qc qb qa Mc;simp only[LV,List.map_append,List.map_map,List.map_cons,List.map_nil];rfl
theorem Fp {nw nn nr:Nat}{j:BJ}(h:j∈Mc nw nn nr):(∃c,c<nw/\j = .wd c)\/j = .b .AM\/j = .b .AO\/(∃c,c<nn/\j = .b (.nt c))\/j = .b .AL\/j = .b .sn\/j = .b .fr\/∃p,p<nr/\j = .b (.rw p):=by
 unfold Mc at h;simp only[List.mem_append,List.mem_map,List.mem_range,List.mem_singleton] at h;rcases h with ((((((⟨c,hc,rfl⟩|h)|h)|⟨c,hc,rfl⟩)|h)|h)|h)|⟨c,hc,rfl⟩
 . exact .inl ⟨c,hc,rfl⟩
 . exact .inr (.inl h)
 . exact .inr (.inr (.inl h))
 . exact .inr (.inr (.inr (.inl ⟨c,hc,rfl⟩)))
 . exact .inr (.inr (.inr (.inr (.inl h))))
 . exact .inr (.inr (.inr (.inr (.inr (.inl h)))))
 . exact .inr (.inr (.inr (.inr (.inr (.inr (.inl h))))))
 . exact .inr (.inr (.inr (.inr (.inr (.inr (.inr ⟨c,hc,rfl⟩))))))
theorem GF {α β:Type}{f:α->β}{l:List α}(h:l.Nodup)(hf:∀a b,f a=f b->a=b):(l.map f).Nodup:=by
 unfold List.Nodup;rw[List.pairwise_map];exact h.imp (fun {a b} hne e=>hne (hf a b e))
theorem Og (nw nn nr:Nat):(Mc nw nn nr).Nodup:=by
 have h1:=GF (f:=BJ.wd) (List.nodup_range (n:=nw)) (fun a b e=>by injection e);have h2:=GF (f:=fun c=>BJ.b (.nt c)) (List.nodup_range (n:=nn)) (fun a b e=>by injection e with e;injection e);have h3:=GF (f:=fun c=>BJ.b (.rw c)) (List.nodup_range (n:=nr)) (fun a b e=>by injection e with e;injection e);unfold Mc;have one:∀j:BJ,[j].Nodup:=fun j=>by simp
 refine List.nodup_append.2 ⟨List.nodup_append.2 ⟨List.nodup_append.2 ⟨List.nodup_append.2 ⟨List.nodup_append.2 ⟨List.nodup_append.2 ⟨List.nodup_append.2 ⟨h1,one _,?_⟩,one _,?_⟩,h2,?_⟩,one _,?_⟩,one _,?_⟩,one _,?_⟩,h3,?_⟩
 all_goals
  intro x hx y hy e;subst e;simp only[List.mem_append,List.mem_map,List.mem_range,List.mem_singleton] at hx hy
  first
   | (subst hy;simp at hx;done)
   | (obtain⟨q,_,rfl⟩:=hy;simp at hx;done)
theorem Rw.wb {w:World}{m:Nat}{r:Rw}(h:r.own w m){n:Nat}(hn:n<=r.n*r.size){x:Addr}(hx:IU r.v n x):Wb w x/\m<=x.block/\r.v.ownBlock=some x.block:=by
 obtain⟨b,o,l,c,i,e,hi,rfl⟩:=hx;unfold Rw.own at h;rcases h.2 with ⟨h1,_⟩|⟨g,cap,cur,h1,hb,hg,hc,_,hs,_⟩
 . rw[h1] at e;simp at e
 ·
  rw[h1] at e;simp only[Value.slice.injEq,Option.some.injEq,Addr.mk.injEq,and_true] at e;obtain⟨⟨rfl,rfl⟩,rfl,rfl⟩:=e;refine⟨⟨cur,r.e,hg,?_⟩,hb,by rw[h1];rfl⟩;rw[hs];have:r.n*r.size<=cap*r.size:=Nat.mul_le_mul_right _ hc;show 0+i<cap*r.size;omega
theorem Rw.Sj {w:World}{m:Nat}{r:Rw}(h:r.own w m):Xc r.v r.n:=by
 unfold Rw.own at h;rcases h.2 with ⟨h1,h2⟩|⟨g,cap,cur,h1,_⟩
 . exact⟨none,0,by rw[h1,h2],.inl h2⟩
 . exact⟨_,cap,h1,.inr ⟨g,0,rfl⟩⟩
section
variable {w:World} {m:Nat} {v:BV} {nv rv wv:List Value} {AA:List (List Dd)} {b:Bd}
theorem Fy.row (h:Fy w m v nv rv wv AA b){j:BJ}(hj:j∈Mc AA.length b.AG.length b.rws.length):
  Ew nv rv wv j/\(Qo v (fun i=>wv.getD i AE) (fun i=>nv.getD i AE) (fun i=>rv.getD i AE) AA b j).1=(JE v nv rv wv AA b j).v /\
  (Qo v (fun i=>wv.getD i AE) (fun i=>nv.getD i AE) (fun i=>rv.getD i AE) AA b j).2<=(JE v nv rv wv AA b j).n*(JE v nv rv wv AA b j).size:=by
 rcases Fp hj with ⟨c,hc,rfl⟩|rfl|rfl|⟨c,hc,rfl⟩|rfl|rfl|rfl|⟨c,hc,rfl⟩
 . exact⟨by show c<wv.length;rw[h.lw];exact hc,rfl,by show 4*(AA.getD c []).length<=(AA.getD c []).length*4;omega⟩
 . exact⟨⟨trivial,by simp⟩,rfl,by show b.AM.length<=b.AM.length*1;omega⟩
 . exact⟨⟨trivial,by simp⟩,rfl,by show b.AO.length<=b.AO.length*1;omega⟩
 . exact⟨⟨by show c<nv.length;rw[h.ln];exact hc,by simp⟩,rfl,by show 3*(b.AG.getD c []).length<=(b.AG.getD c []).length*3;omega⟩
 . exact⟨⟨trivial,by simp⟩,rfl,by show b.AL.length<=b.AL.length*1;omega⟩
 . exact⟨⟨trivial,by simp⟩,rfl,by show b.sn.length<=b.sn.length*1;omega⟩
 . exact⟨⟨trivial,by simp⟩,rfl,by show b.fr.length<=b.fr.length*1;omega⟩
 . exact⟨⟨by show c<rv.length;rw[h.lr];exact hc,by simp⟩,rfl,by show 1*(b.rws.getD c []).length<=(b.rws.getD c []).length*1;omega⟩
theorem Fy.heads (h:Fy w m v nv rv wv AA b){j:BJ}{t:TypeId}{vs:List Value}{u:Value}(hl:Ew nv rv wv j)(e:JE v nv rv wv AA b j=EP t vs u)(hj:j∉Mc AA.length b.AG.length b.rws.length):
  Xz w u (fun i=>vs.getD i AE) vs.length (IV (Nx v (fun i=>wv.getD i AE) (fun i=>nv.getD i AE) (fun i=>rv.getD i AE) AA b)):=by
 have ho:=h.Ai.own j hl;rw[e] at ho;obtain⟨a,c,ea,h1⟩:=Bt ho;refine⟨a,c,ea,?_⟩;rcases h1 with h1|⟨g,e1,e2,e3⟩
 . exact .inl (by rw[h1];rfl)
 ·
  refine .inr ⟨g,0,e1,e2,fun i hi=>⟨by rw[Nat.zero_add];exact e3 i hi,?_⟩⟩;rintro⟨r,hr,hx⟩;rw[Dj,List.mem_map] at hr;obtain⟨q,hq,rfl⟩:=hr;obtain⟨l1,l2,l3⟩:=h.row hq;rw[l2] at hx;obtain⟨-,-,hb⟩:=Rw.wb (h.Ai.own q l1) l3 hx;have ap:=h.Ai.apart q j l1 hl (fun e=>hj (e ▸ hq));rw[hb,e] at ap;rcases ap with ap|ap
  . cases ap
  ·
   apply ap;show _=u.ownBlock;rw[ea,e1];rfl
theorem Fy.P6 (h:Fy w m v nv rv wv AA b){j:BJ}(hl:Ew nv rv wv j)(n:Nat):dJ (JE v nv rv wv AA b j).v n m:=by
 intro q o l c e _;exact (h.Ai.lt hl q (by rw[e];rfl)).1
theorem Fy.free (h:Fy w m v nv rv wv AA b):Cf w m w.heap.size v AA b:=by
 refine⟨h.rd,⟨fun i=>wv.getD i AE,fun i=>nv.getD i AE,fun i=>rv.getD i AE,?_,⟨?_,?_⟩,?_⟩,h.P6 (j:= .wk) trivial _,h.P6 (j:= .b .AG) ⟨trivial,by simp⟩ _,h.P6 (j:= .b .rws) ⟨trivial,by simp⟩ _⟩
 ·
  have hw:=h.heads (j:= .wk) (t:=62) (vs:=wv) (u:=v.W) trivial rfl (fun hq=>by have:=Fp hq;simp at this);have hn:=h.heads (j:= .b .AG) (t:=101) (vs:=nv) (u:=v.N) ⟨trivial,by simp⟩ rfl (fun hq=>by have:=Fp hq;simp at this);have hr:=h.heads (j:= .b .rws) (t:=28) (vs:=rv) (u:=v.R) ⟨trivial,by simp⟩ rfl (fun hq=>by have:=Fp hq;simp at this);rw[h.lw] at hw;rw[h.ln] at hn;rw[h.lr] at hr
  exact⟨hw,fun i hi=>Rw.Sj (h.Ai.own (.wd i) (by show i<wv.length;rw[h.lw];exact hi)),Rw.Sj (h.Ai.own (.b .AM) ⟨trivial,by simp⟩),Rw.Sj (h.Ai.own (.b .AO) ⟨trivial,by simp⟩),hn,
   fun i hi=>Rw.Sj (h.Ai.own (.b (.nt i)) ⟨by show i<nv.length;rw[h.ln];exact hi,by simp⟩),Rw.Sj (h.Ai.own (.b .AL) ⟨trivial,by simp⟩),Rw.Sj (h.Ai.own (.b .sn) ⟨trivial,by simp⟩),Rw.Sj (h.Ai.own (.b .fr) ⟨trivial,by simp⟩),hr,
   fun i hi=>Rw.Sj (h.Ai.own (.b (.rw i)) ⟨by show i<rv.length;rw[h.lr];exact hi,by simp⟩)⟩
 ·
  rintro x ⟨r,hr,hx⟩;rw[Dj,List.mem_map] at hr;obtain⟨q,hq,rfl⟩:=hr;obtain⟨l1,l2,l3⟩:=h.row hq;rw[l2] at hx;exact (Rw.wb (h.Ai.own q l1) l3 hx).1
 ·
  rw[Dj,List.pairwise_map];refine List.Pairwise.imp_of_mem (R:=fun a b=>a≠b) (fun {p q} hp hq hne x hx hy=>?_) (Og _ _ _);obtain⟨l1,l2,l3⟩:=h.row hp;obtain⟨k1,k2,k3⟩:=h.row hq;rw[l2] at hx;rw[k2] at hy;have a1:=(Rw.wb (h.Ai.own p l1) l3 hx).2.2;have a2:=(Rw.wb (h.Ai.own q k1) k3 hy).2.2;rcases h.Ai.apart p q l1 k1 hne with ap|ap
  . rw[a1] at ap;cases ap
  . rw[a1,a2] at ap;exact ap rfl
 ·
  rintro x ⟨r,hr,hx⟩;rw[Dj,List.mem_map] at hr;obtain⟨q,hq,rfl⟩:=hr;obtain⟨l1,l2,l3⟩:=h.row hq;rw[l2] at hx;have:=Rw.wb (h.Ai.own q l1) l3 hx;exact⟨this.2.1,this.1.lt⟩
end
theorem GX {w w':World}{m:Nat}(hh:∀q,m<=q->q<w.heap.size->w'.heap[q]? = w.heap[q]?)(hs:w.heap.size<=w'.heap.size){v:Value}{zs:List Int}(h:Rd w v zs)(hr:∀x,IU v zs.length x->m<=x.block):Rd w' v zs:=by
 obtain⟨a,c,rfl,h⟩:=h;refine⟨a,c,rfl,?_⟩;rcases h with h|⟨b,o,rfl,hb,hc⟩
 . exact .inl h
 ·
  by_cases hz:zs.length=0
  . exact .inl (List.eq_nil_of_length_eq_zero hz)
  have hm:=hr ⟨b,o+0,none⟩ ⟨b,o,_,c,0,rfl,by omega,rfl⟩;exact .inr ⟨b,o,rfl,Nat.lt_of_lt_of_le hb hs,fun i hi=>(World.cell?_of_block (a:=⟨b,o+i,none⟩) (hh b hm hb)).trans (hc i hi)⟩
theorem Wp {w w':World}{m:Nat}(hh:∀q,m<=q->q<w.heap.size->w'.heap[q]? = w.heap[q]?)(hs:w.heap.size<=w'.heap.size){v:Value}{zs:List Nt}(h:jK w v zs)(hr:∀x,IU v (3*zs.length) x->m<=x.block):jK w' v zs:=by
 obtain⟨a,c,rfl,h⟩:=h;refine⟨a,c,rfl,?_⟩;rcases h with h|⟨b,o,rfl,hb,hc⟩
 . exact .inl h
 ·
  by_cases hz:zs.length=0
  . exact .inl (List.eq_nil_of_length_eq_zero hz)
  have hm:=hr ⟨b,o+0,none⟩ ⟨b,o,_,_,0,rfl,by omega,rfl⟩;exact .inr ⟨b,o,rfl,Nat.lt_of_lt_of_le hb hs,fun i x hx=>(hc i x hx).same (hh b hm hb)⟩
theorem Wo {w w':World}{m:Nat}(hh:∀q,m<=q->q<w.heap.size->w'.heap[q]? = w.heap[q]?)(hs:w.heap.size<=w'.heap.size){v:Value}{zs:List Dd}(h:MC w v zs)(hr:∀x,IU v (4*zs.length) x->m<=x.block):MC w' v zs:=by
 obtain⟨a,c,rfl,h⟩:=h;refine⟨a,c,rfl,?_⟩;rcases h with h|⟨b,o,rfl,hb,hc⟩
 . exact .inl h
 ·
  by_cases hz:zs.length=0
  . exact .inl (List.eq_nil_of_length_eq_zero hz)
  have hm:=hr ⟨b,o+0,none⟩ ⟨b,o,_,_,0,rfl,by omega,rfl⟩;refine .inr ⟨b,o,rfl,Nat.lt_of_lt_of_le hb hs,fun i hi=>?_⟩;obtain⟨c0,c1,c2,c3⟩:=hc i hi;have e:=hh b hm hb;exact⟨(World.cell?_of_block (a:=⟨b,_,none⟩) e).trans c0,(World.cell?_of_block (a:=⟨b,_,none⟩) e).trans c1,(World.cell?_of_block (a:=⟨b,_,none⟩) e).trans c2,(World.cell?_of_block (a:=⟨b,_,none⟩) e).trans c3⟩
theorem Mv {w w':World}{m:Nat}(hh:∀q,m<=q->q<w.heap.size->w'.heap[q]? = w.heap[q]?)(hs:w.heap.size<=w'.heap.size){v:Value}{V:Nat->Value}{n:Nat}{S:Addr->Prop}(h:Xz w v V n S)(hm:dJ v n m):Xz w' v V n S:=by
 obtain⟨a,c,rfl,h⟩:=h;refine⟨a,c,rfl,?_⟩;rcases h with h|⟨b,o,rfl,hb,hc⟩
 . exact .inl h
 ·
  by_cases hz:n=0
  . exact .inl hz
  . exact .inr ⟨b,o,rfl,Nat.lt_of_lt_of_le hb hs,fun i hi=>⟨(World.cell?_of_block (a:=⟨b,o+i,none⟩) (hh b (hm b o n c rfl (by omega)) hb)).trans (hc i hi).1,(hc i hi).2⟩⟩
theorem nG {v:BV}{Vw Vn Vr:Nat->Value}{AA:List (List Dd)}{b:Bd}{j:BJ}(hj:j∈Mc AA.length b.AG.length b.rws.length){x:Addr}(hx:IU (Qo v Vw Vn Vr AA b j).1 (Qo v Vw Vn Vr AA b j).2 x):IV (Nx v Vw Vn Vr AA b) x:=
 ⟨_,by rw[Dj];exact List.mem_map.2 ⟨j,hj,rfl⟩,hx⟩
theorem qZ {nw nn nr c:Nat}(h:c<nw):BJ.wd c∈Mc nw nn nr:=by simp[Mc,h]
theorem qW {nw nn nr c:Nat}(h:c<nn):BJ.b (.nt c)∈Mc nw nn nr:=by simp[Mc,h]
theorem qY {nw nn nr c:Nat}(h:c<nr):BJ.b (.rw c)∈Mc nw nn nr:=by simp[Mc,h]
theorem Cf.above {w w':World}{m M:Nat}{v:BV}{AA:List (List Dd)}{b:Bd}(h:Cf w m M v AA b)(hh:∀q,m<=q->q<w.heap.size->w'.heap[q]? = w.heap[q]?)(hs:w.heap.size<=w'.heap.size):Cf w' m M v AA b:=by
 obtain⟨Vw,Vn,Vr,H,L,G⟩:=h.ex;obtain⟨d1,d2,d3⟩:=h.hd;have gr:∀j,j∈Mc AA.length b.AG.length b.rws.length->∀x,IU (Qo v Vw Vn Vr AA b j).1 (Qo v Vw Vn Vr AA b j).2 x->m<=x.block:=fun j hj x hx=>(G x (nG hj hx)).1
 refine⟨⟨?_,GX hh hs h.rd.P (gr (.b .AM) (by simp[Mc])),GX hh hs h.rd.L (gr (.b .AO) (by simp[Mc])),?_,GX hh hs h.rd.X (gr (.b .AL) (by simp[Mc])),GX hh hs h.rd.S (gr (.b .sn) (by simp[Mc])),GX hh hs h.rd.F (gr (.b .fr) (by simp[Mc])),?_⟩,⟨Vw,Vn,Vr,⟨Mv hh hs H.hW d1,H.sW,H.sP,H.sL,Mv hh hs H.hN d2,H.sN,H.sX,H.sS,H.sF,Mv hh hs H.hR d3,H.sR⟩,⟨fun x hx=>?_,L.ap⟩,G⟩,h.hd⟩
 ·
  obtain⟨a,c,e,hw⟩:=h.rd.W;refine⟨a,c,e,?_⟩;rcases hw with hw|⟨q,o,rfl,hq,hc⟩
  . exact .inl hw
  ·
   by_cases hz:AA.length=0
   . exact .inl (List.eq_nil_of_length_eq_zero hz)
   obtain⟨a',c',e',H1⟩:=H.hW;rw[e] at e';simp only[Value.slice.injEq,true_and] at e';obtain⟨rfl,rfl⟩:=e';rcases H1 with H1|⟨q',o',e2,_,H2⟩
   . exact absurd H1 hz
   simp only[Option.some.injEq,Addr.mk.injEq,and_true] at e2;obtain⟨rfl,rfl⟩:=e2;refine .inr ⟨q,o,rfl,Nat.lt_of_lt_of_le hq hs,fun i hi=>?_⟩;obtain⟨vi,h1,h2⟩:=hc i hi;have ev:vi=Vw i:=by have:=h1.symm.trans (H2 i hi).1;exact Option.some.inj this
   subst ev;exact⟨_,(World.cell?_of_block (a:=⟨q,o+i,none⟩) (hh q (d1 q o _ _ e (by omega)) hq)).trans h1,Wo hh hs h2 (gr (.wd i) (qZ hi))⟩
 ·
  obtain⟨a,c,e,hw⟩:=h.rd.N;refine⟨a,c,e,?_⟩;rcases hw with hw|⟨q,o,rfl,hq,hc⟩
  . exact .inl hw
  ·
   by_cases hz:b.AG.length=0
   . exact .inl (List.eq_nil_of_length_eq_zero hz)
   obtain⟨a',c',e',H1⟩:=H.hN;rw[e] at e';simp only[Value.slice.injEq,true_and] at e';obtain⟨rfl,rfl⟩:=e';rcases H1 with H1|⟨q',o',e2,_,H2⟩
   . exact absurd H1 hz
   simp only[Option.some.injEq,Addr.mk.injEq,and_true] at e2;obtain⟨rfl,rfl⟩:=e2;refine .inr ⟨q,o,rfl,Nat.lt_of_lt_of_le hq hs,fun i hi=>?_⟩;obtain⟨vi,h1,h2⟩:=hc i hi;have ev:vi=Vn i:=by have:=h1.symm.trans (H2 i hi).1;exact Option.some.inj this
   subst ev;exact⟨_,(World.cell?_of_block (a:=⟨q,o+i,none⟩) (hh q (d2 q o _ _ e (by omega)) hq)).trans h1,Wp hh hs h2 (gr (.b (.nt i)) (qW hi))⟩
 ·
  obtain⟨a,c,e,hw⟩:=h.rd.R;refine⟨a,c,e,?_⟩;rcases hw with hw|⟨q,o,rfl,hq,hc⟩
  . exact .inl hw
  ·
   by_cases hz:b.rws.length=0
   . exact .inl (List.eq_nil_of_length_eq_zero hz)
   obtain⟨a',c',e',H1⟩:=H.hR;rw[e] at e';simp only[Value.slice.injEq,true_and] at e';obtain⟨rfl,rfl⟩:=e';rcases H1 with H1|⟨q',o',e2,_,H2⟩
   . exact absurd H1 hz
   simp only[Option.some.injEq,Addr.mk.injEq,and_true] at e2;obtain⟨rfl,rfl⟩:=e2;refine .inr ⟨q,o,rfl,Nat.lt_of_lt_of_le hq hs,fun i hi=>?_⟩;obtain⟨vi,h1,h2⟩:=hc i hi;have ev:vi=Vr i:=by have:=h1.symm.trans (H2 i hi).1;exact Option.some.inj this
   subst ev;exact⟨_,(World.cell?_of_block (a:=⟨q,o+i,none⟩) (hh q (d3 q o _ _ e (by omega)) hq)).trans h1,GX hh hs h2 (fun x hx=>gr (.b (.rw i)) (qY hi) x (by show IU _ (1*_) x;rw[Nat.one_mul];exact hx))⟩
 ·
  obtain⟨cur,t,h1,h2⟩:=L.wb x hx;exact⟨cur,t,(hh _ (G x hx).1 (L.wb x hx).lt).trans h1,h2⟩
end
theorem Br.kept {w w':World}{base:Nat}{v:Value}{ds:List Dd}{row:Option Nat}(h:Br w base v ds)(hg:w.grownBy w' row)(hne:v.ownBlock=none\/v.ownBlock≠row):Br w' base v ds:=
 World.ownsRow.kept h hg hne
theorem Br.lt {w:World}{base:Nat}{v:Value}{ds:List Dd}(h:Br w base v ds):∀k,v.ownBlock=some k->base<=k/\k<w.heap.size:=World.ownsRow.lt h
theorem Br.Az {w:World}{base base':Nat}{v:Value}{ds:List Dd}(h:Br w base v ds)(hb:base'<=base):Br w base' v ds:=by
 refine⟨h.1,?_⟩;rcases h.2 with q|⟨g,cap,cur,e,hg,r⟩
 . exact .inl q
 . exact .inr ⟨g,cap,cur,e,Nat.le_trans hb hg,r⟩
theorem GV {v:Value}{base c:Nat}(h:∀k,v.ownBlock=some k->base<=k)(hc:c<base):v.ownBlock=none\/v.ownBlock≠some c:=by
 cases hv:v.ownBlock with
 |none=>exact .inl rfl
 |some k=>exact .inr (fun e=>by have:=h k hv;simp at e;omega)
theorem Yt (ds:List Dd)(k:Nat)(x:Int):k<ds.length->(ds.flatMap cD).set (k*4+3) (.int .i64 x)=(ds.set k ((ds.getD k zD).1,(ds.getD k zD).2.1,(ds.getD k zD).2.2.1,x)).flatMap cD:=by
 induction ds generalizing k with
 |nil=>intro hk;simp at hk
 |cons d r ih=>
  intro hk
  cases k with
  |zero=>simp[cD]
  |succ k=>
   have h1:=ih k (by simpa using hk);rw[List.flatMap_cons,List.set_append_right _ _ (by simp[cD];omega),show (k+1)*4+3-(cD d).length=k*4+3 by simp[cD];omega,h1];simp
theorem Br.put {w:World}{base g n c:Nat}{ds:List Dd}(h:Br w base (.slice (some ⟨g,0,none⟩) n c) ds){k:Nat}(hk:k<ds.length)(x:Int):
  Br (w.setCell ⟨g,k*4+3,none⟩ (.int .i64 x)) base (.slice (some ⟨g,0,none⟩) n c) (ds.set k ((ds.getD k zD).1,(ds.getD k zD).2.1,(ds.getD k zD).2.2.1,x)):=by
 have hlen:(ds.flatMap cD).length=ds.length*4:=h.1;have e:=Yt ds k x hk;rcases h.2 with ⟨q,_⟩|⟨g',cap,cur,e1,hb,hg,hc1,hc2,hs,ht⟩
 . cases q
 ·
  simp only[Value.slice.injEq,Option.some.injEq,Addr.mk.injEq,and_true] at e1;obtain⟨rfl,rfl,rfl⟩:=e1;refine⟨by rw[<-e,List.length_set,List.length_set];exact hlen,.inr ⟨g,_,cur.setIfInBounds (k*4+3) (.int .i64 x),by rw[List.length_set],hb,?_,by rw[List.length_set];exact hc1,hc2,by simpa using hs,?_⟩⟩
  . rw[heap_setCell_same w g (k*4+3) _ _ _ hg]
  . rw[Array.toList_setIfInBounds,List.length_set,List.take_set,ht,e]
structure CU (w:World)(base N:Nat)(v:Value)(V:Nat->Value)(AA:List (List Dd)):Prop where
 row:w.ownsRow base 62 1 v AA.length ((List.range AA.length).map V)
 lt:∀k,v.ownBlock=some k->k<N
 each:∀i,i<AA.length->Br w base (V i) (AA.getD i [])
 iB:∀i,i<AA.length->∀k,(V i).ownBlock=some k->k<N
 out:∀i,i<AA.length->∀k,(V i).ownBlock=some k->v.ownBlock≠some k
 apart:∀i j,i<j->j<AA.length->∀k,(V i).ownBlock=some k->(V j).ownBlock≠some k
theorem CU.kept {w w':World}{base N c:Nat}{v:Value}{V:Nat->Value}{AA:List (List Dd)}(h:CU w base N v V AA)(hg:w.grownBy w' (some c))(hc:c<base):CU w' base N v V AA:=
 ⟨World.ownsRow.kept h.row hg (GV (fun k hk=>(World.ownsRow.lt h.row k hk).1) hc),h.lt,fun i hi=>(h.each i hi).kept hg (GV (h.each i hi).ge hc),h.iB,h.out,h.apart⟩
theorem CU.keep {w w':World}{base N:Nat}{v:Value}{V:Nat->Value}{AA:List (List Dd)}(h:CU w base N v V AA)(k:AC w w'):CU w' base N v V AA:=
 ⟨World.ownsRow.kept h.row k.grownBy (by cases v.ownBlock<;>simp),h.lt,fun i hi=>(h.each i hi).keep k,h.iB,h.out,h.apart⟩
theorem CU.up {w:World}{base N N':Nat}{v:Value}{V:Nat->Value}{AA:List (List Dd)}(h:CU w base N v V AA)(hN:N<=N'):CU w base N' v V AA:=
 ⟨h.row,fun k hk=>Nat.lt_of_lt_of_le (h.lt k hk) hN,h.each,fun i hi k hk=>Nat.lt_of_lt_of_le (h.iB i hi k hk) hN,h.out,h.apart⟩
theorem Fg (V:Nat->Value)(n i:Nat)(h:i<n):((List.range n).map V)[i]? = some (V i):=by
 rw[List.getElem?_map,List.getElem?_range h];rfl
theorem CU.at {w:World}{base N:Nat}{v:Value}{V:Nat->Value}{AA:List (List Dd)}(h:CU w base N v V AA)(hn:0<AA.length):
  ∃g c,v = .slice (some ⟨g,0,none⟩) AA.length c/\base<=g/\g<N/\g<w.heap.size/\AA.length<=c/\(∀i,i<AA.length->w.cell? ⟨g,i,none⟩=some (V i))/\∀i,w.frozen? ⟨g,i,none⟩=false:=by
 have h2:=h.row;have hlt:=World.ownsRow.lt h2;have hN:=h.lt;rcases h2.2 with ⟨_,hz⟩|⟨g,cap,cur,rfl,hb,hg,hc,_⟩
 . omega
 ·
  refine⟨g,cap,rfl,hb,hN g rfl,(hlt g rfl).2,hc,fun i hi=>?_,fun i=>frozen_of_row w g i _ _ hg⟩;rw[World.ownsRow.cellAt h2 i (by simpa using hi),Fg V _ i hi]
theorem CU.rdW {w:World}{base N:Nat}{v:Value}{V:Nat->Value}{AA:List (List Dd)}(h:CU w base N v V AA):JJ w v AA:=by
 by_cases hn:0<AA.length
 ·
  obtain⟨g,c,rfl,_,_,hg,_,hc,_⟩:=h.at hn;exact⟨_,_,rfl,.inr ⟨g,0,rfl,hg,fun i hi=>⟨V i,by rw[Nat.zero_add];exact hc i hi,(h.each i hi).SX.rd⟩⟩⟩
 ·
  have h0:AA=[]:=List.eq_nil_of_length_eq_zero (by omega);subst h0;rcases h.row.2 with ⟨rfl,_⟩|⟨g,cap,cur,rfl,_⟩
  . exact⟨none,0,rfl,.inl rfl⟩
  . exact⟨_,_,rfl,.inl rfl⟩
theorem CU.wF {w:World}{base N:Nat}{v:Value}{V:Nat->Value}{AA:List (List Dd)}(h:CU w base N v V AA):bB w base v AA:=by
 by_cases hn:0<AA.length
 ·
  obtain⟨g,c,rfl,hb,_,hg,_,hc,_⟩:=h.at hn;exact⟨_,_,rfl,.inr ⟨g,0,rfl,hb,hg,fun i hi=>⟨V i,by rw[Nat.zero_add];exact hc i hi,h.each i hi⟩⟩⟩
 ·
  have h0:AA=[]:=List.eq_nil_of_length_eq_zero (by omega);subst h0;rcases h.row.2 with ⟨rfl,_⟩|⟨g,cap,cur,rfl,_⟩
  . exact⟨none,0,rfl,.inl rfl⟩
  . exact⟨_,_,rfl,.inl rfl⟩
theorem CU.push {w w1:World}{base N:Nat}{v v' u:Value}{V:Nat->Value}{AA:List (List Dd)}{ds:List Dd}(h:CU w base N v V AA)(hu:Br w N u ds)(hb:base<=N)
  (hown:w1.ownsRow base 62 1 v' (AA.length+1) ((List.range AA.length).map V++[u])) (hgrow:w.grownBy w1 v.ownBlock) (hblk:v'.ownBlock=v.ownBlock\/v'.ownBlock=some w.heap.size) (hN:N<=w.heap.size):
  CU w1 base w1.heap.size v' (fun i=>if i=AA.length then u else V i) (AA++[ds]):=by
 have hl:(AA++[ds]).length=AA.length+1:=by simp
 have hs:=hgrow.size;have vne:∀k,u.ownBlock=some k->v.ownBlock≠some k:=fun k hk e=>by have:=(hu.lt k hk).1;have:=h.lt k e;omega
 have older:∀i,i<AA.length+1->i≠AA.length->i<AA.length:=fun i h1 h2=>by omega
 refine⟨?_,fun k hk=>(World.ownsRow.lt hown k hk).2,fun i hi=>?_,fun i hi k hk=>?_,fun i hi k hk=>?_,fun i j hij hj k hk=>?_⟩
 ·
  rw[hl,List.range_succ,List.map_append]
  have e:(List.range AA.length).map (fun i=>if i=AA.length then u else V i)=(List.range AA.length).map V:=by
   apply List.map_congr_left;intro i hi;rw[List.mem_range] at hi;rw[if_neg (by omega)]
  rw[e]
  simpa using hown
 ·
  rw[hl] at hi;by_cases e:i=AA.length
  ·
   subst e;rw[if_pos rfl,Ow AA ds []];refine (hu.Az hb).kept hgrow ?_
   cases hv:u.ownBlock with
   |none=>exact .inl rfl
   |some k=>exact .inr (fun e=>vne k hv e.symm)
  ·
   rw[if_neg e,Ie AA [ds] i [] (older i hi e)];refine (h.each i (older i hi e)).kept hgrow ?_
   cases hv:(V i).ownBlock with
   |none=>exact .inl rfl
   |some k=>exact .inr (fun e2=>h.out i (older i hi e) k hv e2.symm)
 ·
  rw[hl] at hi;by_cases e:i=AA.length
  ·
   rw[if_pos e] at hk;have:=(hu.lt k hk).2;omega
  ·
   rw[if_neg e] at hk;have:=h.iB i (older i hi e) k hk;omega
 ·
  rw[hl] at hi;by_cases e:i=AA.length
  ·
   rw[if_pos e] at hk;rcases hblk with e2|e2
   . rw[e2];exact vne k hk
   ·
    rw[e2];have:=(hu.lt k hk).2;simp only[ne_eq,Option.some.injEq];omega
  ·
   rw[if_neg e] at hk;rcases hblk with e2|e2
   . rw[e2];exact h.out i (older i hi e) k hk
   ·
    rw[e2];have:=h.iB i (older i hi e) k hk;simp only[ne_eq,Option.some.injEq];omega
 ·
  rw[hl] at hj;rw[if_neg (show i≠AA.length by omega)] at hk;by_cases e:j=AA.length
  ·
   rw[if_pos e];intro e2;have:=(hu.lt k e2).1;have:=h.iB i (by omega) k hk;omega
  ·
   rw[if_neg e];exact h.apart i j hij (by omega) k hk
theorem GS {α:Type}(l:List α)(i j:Nat)(x z:α)(hi:i<l.length):(l.set i x).getD j z=if i=j then x else l.getD j z:=by
 rw[List.getD_eq_getElem?_getD,List.getElem?_set];by_cases e:i=j
 . subst e;rw[if_pos rfl,if_pos hi,if_pos rfl];rfl
 . rw[if_neg e,if_neg e,List.getD_eq_getElem?_getD]
theorem CU.put {w:World}{base N:Nat}{v:Value}{V:Nat->Value}{AA:List (List Dd)}(h:CU w base N v V AA){i k g n c:Nat}(hi:i<AA.length)(hV:V i = .slice (some ⟨g,0,none⟩) n c)(hk:k<(AA.getD i []).length)(x:Int):
  ∃ds,ds.length=(AA.getD i []).length/\CU (w.setCell ⟨g,k*4+3,none⟩ (.int .i64 x)) base N v V (AA.set i ds):=by
 have ob:(V i).ownBlock=some g:=by rw[hV];rfl
 have hg:=Oy w g (k*4+3) (.int .i64 x);have hap:=h.each i hi;rw[hV] at hap;refine⟨(AA.getD i []).set k (((AA.getD i []).getD k zD).1,((AA.getD i []).getD k zD).2.1,((AA.getD i []).getD k zD).2.2.1,x),by rw[List.length_set],⟨?_,h.lt,fun j hj=>?_,fun j hj=>h.iB j (by simpa using hj),fun j hj=>h.out j (by simpa using hj),fun a b hab hb=>h.apart a b hab (by simpa using hb)⟩⟩
 ·
  rw[List.length_set];refine World.ownsRow.kept h.row hg ?_;exact .inr (h.out i hi g ob)
 ·
  rw[List.length_set] at hj;rw[GS AA i j _ [] hi];by_cases e:i=j
  ·
   subst e;rw[if_pos rfl,hV];exact hap.put hk x
  ·
   rw[if_neg e];refine (h.each j hj).kept hg ?_
   cases hv:(V j).ownBlock with
   |none=>exact .inl rfl
   |some q=>
    refine .inr (fun e2=>?_);simp only[Option.some.injEq] at e2;subst e2;rcases Nat.lt_or_gt_of_ne e with hl|hl
    . exact h.apart i j hl hj q ob hv
    . exact h.apart j i hl hi q hv ob
end Go.Proofs.YtnmelakgmgenjaaGreat
