/- Gathered texts. -/
import Derived.Test.YtnmelakgmgenjaaGreatMH
import Derived.Laws.Tables
import Derived.Lib.Hide
set_option maxRecDepth 100000
set_option maxHeartbeats 8000000
namespace Go.Proofs.YtnmelakgmgenjaaGreat
open Go.ChangeShapes Go.WideShapes Go.ChangeAt Go.RowKit
def Wj (w:World)(base:Nat)(v:Value)(AA:List (List Dd)):Prop:=
 ∃(a:Option Addr) (cap:Nat),v = .slice a AA.length cap /\
  (AA=[]\/∃b off,a=some ⟨b,off,none⟩/\base<=b/\b<w.heap.size/\∀i,i<AA.length->∃vi,w.cell? ⟨b,off+i,none⟩=some vi/\C2 w base vi (AA.getD i []))
theorem Wj.rd {w:World}{base:Nat}{v:Value}{AA:List (List Dd)}(h:Wj w base v AA):Fz w v AA:=by
 obtain⟨a,cap,hv,h⟩:=h;refine⟨a,cap,hv,?_⟩;rcases h with h|⟨b,off,ha,_,hb,hc⟩
 . exact .inl h
 ·
  refine .inr ⟨b,off,ha,hb,fun i hi=>?_⟩;obtain⟨vi,h1,h2⟩:=hc i hi;exact⟨vi,h1,h2.Uw.rd⟩
theorem Wj.keep {w w':World}{base:Nat}{v:Value}{AA:List (List Dd)}(h:Wj w base v AA)(k:AC w w'):Wj w' base v AA:=by
 obtain⟨a,cap,hv,h⟩:=h;refine⟨a,cap,hv,?_⟩;rcases h with h|⟨b,off,ha,hbb,hb,hl⟩
 . exact .inl h
 ·
  refine .inr ⟨b,off,ha,hbb,Nat.lt_of_lt_of_le hb k.size,fun i hi=>?_⟩;obtain⟨vi,h1,h2⟩:=hl i hi;exact⟨vi,(k.cell hb).trans h1,h2.keep k⟩
def JP (w:World)(base N:Nat)(v:Value)(AA:List (List Dd)):Prop:=
 ∃(a:Option Addr) (cap:Nat),v = .slice a AA.length cap /\
  (AA=[]\/∃b off,a=some ⟨b,off,none⟩/\base<=b/\b<N/\b<w.heap.size/\∀i,i<AA.length->∃vi,w.cell? ⟨b,off+i,none⟩=some vi/\C2 w base vi (AA.getD i [])/\∀k,vi.ownBlock=some k->k<N)
theorem Wj.upto {w:World}{base:Nat}{v:Value}{AA:List (List Dd)}(h:Wj w base v AA):JP w base w.heap.size v AA:=by
 obtain⟨a,cap,hv,h⟩:=h;refine⟨a,cap,hv,?_⟩;rcases h with h|⟨b,off,ha,hbb,hb,hl⟩
 . exact .inl h
 ·
  refine .inr ⟨b,off,ha,hbb,hb,hb,fun i hi=>?_⟩;obtain⟨vi,h1,h2⟩:=hl i hi;exact⟨vi,h1,h2,fun k hk=>(h2.lt k hk).2⟩
theorem JP.rd {w:World}{base N:Nat}{v:Value}{AA:List (List Dd)}(h:JP w base N v AA):Fz w v AA:=by
 obtain⟨a,cap,hv,h⟩:=h;refine⟨a,cap,hv,?_⟩;rcases h with h|⟨b,off,ha,_,_,hb,hc⟩
 . exact .inl h
 ·
  refine .inr ⟨b,off,ha,hb,fun i hi=>?_⟩;obtain⟨vi,h1,h2,_⟩:=hc i hi;exact⟨vi,h1,h2.Uw.rd⟩
theorem JP.kept {w w':World}{base N:Nat}{row:Option Nat}{v:Value}{AA:List (List Dd)}(h:JP w base N v AA)(hg:w.grownBy w' row)(hr:∀g,row=some g->g<base\/N<=g):JP w' base N v AA:=by
 obtain⟨a,cap,hv,h⟩:=h;refine⟨a,cap,hv,?_⟩;rcases h with h|⟨b,off,ha,hbb,hbN,hb,hl⟩
 . exact .inl h
 ·
  refine .inr ⟨b,off,ha,hbb,hbN,Nat.lt_of_lt_of_le hb hg.size,fun i hi=>?_⟩;obtain⟨vi,h1,h2,h3⟩:=hl i hi;have hblk:w'.heap[b]? = w.heap[b]?:=hg.block b hb (fun e=>by have:=hr b e.symm;omega);refine⟨vi,?_,h2.kept hg ?_,h3⟩
  ·
   simp only[World.cell?,hblk] at h1 ⊢;exact h1
  ·
   cases hu:vi.ownBlock with
   |none=>exact .inl rfl
   |some k=>exact .inr (fun e=>by have:=h2.ge k hu;have:=h3 k hu;have:=hr k e.symm;omega)
section
inductive BI where
 |bd|AM|AQ|AG|AK|sn|fr|rws
 |nt (c:Nat)
 |rw (p:Nat) deriving DecidableEq
abbrev Pw (ns:List Nt)(v:Value):Rw:=⟨104,3,v,ns.length,ns.flatMap cN⟩
abbrev Gx (D:Nat)(v:BV):Rw:=⟨36,8,.slice (some ⟨D,0,none⟩) 1 1,1,[v.W,v.P,v.L,v.N,v.X,v.S,v.F,v.R]⟩
def Av (D:Nat)(v:BV)(nv rv:List Value)(b:Bd):BI->Rw
 | .bd=>Gx D v
 | .AM=>Bk b.AM v.P
 | .AQ=>Bk b.AQ v.L
 | .AG=>Dp 101 nv v.N
 | .AK=>Bk b.AK v.X
 | .sn=>Bk b.sn v.S
 | .fr=>Bk b.fr v.F
 | .rws=>Dp 28 rv v.R
 | .nt c=>Pw (b.AG.getD c []) (nv.getD c AE)
 | .rw p=>Bk (b.rws.getD p []) (rv.getD p AE)
def Bf (nv rv:List Value):BI->Prop
 | .nt c=>c<nv.length
 | .rw p=>p<rv.length
 |_=>True
theorem Fl.new {ι:Type}[DecidableEq ι]{w w':World}{m:Nat}{live:ι->Prop}{R:ι->Rw}(h:Fl w m live R){i:ι}{r:Rw}(k:AC w w')(hn:∀b,r.v.ownBlock=some b->w.heap.size<=b)(ho:r.own w' m):Fl w' m live (IX R i r):=by
 have hk:=h.keep k
 have new:∀j,live j->(R j).v.ownBlock=none\/(R j).v.ownBlock≠r.v.ownBlock:=fun j hj=>by
  cases e:(R j).v.ownBlock with
  |none=>exact .inl rfl
  |some b=>exact .inr (fun e'=>by have:=(h.lt hj b e).2;have:=hn b e'.symm;omega)
 refine⟨fun j hj=>?_,fun j l hj hl hjl=>?_⟩
 ·
  by_cases e:j=i
  . subst e;rw[Am];exact ho
  . rw[AR R r e];exact hk.own j hj
 ·
  by_cases ej:j=i
  ·
   subst ej;have el:l≠j:=fun e=>hjl e.symm
   rw[Am,AR R r el];rcases new l hl with h1|h1
   ·
    rw[h1]
    cases r.v.ownBlock with
    |none=>exact .inl rfl
    |some b=>exact .inr (by simp)
   . exact .inr (fun e=>h1 e.symm)
  ·
   rw[AR R r ej];by_cases el:l=i
   . subst el;rw[Am];exact new j hj
   . rw[AR R r el];exact h.apart j l hj hl hjl
structure AU (w:World)(m D:Nat)(v:BV)(nv rv:List Value)(bs N:Nat)(AA:List (List Dd))(b:Bd):Prop where
 Ag:Fl w m (Bf nv rv) (Av D v nv rv b)
 ln:nv.length=b.AG.length
 lr:rv.length=b.rws.length
 work:JP w bs N v.W AA
 top:N<=w.heap.size
 out:∀i,Bf nv rv i->∀k,(Av D v nv rv b i).v.ownBlock=some k->k<bs\/N<=k
def vB (D:Nat)(v:BV)(nv rv:List Value):BI->Value
 | .bd => .slice (some ⟨D,0,none⟩) 1 1
 | .AM=>v.P
 | .AQ=>v.L
 | .AG=>v.N
 | .AK=>v.X
 | .sn=>v.S
 | .fr=>v.F
 | .rws=>v.R
 | .nt c=>nv.getD c AE
 | .rw p=>rv.getD p AE
theorem LY (D:Nat)(v:BV)(nv rv:List Value)(b:Bd)(i:BI):(Av D v nv rv b i).v=vB D v nv rv i:=by cases i<;>rfl
def Bp (D:Nat)(v:BV)(nv rv:List Value)(g:Nat):Prop:=∃i,Bf nv rv i/\(vB D v nv rv i).ownBlock=some g
structure Aj (w w':World)(F F':Nat->Prop):Prop where
 os:w'.os=w.os
 tape:w'.tape=w.tape
 output:w'.output=w.output
 size:w.heap.size<=w'.heap.size
 block:∀g,g<w.heap.size->¬F g->w'.heap[g]? = w.heap[g]?
 news:∀g,F' g->F g\/w.heap.size<=g
theorem Aj.refl (w:World)(F:Nat->Prop):Aj w w F F:=⟨rfl,rfl,rfl,Nat.le_refl _,fun _ _ _=>rfl,fun _ h => .inl h⟩
theorem Aj.trans {a b c:World}{F G H:Nat->Prop}(h:Aj a b F G)(k:Aj b c G H):Aj a c F H:=
 ⟨k.os.trans h.os,k.tape.trans h.tape,k.output.trans h.output,Nat.le_trans h.size k.size,fun g hg hF=>(k.block g (Nat.lt_of_lt_of_le hg h.size) (fun hG=>by
  rcases h.news g hG with h1|h1
  . exact hF h1
  . omega)).trans (h.block g hg hF),fun g hg=>by
  rcases k.news g hg with h1|h1
  . exact h.news g h1
  . exact .inr (Nat.le_trans h.size h1)⟩
theorem Aj.keep {a w w':World}{F G:Nat->Prop}(h:Aj a w F G)(k:AC w w'):Aj a w' F G:=
 h.trans ⟨Below.os k,Below.tape k,Below.output k,k.size,fun g hg _=>Below.block k g hg,fun _ h => .inl h⟩
theorem Aj.grown {a w w':World}{F G:Nat->Prop}{row:Option Nat}(h:Aj a w F G)(hg:w.grownBy w' row)(hr:∀k,row=some k->G k):Aj a w' F G:=
 h.trans ⟨hg.os,hg.tape,hg.output,hg.size,fun g h1 h2=>hg.block g h1 (fun e=>h2 (hr g e.symm)),fun _ h => .inl h⟩
theorem Aj.low {a w:World}{F G:Nat->Prop}{m:Nat}(h:Aj a w F G)(hs:m<=a.heap.size)(hF:∀g,F g->m<=g):Below m a w:=
 ⟨h.os,h.tape,h.output,h.size,fun g hg=>h.block g (Nat.lt_of_lt_of_le hg hs) (fun e=>by have:=hF g e;omega)⟩
theorem Aj.cell {a w:World}{F G:Nat->Prop}(h:Aj a w F G){g j:Nat}(hg:g<a.heap.size)(hF:¬F g):w.cell? ⟨g,j,none⟩=a.cell? ⟨g,j,none⟩:=World.cell?_of_block (w:=a) (h.block g hg hF)
theorem Aj.more {a w:World}{F G G':Nat->Prop}(h:Aj a w F G)(hn:∀g,G' g->F g\/a.heap.size<=g):Aj a w F G':=⟨h.os,h.tape,h.output,h.size,h.block,hn⟩
section
variable {w w':World} {m D:Nat} {v:BV} {nv rv:List Value} {bs N:Nat} {AA:List (List Dd)} {b:Bd}
theorem AU.keep (h:AU w m D v nv rv bs N AA b)(k:AC w w'):AU w' m D v nv rv bs N AA b:=
 ⟨h.Ag.keep k,h.ln,h.lr,h.work.kept k.grownBy (by simp),Nat.le_trans h.top k.size,h.out⟩
theorem AU.far (h:AU w m D v nv rv bs N AA b){row:Option Nat}(hg:w.grownBy w' row)(hr:∀k,row=some k->k<m/\(k<bs\/N<=k)):AU w' m D v nv rv bs N AA b:=
 ⟨h.Ag.far hg (fun i hi=>by
  cases e:(Av D v nv rv b i).v.ownBlock with
  |none=>exact .inl rfl
  |some k=>exact .inr (fun e'=>by have:=(h.Ag.lt hi k e).1;have:=hr k e'.symm;omega)),h.ln,h.lr,h.work.kept hg (fun g hg'=>(hr g hg').2),Nat.le_trans h.top hg.size,h.out⟩
theorem AU.drewN (h:AU w m D v nv rv bs N AA b)(n:Nat):AU (w.drewN n) m D v nv rv bs N AA b:=h.keep ((AC.refl w).drewN n)
theorem AU.drew (h:AU w m D v nv rv bs N AA b):AU w.drew m D v nv rv bs N AA b:=h.keep (AC.refl w).drew
theorem AU.set (h:AU w m D v nv rv bs N AA b)(i:BI)(hi:Bf nv rv i){r:Rw}(hg:w.grownBy w' (Av D v nv rv b i).v.ownBlock)
  (hb:r.v.ownBlock=(Av D v nv rv b i).v.ownBlock\/r.v.ownBlock=some w.heap.size\/r.v.ownBlock=none) (ho:r.own w' m)
  {v':BV} {nv' rv':List Value} {b':Bd} (hl:nv'.length=nv.length) (hl2:rv'.length=rv.length) (hn:b'.AG.length=b.AG.length) (hr:b'.rws.length=b.rws.length) (hW:v'.W=v.W)
  (hf:∀j,Av D v' nv' rv' b' j=IX (Av D v nv rv b) i r j):AU w' m D v' nv' rv' bs N AA b':=by
 have hlive:∀j,Bf nv' rv' j->Bf nv rv j:=fun j=>by cases j<;>simp[Bf,hl,hl2]
 refine⟨(h.Ag.set hi hg hb ho).congr hlive (fun j _=>hf j),by rw[hl,hn];exact h.ln,by rw[hl2,hr];exact h.lr,?_,Nat.le_trans h.top hg.size,fun j hj k hk=>?_⟩
 ·
  rw[hW];exact h.work.kept hg (fun g hg'=>h.out i hi g hg')
 ·
  rw[hf j] at hk;by_cases e:j=i
  ·
   subst e;rw[Am] at hk;rcases hb with hb|hb|hb
   . rw[hb] at hk;exact h.out j hi k hk
   ·
    rw[hb] at hk;have:=Option.some.inj hk;have:=h.top;right;omega
   . rw[hb] at hk;cases hk
  ·
   rw[AR _ _ e] at hk;exact h.out j (hlive j hj) k hk
theorem AU.blk (h:AU w m D v nv rv bs N AA b):∀g,Bp D v nv rv g->m<=g/\g<w.heap.size/\(g<bs\/N<=g):=fun g ⟨i,hi,e⟩=>by
 rw[<-LY D v nv rv b i] at e;exact⟨(h.Ag.lt hi g e).1,(h.Ag.lt hi g e).2,h.out i hi g e⟩
theorem AU.base (h:AU w m D v nv rv bs N AA b):m<=D/\D<w.heap.size:=h.Ag.lt (i:= .bd) trivial D rfl
theorem AU.ge (h:AU w m D v nv rv bs N AA b)(i:BI)(hi:Bf nv rv i):∀k,(Av D v nv rv b i).v.ownBlock=some k->m<=k:=fun k hk=>(h.Ag.lt hi k hk).1
theorem AU.cells (h:AU w m D v nv rv bs N AA b):w.cell? ⟨D,0,none⟩=some v.W/\w.cell? ⟨D,1,none⟩=some v.P/\w.cell? ⟨D,2,none⟩=some v.L/\w.cell? ⟨D,3,none⟩=some v.N /\
  w.cell? ⟨D,4,none⟩=some v.X/\w.cell? ⟨D,5,none⟩=some v.S/\w.cell? ⟨D,6,none⟩=some v.F/\w.cell? ⟨D,7,none⟩=some v.R:=by
 have o:=h.Ag.own .bd trivial;have c:=fun j hj=>World.ownsRow.cellAt (show w.ownsRow m 36 8 (.slice (some ⟨D,0,none⟩) 1 1) 1 [v.W,v.P,v.L,v.N,v.X,v.S,v.F,v.R] from o) j hj
 exact⟨c 0 (by decide),c 1 (by decide),c 2 (by decide),c 3 (by decide),c 4 (by decide),c 5 (by decide),c 6 (by decide),c 7 (by decide)⟩
theorem AU.free (h:AU w m D v nv rv bs N AA b)(j:Nat):w.frozen? ⟨D,j,none⟩=false:=
 World.ownsRow.frozenAt (show w.ownsRow m 36 8 (.slice (some ⟨D,0,none⟩) 1 1) 1 [v.W,v.P,v.L,v.N,v.X,v.S,v.F,v.R] from h.Ag.own .bd trivial) j
theorem AU.oP (h:AU w m D v nv rv bs N AA b):BO w m v.P b.AM:=h.Ag.own .AM trivial
theorem AU.oL (h:AU w m D v nv rv bs N AA b):BO w m v.L b.AQ:=h.Ag.own .AQ trivial
theorem AU.oX (h:AU w m D v nv rv bs N AA b):BO w m v.X b.AK:=h.Ag.own .AK trivial
theorem AU.oS (h:AU w m D v nv rv bs N AA b):BO w m v.S b.sn:=h.Ag.own .sn trivial
theorem AU.oF (h:AU w m D v nv rv bs N AA b):BO w m v.F b.fr:=h.Ag.own .fr trivial
theorem AU.oN (h:AU w m D v nv rv bs N AA b){c:Nat}(hc:c<b.AG.length):Bz cN 104 3 w m (nv.getD c AE) (b.AG.getD c []):=h.Ag.own (.nt c) (by show c<nv.length;rw[h.ln];exact hc)
theorem AU.oR (h:AU w m D v nv rv bs N AA b){p:Nat}(hp:p<b.rws.length):BO w m (rv.getD p AE) (b.rws.getD p []):=h.Ag.own (.rw p) (by show p<rv.length;rw[h.lr];exact hp)
theorem AU.hN (h:AU w m D v nv rv bs N AA b):∃a cap,v.N = .slice a b.AG.length cap/\(b.AG=[]\/∃g,a=some ⟨g,0,none⟩/\g<w.heap.size/\∀i,i<b.AG.length->w.cell? ⟨g,i,none⟩=some (nv.getD i AE)):=by
 obtain⟨a,cap,e,h1⟩:=Br (h.Ag.own .AG trivial);rw[h.ln] at e;refine⟨a,cap,e,?_⟩;rcases h1 with h1|⟨g,e1,e2,e3⟩
 ·
  left;have:=h.ln;rw[h1] at this;exact List.eq_nil_of_length_eq_zero this.symm
 . exact .inr ⟨g,e1,e2,fun i hi=>e3 i (by rw[h.ln];exact hi)⟩
theorem AU.hR (h:AU w m D v nv rv bs N AA b):∃a cap,v.R = .slice a b.rws.length cap/\(b.rws=[]\/∃g,a=some ⟨g,0,none⟩/\g<w.heap.size/\∀i,i<b.rws.length->w.cell? ⟨g,i,none⟩=some (rv.getD i AE)):=by
 obtain⟨a,cap,e,h1⟩:=Br (h.Ag.own .rws trivial);rw[h.lr] at e;refine⟨a,cap,e,?_⟩;rcases h1 with h1|⟨g,e1,e2,e3⟩
 ·
  left;have:=h.lr;rw[h1] at this;exact List.eq_nil_of_length_eq_zero this.symm
 . exact .inr ⟨g,e1,e2,fun i hi=>e3 i (by rw[h.lr];exact hi)⟩
theorem AU.rd (h:AU w m D v nv rv bs N AA b):Cf w v AA b:=by
 refine⟨h.work.rd,h.oP.rd,h.oL.rd,?_,h.oX.rd,h.oS.rd,h.oF.rd,?_⟩
 ·
  obtain⟨a,cap,e,h1⟩:=h.hN;refine⟨a,cap,e,?_⟩;rcases h1 with h1|⟨g,e1,e2,e3⟩
  . exact .inl h1
  . exact .inr ⟨g,0,e1,e2,fun i hi=>⟨_,by rw[Nat.zero_add];exact e3 i hi,Bz.rd D5 (h.oN hi)⟩⟩
 ·
  obtain⟨a,cap,e,h1⟩:=h.hR;refine⟨a,cap,e,?_⟩;rcases h1 with h1|⟨g,e1,e2,e3⟩
  . exact .inl h1
  . exact .inr ⟨g,0,e1,e2,fun i hi=>⟨_,by rw[Nat.zero_add];exact e3 i hi,(h.oR hi).rd⟩⟩
theorem Je {zs:List Int}{u:Value}{g cap k:Nat}{x:Int}(o:(Bk zs u).own w m)(hv:u = .slice (some ⟨g,0,none⟩) zs.length cap):(Bk (zs.set k x) u).own (w.setCell ⟨g,k,none⟩ (.int .i64 x)) m/\w.grownBy (w.setCell ⟨g,k,none⟩ (.int .i64 x)) u.ownBlock/\w.frozen? ⟨g,k,none⟩=false:=by
 obtain⟨h1,h2,h3⟩:=Rw.put o (g:=g) (cap:=cap) (k:=k) hv (.int .i64 x);refine⟨?_,h2,h3⟩
 have e:(Bk (zs.set k x) u)={ Bk zs u with xs:=(Bk zs u).xs.set k (.int .i64 x) }:=by
  simp[Bk,List.map_set]
 rw[e];exact h1
theorem AU.qi (h:AU w m D v nv rv bs N AA b){g cap k:Nat}{x:Int}(hv:v.P = .slice (some ⟨g,0,none⟩) b.AM.length cap):AU (w.setCell ⟨g,k,none⟩ (.int .i64 x)) m D v nv rv bs N AA { b with AM:=b.AM.set k x }:=by
 obtain⟨h1,h2,_⟩:=Je (k:=k) (x:=x) (h.Ag.own .AM trivial) hv;exact h.set .AM trivial (r:=Bk (b.AM.set k x) v.P) h2 (.inl rfl) h1 rfl rfl rfl rfl rfl (fun j=>by cases j<;>rfl)
theorem AU.EE (h:AU w m D v nv rv bs N AA b){g cap k:Nat}{x:Int}(hv:v.L = .slice (some ⟨g,0,none⟩) b.AQ.length cap):AU (w.setCell ⟨g,k,none⟩ (.int .i64 x)) m D v nv rv bs N AA { b with AQ:=b.AQ.set k x }:=by
 obtain⟨h1,h2,_⟩:=Je (k:=k) (x:=x) (h.Ag.own .AQ trivial) hv;exact h.set .AQ trivial (r:=Bk (b.AQ.set k x) v.L) h2 (.inl rfl) h1 rfl rfl rfl rfl rfl (fun j=>by cases j<;>rfl)
theorem AU.wh (h:AU w m D v nv rv bs N AA b){g cap k:Nat}{x:Int}(hv:v.X = .slice (some ⟨g,0,none⟩) b.AK.length cap):AU (w.setCell ⟨g,k,none⟩ (.int .i64 x)) m D v nv rv bs N AA { b with AK:=b.AK.set k x }:=by
 obtain⟨h1,h2,_⟩:=Je (k:=k) (x:=x) (h.Ag.own .AK trivial) hv;exact h.set .AK trivial (r:=Bk (b.AK.set k x) v.X) h2 (.inl rfl) h1 rfl rfl rfl rfl rfl (fun j=>by cases j<;>rfl)
theorem AU.kU (h:AU w m D v nv rv bs N AA b){g cap k:Nat}{x:Int}(hv:v.S = .slice (some ⟨g,0,none⟩) b.sn.length cap):AU (w.setCell ⟨g,k,none⟩ (.int .i64 x)) m D v nv rv bs N AA { b with sn:=b.sn.set k x }:=by
 obtain⟨h1,h2,_⟩:=Je (k:=k) (x:=x) (h.Ag.own .sn trivial) hv;exact h.set .sn trivial (r:=Bk (b.sn.set k x) v.S) h2 (.inl rfl) h1 rfl rfl rfl rfl rfl (fun j=>by cases j<;>rfl)
theorem AU.wZ (h:AU w m D v nv rv bs N AA b){g cap k:Nat}{x:Int}(hv:v.F = .slice (some ⟨g,0,none⟩) b.fr.length cap):AU (w.setCell ⟨g,k,none⟩ (.int .i64 x)) m D v nv rv bs N AA { b with fr:=b.fr.set k x }:=by
 obtain⟨h1,h2,_⟩:=Je (k:=k) (x:=x) (h.Ag.own .fr trivial) hv;exact h.set .fr trivial (r:=Bk (b.fr.set k x) v.F) h2 (.inl rfl) h1 rfl rfl rfl rfl rfl (fun j=>by cases j<;>rfl)
theorem AU.stay (h:AU w m D v nv rv bs N AA b)(i:BI)(hi:Bf nv rv i)(hb:i≠.bd)(hg:w.grownBy w' (Av D v nv rv b i).v.ownBlock)(j:Nat):w'.cell? ⟨D,j,none⟩=w.cell? ⟨D,j,none⟩:=by
 have hne:some D≠(Av D v nv rv b i).v.ownBlock:=by
  rcases h.Ag.apart .bd i trivial hi (fun e=>hb e.symm) with e|e
  . cases e
  . exact e
 exact World.cell?_of_block (w:=w) (hg.block D h.base.2 hne)
theorem AU.Z9 (h:AU w m D v nv rv bs N AA b){p:Nat}(hp:p<b.rws.length){u:Value}{zs:List Int}(hg:w.grownBy w' (rv.getD p AE).ownBlock)
  (hb:u.ownBlock=(rv.getD p AE).ownBlock\/u.ownBlock=some w.heap.size\/u.ownBlock=none) (ho:BO w' m u zs) {g cap:Nat} (hv:v.R = .slice (some ⟨g,0,none⟩) b.rws.length cap):
  AU (w'.setCell ⟨g,p,none⟩ u) m D v nv (rv.set p u) bs N AA { b with rws:=b.rws.set p zs }/\w'.cell? ⟨g,p,none⟩=some (rv.getD p AE)/\w'.frozen? ⟨g,p,none⟩=false:=by
 have hp':p<rv.length:=by rw[h.lr];exact hp
 have hv':v.R = .slice (some ⟨g,0,none⟩) rv.length cap:=by rw[h.lr];exact hv
 have F1:=h.Ag.set (i:= .rw p) hp' (r:=Bk zs u) hg hb ho;have o1:(Dp 28 rv v.R).own w' m:=by have:=F1.own .rws trivial;rw[AR _ _ (by simp)] at this;exact this
 obtain⟨q1,q2,q3⟩:=Rw.put o1 (g:=g) (cap:=cap) (k:=p) hv' u;have F2:=F1.set (i:= .rws) trivial (r:={ Dp 28 rv v.R with xs:=rv.set p u }) (by rw[AR _ _ (by simp)];exact q2) (.inl (by rw[AR _ _ (by simp)];rfl)) q1
 have hf:∀j,Av D v nv (rv.set p u) { b with rws:=b.rws.set p zs } j=IX (IX (Av D v nv rv b) (.rw p) (Bk zs u)) .rws { Dp 28 rv v.R with xs:=rv.set p u } j:=fun j=>by
  cases j with
  |rws=>
   rw[Am];simp[Av,Dp]
  |rw q=>
   rw[AR _ _ (by simp)];show Bk ((b.rws.set p zs).getD q []) ((rv.set p u).getD q AE)=_;rw[BK _ _ _ _ hp,BK _ _ _ _ hp'];by_cases e:q=p
   . subst e;rw[Am];simp
   . rw[AR _ _ (by simpa using e),if_neg e,if_neg e];rfl
  |_=>rw[AR _ _ (by simp),AR _ _ (by simp)];rfl
 refine⟨⟨F2.congr (fun j=>by cases j<;>simp[Bf]) (fun j _=>hf j),h.ln,by simpa using h.lr,?_,?_,fun j hj k hk=>?_⟩,?_,q3⟩
 . exact (h.work.kept hg (fun g' hg'=>h.out (.rw p) hp' g' hg')).kept q2 (fun g' hg'=>h.out .rws trivial g' hg')
 . exact Nat.le_trans h.top (Nat.le_trans hg.size q2.size)
 ·
  rw[hf j] at hk;by_cases e:j = .rws
  ·
   subst e;rw[Am] at hk;exact h.out .rws trivial k hk
  ·
   rw[AR _ _ e] at hk;by_cases e2:j = .rw p
   ·
    subst e2;rw[Am] at hk;rcases hb with hb|hb|hb
    . rw[show (Bk zs u).v.ownBlock=u.ownBlock from rfl,hb] at hk;exact h.out (.rw p) hp' k hk
    ·
     rw[show (Bk zs u).v.ownBlock=u.ownBlock from rfl,hb] at hk;have:=Option.some.inj hk;have:=h.top;right;omega
    . rw[show (Bk zs u).v.ownBlock=u.ownBlock from rfl,hb] at hk;cases hk
   ·
    rw[AR _ _ e2] at hk;exact h.out j (by cases j<;>simp[Bf] at hj ⊢<;>exact hj) k hk
 ·
  have:=Rw.cell o1 (g:=g) (cap:=cap) (k:=p) hv' (by show p<rv.length*1;omega);rw[this,List.getD_eq_getElem?_getD];show rv[p]? = _;rw[List.getElem?_eq_getElem hp'];rfl
theorem AU.mq (h:AU w m D v nv rv bs N AA b){c:Nat}(hc:c<b.AG.length){u:Value}{ns:List Nt}(hg:w.grownBy w' (nv.getD c AE).ownBlock)
  (hb:u.ownBlock=(nv.getD c AE).ownBlock\/u.ownBlock=some w.heap.size\/u.ownBlock=none) (ho:Bz cN 104 3 w' m u ns) {g cap:Nat} (hv:v.N = .slice (some ⟨g,0,none⟩) b.AG.length cap):
  AU (w'.setCell ⟨g,c,none⟩ u) m D v (nv.set c u) rv bs N AA { b with AG:=b.AG.set c ns }/\w'.cell? ⟨g,c,none⟩=some (nv.getD c AE)/\w'.frozen? ⟨g,c,none⟩=false:=by
 have hc':c<nv.length:=by rw[h.ln];exact hc
 have hv':v.N = .slice (some ⟨g,0,none⟩) nv.length cap:=by rw[h.ln];exact hv
 have F1:=h.Ag.set (i:= .nt c) hc' (r:=Pw ns u) hg hb ho;have o1:(Dp 101 nv v.N).own w' m:=by have:=F1.own .AG trivial;rw[AR _ _ (by simp)] at this;exact this
 obtain⟨q1,q2,q3⟩:=Rw.put o1 (g:=g) (cap:=cap) (k:=c) hv' u;have F2:=F1.set (i:= .AG) trivial (r:={ Dp 101 nv v.N with xs:=nv.set c u }) (by rw[AR _ _ (by simp)];exact q2) (.inl (by rw[AR _ _ (by simp)];rfl)) q1
 have hf:∀j,Av D v (nv.set c u) rv { b with AG:=b.AG.set c ns } j=IX (IX (Av D v nv rv b) (.nt c) (Pw ns u)) .AG { Dp 101 nv v.N with xs:=nv.set c u } j:=fun j=>by
  cases j with
  |AG=>
   rw[Am];simp[Av,Dp]
  |nt q=>
   rw[AR _ _ (by simp)];show Pw ((b.AG.set c ns).getD q []) ((nv.set c u).getD q AE)=_;rw[BK _ _ _ _ hc,BK _ _ _ _ hc'];by_cases e:q=c
   . subst e;rw[Am];simp
   . rw[AR _ _ (by simpa using e),if_neg e,if_neg e];rfl
  |_=>rw[AR _ _ (by simp),AR _ _ (by simp)];rfl
 refine⟨⟨F2.congr (fun j=>by cases j<;>simp[Bf]) (fun j _=>hf j),by simpa using h.ln,h.lr,?_,?_,fun j hj k hk=>?_⟩,?_,q3⟩
 . exact (h.work.kept hg (fun g' hg'=>h.out (.nt c) hc' g' hg')).kept q2 (fun g' hg'=>h.out .AG trivial g' hg')
 . exact Nat.le_trans h.top (Nat.le_trans hg.size q2.size)
 ·
  rw[hf j] at hk;by_cases e:j = .AG
  ·
   subst e;rw[Am] at hk;exact h.out .AG trivial k hk
  ·
   rw[AR _ _ e] at hk;by_cases e2:j = .nt c
   ·
    subst e2;rw[Am] at hk;rcases hb with hb|hb|hb
    . rw[show (Pw ns u).v.ownBlock=u.ownBlock from rfl,hb] at hk;exact h.out (.nt c) hc' k hk
    ·
     rw[show (Pw ns u).v.ownBlock=u.ownBlock from rfl,hb] at hk;have:=Option.some.inj hk;have:=h.top;right;omega
    . rw[show (Pw ns u).v.ownBlock=u.ownBlock from rfl,hb] at hk;cases hk
   ·
    rw[AR _ _ e2] at hk;exact h.out j (by cases j<;>simp[Bf] at hj ⊢<;>exact hj) k hk
 ·
  have:=Rw.cell o1 (g:=g) (cap:=cap) (k:=c) hv' (by show c<nv.length*1;omega);rw[this,List.getD_eq_getElem?_getD];show nv[c]? = _;rw[List.getElem?_eq_getElem hc'];rfl
theorem AU.jg (h:AU w m D v nv rv bs N AA b){c:Nat}(hc:c<b.AG.length){u:Value}{ns:List Nt}(kw:AC w w')
  (hb:∀k,u.ownBlock=some k->w.heap.size<=k) (ho:Bz cN 104 3 w' m u ns) {g cap:Nat} (hv:v.N = .slice (some ⟨g,0,none⟩) b.AG.length cap):
  AU (w'.setCell ⟨g,c,none⟩ u) m D v (nv.set c u) rv bs N AA { b with AG:=b.AG.set c ns }/\w'.cell? ⟨g,c,none⟩=some (nv.getD c AE)/\w'.frozen? ⟨g,c,none⟩=false:=by
 have hc':c<nv.length:=by rw[h.ln];exact hc
 have hv':v.N = .slice (some ⟨g,0,none⟩) nv.length cap:=by rw[h.ln];exact hv
 have F1:=h.Ag.new (i:= .nt c) (r:=Pw ns u) kw hb ho;have o1:(Dp 101 nv v.N).own w' m:=by have:=F1.own .AG trivial;rw[AR _ _ (by simp)] at this;exact this
 obtain⟨q1,q2,q3⟩:=Rw.put o1 (g:=g) (cap:=cap) (k:=c) hv' u;have F2:=F1.set (i:= .AG) trivial (r:={ Dp 101 nv v.N with xs:=nv.set c u }) (by rw[AR _ _ (by simp)];exact q2) (.inl (by rw[AR _ _ (by simp)];rfl)) q1
 have hf:∀j,Av D v (nv.set c u) rv { b with AG:=b.AG.set c ns } j=IX (IX (Av D v nv rv b) (.nt c) (Pw ns u)) .AG { Dp 101 nv v.N with xs:=nv.set c u } j:=fun j=>by
  cases j with
  |AG=>
   rw[Am];simp[Av,Dp]
  |nt q=>
   rw[AR _ _ (by simp)];show Pw ((b.AG.set c ns).getD q []) ((nv.set c u).getD q AE)=_;rw[BK _ _ _ _ hc,BK _ _ _ _ hc'];by_cases e:q=c
   . subst e;rw[Am];simp
   . rw[AR _ _ (by simpa using e),if_neg e,if_neg e];rfl
  |_=>rw[AR _ _ (by simp),AR _ _ (by simp)];rfl
 refine⟨⟨F2.congr (fun j=>by cases j<;>simp[Bf]) (fun j _=>hf j),by simpa using h.ln,h.lr,?_,?_,fun j hj k hk=>?_⟩,?_,q3⟩
 . exact (h.work.kept kw.grownBy (by simp)).kept q2 (fun g' hg'=>h.out .AG trivial g' hg')
 . exact Nat.le_trans h.top (Nat.le_trans kw.size q2.size)
 ·
  rw[hf j] at hk;by_cases e:j = .AG
  ·
   subst e;rw[Am] at hk;exact h.out .AG trivial k hk
  ·
   rw[AR _ _ e] at hk;by_cases e2:j = .nt c
   ·
    subst e2;rw[Am] at hk;have:=hb k hk;have:=h.top;right;omega
   ·
    rw[AR _ _ e2] at hk;exact h.out j (by cases j<;>simp[Bf] at hj ⊢<;>exact hj) k hk
 ·
  have:=Rw.cell o1 (g:=g) (cap:=cap) (k:=c) hv' (by show c<nv.length*1;omega);rw[this,List.getD_eq_getElem?_getD];show nv[c]? = _;rw[List.getElem?_eq_getElem hc'];rfl
theorem M6 {c:Nat}(hc:c<nv.length){u:Value}{g:Nat}(hg:Bp D v (nv.set c u) rv g):Bp D v nv rv g\/u.ownBlock=some g:=by
 obtain⟨i,hi,e⟩:=hg
 cases i with
 |nt q=>
  have hq:q<nv.length:=by simpa [Bf] using hi
  have e:((nv.set c u).getD q AE).ownBlock=some g:=e;by_cases eq:q=c
  ·
   subst eq;rw[BK _ _ _ _ hq,if_pos rfl] at e;exact .inr e
  ·
   rw[BK _ _ _ _ hc,if_neg eq] at e;exact .inl ⟨.nt q,hq,e⟩
 |rw q=>exact .inl ⟨.rw q,hi,e⟩
 |bd=>exact .inl ⟨.bd,trivial,e⟩
 |AM=>exact .inl ⟨.AM,trivial,e⟩
 |AQ=>exact .inl ⟨.AQ,trivial,e⟩
 |AG=>exact .inl ⟨.AG,trivial,e⟩
 |AK=>exact .inl ⟨.AK,trivial,e⟩
 |sn=>exact .inl ⟨.sn,trivial,e⟩
 |fr=>exact .inl ⟨.fr,trivial,e⟩
 |rws=>exact .inl ⟨.rws,trivial,e⟩
end
end
theorem AL:(Tryz.prog.info? 36).map (·.size)=some 8:=by kernel_rfl
theorem An (w:World)(g:Nat)(cs:Array Value):w.grownBy (w.setRow g cs) (some g):=
 ⟨rfl,rfl,rfl,by simp,fun k _ hk=>by
  unfold World.setRow;have hk':k≠g:=fun e=>hk (by rw[e])
  rw[Array.getElem?_modify]
  simp[hk'.symm]⟩
theorem YW (w:World)(g:Nat)(t:TypeId)(old cs:Array Value)(fr:Nat×Nat)(h:w.heap[g]? = some (.cells old t fr)):(w.setRow g cs).heap[g]? = some (.cells cs t fr):=setRow_heap w g old cs t fr h
theorem VR (w:World){m:Nat}(hm:m<=w.heap.size):Rw.own (w.alloc (.cells #[AE,AE,AE,AE,AE,AE,AE,AE] 36)) m ⟨36,8,.slice (some ⟨w.heap.size,0,none⟩) 1 1,1,[AE,AE,AE,AE,AE,AE,AE,AE]⟩:=
 ⟨rfl,.inr ⟨w.heap.size,1,_,rfl,hm,heap_alloc_new w _,Nat.le_refl _,by unfold maxLen;decide,rfl,rfl⟩⟩
theorem VS {w:World}{m D:Nat}{cs:List Value}{v:BV}(h:Rw.own w m ⟨36,8,.slice (some ⟨D,0,none⟩) 1 1,1,cs⟩):(∃old:Array Value,w.heap[D]? = some (.cells old 36 (0,0))/\old.size=8)/\(Gx D v).own (w.setRow D v.arr) m:=by
 rcases h.2 with ⟨e,_⟩|⟨g,cap,cur,e,hb,hg,hn,hm,hs,ht⟩
 . cases e
 ·
  simp only[Value.slice.injEq,Option.some.injEq,Addr.mk.injEq,and_true,true_and] at e;obtain⟨rfl,rfl⟩:=e;exact⟨⟨cur,hg,hs⟩,rfl,.inr ⟨D,1,v.arr,rfl,hb,YW w D _ _ _ _ hg,Nat.le_refl _,hm,rfl,rfl⟩⟩
theorem Tryz.Qn:(Tryz.prog.info? 101).map (fun i=>(i.zero,i.size,i.bytes))=some (some (.slice none 0 0),1,24):=by kernel_rfl
theorem Cf.shapes {w:World}{v:BV}{AA:List (List Dd)}{b:Bd}(h:Cf w v AA b):
  ∃(aW aP aL aN aX aS aF aR:Option Addr) (cW cP cL cN cX cS cF cR:Nat),v=⟨.slice aW AA.length cW,.slice aP b.AM.length cP,.slice aL b.AQ.length cL,.slice aN b.AG.length cN,.slice aX b.AK.length cX,.slice aS b.sn.length cS,.slice aF b.fr.length cF,.slice aR b.rws.length cR⟩:=by
 obtain⟨vW,vP,vL,vN,vX,vS,vF,vR⟩:=v;obtain⟨hW,hP,hL,hN,hX,hS,hF,hR⟩:=h;obtain⟨aW,cW,eW,-⟩:=hW;obtain⟨aP,cP,eP,-⟩:=hP;obtain⟨aL,cL,eL,-⟩:=hL;obtain⟨aN,cN,eN,-⟩:=hN;obtain⟨aX,cX,eX,-⟩:=hX;obtain⟨aS,cS,eS,-⟩:=hS;obtain⟨aF,cF,eF,-⟩:=hF;obtain⟨aR,cR,eR,-⟩:=hR;simp only at eW eP eL eN eX eS eF eR;exact⟨aW,aP,aL,aN,aX,aS,aF,aR,cW,cP,cL,cN,cX,cS,cF,cR,by rw[eW,eP,eL,eN,eX,eS,eF,eR]⟩
section
structure A7 (w:World)(m:Nat)(v:BV)(nv rv:List Value)(bs N:Nat)(AA:List (List Dd))(b:Bd):Prop where
 Ag:Fl w m (fun i=>Bf nv rv i/\i≠.bd) (Av 0 v nv rv b)
 ln:nv.length=b.AG.length
 lr:rv.length=b.rws.length
 work:JP w bs N v.W AA
 top:N<=w.heap.size
 out:∀i,Bf nv rv i->i≠.bd->∀k,(Av 0 v nv rv b i).v.ownBlock=some k->k<bs\/N<=k
section
variable {w w':World} {m D:Nat} {v:BV} {nv rv:List Value} {bs N:Nat} {AA:List (List Dd)} {b:Bd}
theorem Ml (D:Nat)(v:BV)(nv rv:List Value)(b:Bd){i:BI}(h:i≠.bd):Av D v nv rv b i=Av 0 v nv rv b i:=by cases i<;>first|rfl|exact absurd rfl h
theorem AU.val (h:AU w m D v nv rv bs N AA b):A7 w m v nv rv bs N AA b:=
 ⟨h.Ag.congr (fun _ hi=>hi.1) (fun i hi=>(Ml D v nv rv b hi.2).symm),h.ln,h.lr,h.work,h.top,fun i hi hb k hk=>h.out i hi k (by rw[Ml D v nv rv b hb];exact hk)⟩
theorem A7.keep (h:A7 w m v nv rv bs N AA b)(k:AC w w'):A7 w' m v nv rv bs N AA b:=
 ⟨h.Ag.keep k,h.ln,h.lr,h.work.kept k.grownBy (by simp),Nat.le_trans h.top k.size,h.out⟩
theorem A7.far (h:A7 w m v nv rv bs N AA b){row:Option Nat}(hg:w.grownBy w' row)(hr:∀k,row=some k->k<m/\(k<bs\/N<=k)):A7 w' m v nv rv bs N AA b:=
 ⟨h.Ag.far hg (fun i hi=>by
  cases e:(Av 0 v nv rv b i).v.ownBlock with
  |none=>exact .inl rfl
  |some k=>exact .inr (fun e'=>by have:=(h.Ag.lt hi k e).1;have:=hr k e'.symm;omega)),h.ln,h.lr,h.work.kept hg (fun g hg'=>(hr g hg').2),Nat.le_trans h.top hg.size,h.out⟩
theorem A7.box (h:A7 w m v nv rv bs N AA b)(hm:m<=w.heap.size):AU (w.alloc (.cells v.arr 36)) m w.heap.size v nv rv bs N AA b:=by
 have k:AC w (w.alloc (.cells v.arr 36)):=(AC.refl w).alloc _
 have ho:(Gx w.heap.size v).own (w.alloc (.cells v.arr 36)) m:=by
  refine⟨rfl,.inr ⟨w.heap.size,1,v.arr,rfl,hm,heap_alloc_new w _,Nat.le_refl _,by decide,rfl,?_⟩⟩;rfl
 have F:=h.Ag.add (i:= .bd) (fun hi=>hi.2 rfl) (r:=Gx w.heap.size v) rfl k ho (fun q hq=>by have e:w.heap.size=q:=Option.some.inj hq;omega);have hk:=h.keep k;refine⟨F.congr (fun i hi=>?_) (fun i hi=>?_),h.ln,h.lr,hk.work,hk.top,fun i hi q hq=>?_⟩
 ·
  by_cases e:i = .bd
  . exact .inr e
  . exact .inl ⟨hi,e⟩
 ·
  by_cases e:i = .bd
  . subst e;rw[Am];rfl
  . rw[AR _ _ e];exact Ml _ _ _ _ _ e
 ·
  by_cases e:i = .bd
  ·
   subst e;have:w.heap.size=q:=Option.some.inj hq;have:=h.top;right;omega
  ·
   rw[Ml _ _ _ _ _ e] at hq;exact h.out i hi e q hq
theorem A7.rd (h:A7 w m v nv rv bs N AA b)(hm:m<=w.heap.size):Cf (w.alloc (.cells v.arr 36)) v AA b:=(h.box hm).rd
theorem A7.rd0 (h:A7 w m v nv rv bs N AA b):Cf w v AA b:=by
 have oN:∀ {c:Nat},c<b.AG.length->Bz cN 104 3 w m (nv.getD c AE) (b.AG.getD c []):=fun {c} hc=>h.Ag.own (.nt c) ⟨by show c<nv.length;rw[h.ln];exact hc,by simp⟩
 have oR:∀ {p:Nat},p<b.rws.length->BO w m (rv.getD p AE) (b.rws.getD p []):=fun {p} hp=>h.Ag.own (.rw p) ⟨by show p<rv.length;rw[h.lr];exact hp,by simp⟩
 have o1:BO w m v.P b.AM:=h.Ag.own .AM ⟨trivial,by simp⟩;have o2:BO w m v.L b.AQ:=h.Ag.own .AQ ⟨trivial,by simp⟩;have o3:BO w m v.X b.AK:=h.Ag.own .AK ⟨trivial,by simp⟩;have o4:BO w m v.S b.sn:=h.Ag.own .sn ⟨trivial,by simp⟩;have o5:BO w m v.F b.fr:=h.Ag.own .fr ⟨trivial,by simp⟩;refine⟨h.work.rd,o1.rd,o2.rd,?_,o3.rd,o4.rd,o5.rd,?_⟩
 ·
  obtain⟨a,cap,e,h1⟩:=Br (h.Ag.own .AG ⟨trivial,by simp⟩);rw[h.ln] at e;refine⟨a,cap,e,?_⟩;rcases h1 with h1|⟨g,e1,e2,e3⟩
  ·
   left;have:=h.ln;rw[h1] at this;exact List.eq_nil_of_length_eq_zero this.symm
  . exact .inr ⟨g,0,e1,e2,fun i hi=>⟨_,by rw[Nat.zero_add];exact e3 i (by rw[h.ln];exact hi),Bz.rd D5 (oN hi)⟩⟩
 ·
  obtain⟨a,cap,e,h1⟩:=Br (h.Ag.own .rws ⟨trivial,by simp⟩);rw[h.lr] at e;refine⟨a,cap,e,?_⟩;rcases h1 with h1|⟨g,e1,e2,e3⟩
  ·
   left;have:=h.lr;rw[h1] at this;exact List.eq_nil_of_length_eq_zero this.symm
  . exact .inr ⟨g,0,e1,e2,fun i hi=>⟨_,by rw[Nat.zero_add];exact e3 i (by rw[h.lr];exact hi),(oR hi).rd⟩⟩
theorem Fl.BM {ι:Type}{m':Nat}{live:ι->Prop}{R:ι->Rw}(h:Fl w m live R)(hm:m'<=m):Fl w m' live R:=
 ⟨fun i hi=>by
  have o:=h.own i hi;refine⟨o.1,?_⟩;rcases o.2 with q|⟨g,cap,cur,e,hg,r⟩
  . exact .inl q
  . exact .inr ⟨g,cap,cur,e,Nat.le_trans hm hg,r⟩,h.apart⟩
theorem A7.BM {m':Nat}(h:A7 w m v nv rv bs N AA b)(hm:m'<=m):A7 w m' v nv rv bs N AA b:=⟨h.Ag.BM hm,h.ln,h.lr,h.work,h.top,h.out⟩
theorem AU.MG (h:AU w m D v nv rv bs N AA b):w.heap[D]? = some (.cells v.arr 36 (0,0)):=by
 have o:=h.Ag.own .bd trivial;rcases o.2 with ⟨e,_⟩|⟨g,cap,cur,e,_,hg,_,_,hs,ht⟩
 ·
  have e:Value.slice (some ⟨D,0,none⟩) 1 1 = .slice none 0 0:=e;simp at e
 ·
  have e:Value.slice (some ⟨D,0,none⟩) 1 1 = .slice (some ⟨g,0,none⟩) 1 cap:=e;simp only[Value.slice.injEq,Option.some.injEq,Addr.mk.injEq,and_true,true_and] at e;obtain⟨rfl,rfl⟩:=e;have hs:cur.size=1*8:=hs;have ht:cur.toList.take (1*8)=[v.W,v.P,v.L,v.N,v.X,v.S,v.F,v.R]:=ht;rw[List.take_of_length_le (by rw[Array.length_toList];omega)] at ht;have:cur=v.arr:=Array.ext' ht;rw[hg,this];rfl
end
end
section
def BV.Sl (v:BV):Prop:=∃(aW aP aL aN aX aS aF aR:Option Addr) (nW nP nL nN nX nS nF nR cW cP cL cQ cX cS cF cR:Nat),v=⟨.slice aW nW cW,.slice aP nP cP,.slice aL nL cL,.slice aN nN cQ,.slice aX nX cX,.slice aS nS cS,.slice aF nF cF,.slice aR nR cR⟩
theorem Cf.sl {w:World}{v:BV}{AA:List (List Dd)}{b:Bd}(h:Cf w v AA b):v.Sl:=by
 obtain⟨aW,aP,aL,aN,aX,aS,aF,aR,cW,cP,cL,cN,cX,cS,cF,cR,rfl⟩:=h.shapes;exact⟨_,_,_,_,_,_,_,_,_,_,_,_,_,_,_,_,_,_,_,_,_,_,_,_,rfl⟩
def Ds (rv:List Value):BI->Prop
 | .AM=>True
 | .AQ=>True
 | .rws=>True
 | .rw p=>p<rv.length
 |_=>False
structure DU (w:World)(m:Nat)(v:BV)(rv:List Value)(b:Bd):Prop where
 Ag:Fl w m (Ds rv) (Av 0 v [] rv b)
 lr:rv.length=b.rws.length
def FE (v:BV)(rv:List Value)(g:Nat):Prop:=∃i,Ds rv i/\(vB 0 v [] rv i).ownBlock=some g
section
variable {w w':World} {m:Nat} {v:BV} {rv:List Value} {b:Bd}
theorem DU.keep (h:DU w m v rv b)(k:AC w w'):DU w' m v rv b:=⟨h.Ag.keep k,h.lr⟩
theorem DU.blk (h:DU w m v rv b):∀g,FE v rv g->m<=g/\g<w.heap.size:=fun g ⟨i,hi,e⟩=>by
 rw[<-LY 0 v [] rv b i] at e;exact h.Ag.lt hi g e
theorem DU.oP (h:DU w m v rv b):BO w m v.P b.AM:=h.Ag.own .AM trivial
theorem DU.oL (h:DU w m v rv b):BO w m v.L b.AQ:=h.Ag.own .AQ trivial
theorem DU.oR (h:DU w m v rv b){p:Nat}(hp:p<b.rws.length):BO w m (rv.getD p AE) (b.rws.getD p []):=h.Ag.own (.rw p) (by show p<rv.length;rw[h.lr];exact hp)
theorem DU.hR (h:DU w m v rv b):∃a cap,v.R = .slice a b.rws.length cap/\(b.rws=[]\/∃g,a=some ⟨g,0,none⟩/\g<w.heap.size/\∀i,i<b.rws.length->w.cell? ⟨g,i,none⟩=some (rv.getD i AE)):=by
 obtain⟨a,cap,e,h1⟩:=Br (h.Ag.own .rws trivial);rw[h.lr] at e;refine⟨a,cap,e,?_⟩;rcases h1 with h1|⟨g,e1,e2,e3⟩
 ·
  left;have:=h.lr;rw[h1] at this;exact List.eq_nil_of_length_eq_zero this.symm
 . exact .inr ⟨g,e1,e2,fun i hi=>e3 i (by rw[h.lr];exact hi)⟩
theorem DU.qi (h:DU w m v rv b){g cap k:Nat}{x:Int}(hv:v.P = .slice (some ⟨g,0,none⟩) b.AM.length cap):DU (w.setCell ⟨g,k,none⟩ (.int .i64 x)) m v rv { b with AM:=b.AM.set k x }:=by
 obtain⟨h1,h2,_⟩:=Je (k:=k) (x:=x) (h.Ag.own .AM trivial) hv;refine⟨(h.Ag.set (i:= .AM) trivial (r:=Bk (b.AM.set k x) v.P) h2 (.inl rfl) h1).congr (fun _ hi=>hi) (fun j _=>by cases j<;>rfl),h.lr⟩
theorem DU.EE (h:DU w m v rv b){g cap k:Nat}{x:Int}(hv:v.L = .slice (some ⟨g,0,none⟩) b.AQ.length cap):DU (w.setCell ⟨g,k,none⟩ (.int .i64 x)) m v rv { b with AQ:=b.AQ.set k x }:=by
 obtain⟨h1,h2,_⟩:=Je (k:=k) (x:=x) (h.Ag.own .AQ trivial) hv;refine⟨(h.Ag.set (i:= .AQ) trivial (r:=Bk (b.AQ.set k x) v.L) h2 (.inl rfl) h1).congr (fun _ hi=>hi) (fun j _=>by cases j<;>rfl),h.lr⟩
theorem DU.Z9 (h:DU w m v rv b){p:Nat}(hp:p<b.rws.length){u:Value}{zs:List Int}(hg:w.grownBy w' (rv.getD p AE).ownBlock)
  (hb:u.ownBlock=(rv.getD p AE).ownBlock\/u.ownBlock=some w.heap.size\/u.ownBlock=none) (ho:BO w' m u zs) {g cap:Nat} (hv:v.R = .slice (some ⟨g,0,none⟩) b.rws.length cap):
  DU (w'.setCell ⟨g,p,none⟩ u) m v (rv.set p u) { b with rws:=b.rws.set p zs }/\w'.cell? ⟨g,p,none⟩=some (rv.getD p AE)/\w'.frozen? ⟨g,p,none⟩=false:=by
 have hp':p<rv.length:=by rw[h.lr];exact hp
 have hv':v.R = .slice (some ⟨g,0,none⟩) rv.length cap:=by rw[h.lr];exact hv
 have F1:=h.Ag.set (i:= .rw p) hp' (r:=Bk zs u) hg hb ho;have o1:(Dp 28 rv v.R).own w' m:=by have:=F1.own .rws trivial;rw[AR _ _ (by simp)] at this;exact this
 obtain⟨q1,q2,q3⟩:=Rw.put o1 (g:=g) (cap:=cap) (k:=p) hv' u;have F2:=F1.set (i:= .rws) trivial (r:={ Dp 28 rv v.R with xs:=rv.set p u }) (by rw[AR _ _ (by simp)];exact q2) (.inl (by rw[AR _ _ (by simp)];rfl)) q1;refine⟨⟨F2.congr (fun j=>by cases j<;>simp[Ds]) (fun j _=>?_),by simpa using h.lr⟩,?_,q3⟩
 ·
  cases j with
  |rws=>
   rw[Am];simp[Av,Dp]
  |rw q=>
   rw[AR _ _ (by simp)];show Bk ((b.rws.set p zs).getD q []) ((rv.set p u).getD q AE)=_;rw[BK _ _ _ _ hp,BK _ _ _ _ hp'];by_cases e:q=p
   . subst e;rw[Am];simp
   . rw[AR _ _ (by simpa using e),if_neg e,if_neg e];rfl
  |_=>rw[AR _ _ (by simp),AR _ _ (by simp)];rfl
 ·
  have:=Rw.cell o1 (g:=g) (cap:=cap) (k:=p) hv' (by show p<rv.length*1;omega);rw[this,List.getD_eq_getElem?_getD];show rv[p]? = _;rw[List.getElem?_eq_getElem hp'];rfl
theorem W2 {p:Nat}{u:Value}{g:Nat}(hp:p<rv.length)(hg:FE v (rv.set p u) g):FE v rv g\/u.ownBlock=some g:=by
 obtain⟨i,hi,e⟩:=hg
 cases i with
 |rw q=>
  have hq:q<rv.length:=by simpa [Ds] using hi
  have e:((rv.set p u).getD q AE).ownBlock=some g:=e;by_cases eq:q=p
  ·
   subst eq;rw[BK _ _ _ _ hq,if_pos rfl] at e;exact .inr e
  ·
   rw[BK _ _ _ _ hp,if_neg eq] at e;exact .inl ⟨.rw q,hq,e⟩
 |AM=>exact .inl ⟨.AM,trivial,e⟩
 |AQ=>exact .inl ⟨.AQ,trivial,e⟩
 |rws=>exact .inl ⟨.rws,trivial,e⟩
 |_=>exact absurd hi (by simp[Ds])
end
end
section
section
variable {w w1 w2 w':World} {m D:Nat} {v:BV} {nv rv:List Value} {bs N:Nat} {AA:List (List Dd)} {b:Bd}
theorem AU.mk2 (h:AU w m D v nv rv bs N AA b){v':BV}{nv' rv':List Value}{b':Bd}(F:Fl w' m (Bf nv' rv') (Av D v' nv' rv' b'))(ln:nv'.length=b'.AG.length)(lr:rv'.length=b'.rws.length)(hW:v'.W=v.W)(hs:w.heap.size<=w'.heap.size)(hwk:JP w' bs N v.W AA)
  (hout:∀i,Bf nv' rv' i->∀k,(Av D v' nv' rv' b' i).v.ownBlock=some k->(∃j,Bf nv rv j/\(Av D v nv rv b j).v.ownBlock=some k)\/w.heap.size<=k):AU w' m D v' nv' rv' bs N AA b':=
 ⟨F,ln,lr,by rw[hW];exact hwk,Nat.le_trans h.top hs,fun i hi k hk=>by
  rcases hout i hi k hk with ⟨j,hj,e⟩|e
  . exact h.out j hj k e
  ·
   have:=h.top
   right;omega⟩
theorem JU {k:Nat}{x:Value}{v':BV}(o:(Gx D v).own w m)(hv:(Gx D v').xs=(Gx D v).xs.set k x):(Gx D v').own (w.setCell ⟨D,k,none⟩ x) m/\w.grownBy (w.setCell ⟨D,k,none⟩ x) (some D)/\w.frozen? ⟨D,k,none⟩=false:=by
 obtain⟨h1,h2,h3⟩:=Rw.put o (g:=D) (cap:=1) (k:=k) rfl x;refine⟨?_,h2,h3⟩;have e:Gx D v'={ Gx D v with xs:=(Gx D v).xs.set k x }:=by rw[<-hv]
 rw[e];exact h1
theorem AU.nD (h:AU w m D v nv rv bs N AA b):∀g,some D=some g->g<bs\/N<=g:=fun g e=>h.out .bd trivial g e
theorem AU.Vo (h:AU w m D v nv rv bs N AA b){u:Value}{zs:List Int}(hg:w.grownBy w2 v.S.ownBlock)(hb:u.ownBlock=v.S.ownBlock\/u.ownBlock=some w.heap.size\/u.ownBlock=none)(ho:BO w2 m u zs):
  AU (w2.setCell ⟨D,5,none⟩ u) m D { v with S:=u } nv rv bs N AA { b with sn:=zs }/\w2.cell? ⟨D,5,none⟩=some v.S/\w2.frozen? ⟨D,5,none⟩=false:=by
 have F1:=h.Ag.set (i:= .sn) trivial (r:=Bk zs u) hg hb ho;have o1:(Gx D v).own w2 m:=F1.own .bd trivial;obtain⟨q1,q2,q3⟩:=JU (k:=5) (x:=u) (v':={ v with S:=u }) o1 rfl;have F2:=F1.set (i:= .bd) trivial (r:=Gx D { v with S:=u }) q2 (.inl rfl) q1;have hf:∀j,Av D { v with S:=u } nv rv { b with sn:=zs } j=IX (IX (Av D v nv rv b) .sn (Bk zs u)) .bd (Gx D { v with S:=u }) j:=fun j=>by cases j<;>rfl
 refine⟨h.mk2 (F2.congr (fun _ hj=>hj) (fun j _=>hf j)) h.ln h.lr rfl (Nat.le_trans hg.size q2.size) ((h.work.kept hg (fun g e=>h.out .sn trivial g e)).kept q2 h.nD) (fun j hj k hk=>?_),(h.stay .sn trivial (by simp) hg 5).trans h.cells.2.2.2.2.2.1,q3⟩;by_cases e:j = .sn
 ·
  subst e;have hk:u.ownBlock=some k:=hk;rcases hb with e|e|e
  . exact .inl ⟨.sn,trivial,by rw[<-hk,e];rfl⟩
  . rw[e] at hk;exact .inr (Nat.le_of_eq (Option.some.inj hk))
  . rw[e] at hk;cases hk
 ·
  refine .inl ⟨j,hj,?_⟩;cases j<;>first|exact hk|exact absurd rfl e
theorem AU.Vm (h:AU w m D v nv rv bs N AA b){u:Value}{zs:List Int}(hg:w.grownBy w2 v.F.ownBlock)(hb:u.ownBlock=v.F.ownBlock\/u.ownBlock=some w.heap.size\/u.ownBlock=none)(ho:BO w2 m u zs):
  AU (w2.setCell ⟨D,6,none⟩ u) m D { v with F:=u } nv rv bs N AA { b with fr:=zs }/\w2.cell? ⟨D,6,none⟩=some v.F/\w2.frozen? ⟨D,6,none⟩=false:=by
 have F1:=h.Ag.set (i:= .fr) trivial (r:=Bk zs u) hg hb ho;have o1:(Gx D v).own w2 m:=F1.own .bd trivial;obtain⟨q1,q2,q3⟩:=JU (k:=6) (x:=u) (v':={ v with F:=u }) o1 rfl;have F2:=F1.set (i:= .bd) trivial (r:=Gx D { v with F:=u }) q2 (.inl rfl) q1;have hf:∀j,Av D { v with F:=u } nv rv { b with fr:=zs } j=IX (IX (Av D v nv rv b) .fr (Bk zs u)) .bd (Gx D { v with F:=u }) j:=fun j=>by cases j<;>rfl
 refine⟨h.mk2 (F2.congr (fun _ hj=>hj) (fun j _=>hf j)) h.ln h.lr rfl (Nat.le_trans hg.size q2.size) ((h.work.kept hg (fun g e=>h.out .fr trivial g e)).kept q2 h.nD) (fun j hj k hk=>?_),(h.stay .fr trivial (by simp) hg 6).trans h.cells.2.2.2.2.2.2.1,q3⟩;by_cases e:j = .fr
 ·
  subst e;have hk:u.ownBlock=some k:=hk;rcases hb with e|e|e
  . exact .inl ⟨.fr,trivial,by rw[<-hk,e];rfl⟩
  . rw[e] at hk;exact .inr (Nat.le_of_eq (Option.some.inj hk))
  . rw[e] at hk;cases hk
 ·
  refine .inl ⟨j,hj,?_⟩;cases j<;>first|exact hk|exact absurd rfl e
theorem EN {α:Type}(l:List α)(x z:α)(q:Nat):(l++[x]).getD q z=if q=l.length then x else l.getD q z:=by
 rw[List.getD_eq_getElem?_getD,List.getD_eq_getElem?_getD];by_cases e:q=l.length
 . subst e;simp
 ·
  rw[if_neg e];by_cases hl:q<l.length
  . rw[List.getElem?_append_left hl]
  . rw[List.getElem?_eq_none (by rw[List.length_append];simp;omega),List.getElem?_eq_none (by omega)]
theorem AU.TE (h:AU w m D v nv rv bs N AA b){u u':Value}{ns:List Nt}(k1:AC w w1)(hu:∀k,u.ownBlock=some k->w.heap.size<=k)(ou:Bz cN 104 3 w1 m u ns)
  (hg:w1.grownBy w2 v.N.ownBlock) (hb:u'.ownBlock=v.N.ownBlock\/u'.ownBlock=some w1.heap.size\/u'.ownBlock=none) (ho:(Dp 101 (nv++[u]) u').own w2 m):
  AU (w2.setCell ⟨D,3,none⟩ u') m D { v with N:=u' } (nv++[u]) rv bs N AA { b with AG:=b.AG++[ns] }/\w2.cell? ⟨D,3,none⟩=some v.N/\w2.frozen? ⟨D,3,none⟩=false:=by
 have F1:=h.Ag.add (i:= .nt nv.length) (fun q=>Nat.lt_irrefl _ (show nv.length<nv.length from q)) (r:=Pw ns u) rfl k1 ou hu;have F2:=F1.set (i:= .AG) (.inl trivial) (r:=Dp 101 (nv++[u]) u') hg hb ho;have o1:(Gx D v).own w2 m:=F2.own .bd (.inl trivial);obtain⟨q1,q2,q3⟩:=JU (k:=3) (x:=u') (v':={ v with N:=u' }) o1 rfl;have F3:=F2.set (i:= .bd) (.inl trivial) (r:=Gx D { v with N:=u' }) q2 (.inl rfl) q1;have hs:w.heap.size<=w1.heap.size:=k1.size
 have hf:∀j,Av D { v with N:=u' } (nv++[u]) rv { b with AG:=b.AG++[ns] } j=IX (IX (IX (Av D v nv rv b) (.nt nv.length) (Pw ns u)) .AG (Dp 101 (nv++[u]) u')) .bd (Gx D { v with N:=u' }) j:=fun j=>by
  cases j with
  |nt q=>
   rw[AR _ _ (by simp),AR _ _ (by simp)];show Pw ((b.AG++[ns]).getD q []) ((nv++[u]).getD q AE)=_;rw[EN,EN,<-h.ln];by_cases e:q=nv.length
   . subst e;rw[Am,if_pos rfl,if_pos rfl]
   . rw[AR _ _ (by simpa using e),if_neg e,if_neg e];rfl
  |_=>rfl
 have hne:some D≠v.N.ownBlock:=by
  rcases h.Ag.apart .bd .AG trivial trivial (by simp) with e|e
  . cases e
  . exact e
 refine⟨h.mk2 (F3.congr (fun j hj=>?_) (fun j _=>hf j)) (by rw[List.length_append];simp[h.ln]) h.lr rfl (Nat.le_trans hs (Nat.le_trans hg.size q2.size)) (((h.work.kept k1.grownBy (by simp)).kept hg (fun g e=>h.out .AG trivial g e)).kept q2 h.nD) (fun j hj k hk=>?_),?_,q3⟩
 ·
  cases j with
  |nt q=>
   have hq:q<(nv++[u]).length:=hj;rw[List.length_append] at hq;by_cases e:q=nv.length
   . exact .inr (by rw[e])
   . exact .inl (show q<nv.length by simp at hq;omega)
  |rw q=>exact .inl hj
  |_=>exact .inl trivial
 ·
  cases j with
  |nt q=>
   have hk:((nv++[u]).getD q AE).ownBlock=some k:=hk;rw[EN] at hk;by_cases e:q=nv.length
   . rw[if_pos e] at hk;exact .inr (hu k hk)
   ·
    rw[if_neg e] at hk;have hq:q<(nv++[u]).length:=hj;rw[List.length_append] at hq;exact .inl ⟨.nt q,show q<nv.length by simp at hq;omega,hk⟩
  |AG=>
   have hk:u'.ownBlock=some k:=hk;rcases hb with e|e|e
   . exact .inl ⟨.AG,trivial,by rw[<-hk,e];rfl⟩
   . rw[e] at hk;exact .inr (by have:=Option.some.inj hk;omega)
   . rw[e] at hk;cases hk
  |rw q=>exact .inl ⟨.rw q,hj,hk⟩
  |bd=>exact .inl ⟨.bd,trivial,hk⟩
  |AM=>exact .inl ⟨.AM,trivial,hk⟩
  |AQ=>exact .inl ⟨.AQ,trivial,hk⟩
  |AK=>exact .inl ⟨.AK,trivial,hk⟩
  |sn=>exact .inl ⟨.sn,trivial,hk⟩
  |fr=>exact .inl ⟨.fr,trivial,hk⟩
  |rws=>exact .inl ⟨.rws,trivial,hk⟩
 ·
  have hD:=h.base.2;have e1:w2.cell? ⟨D,3,none⟩=w1.cell? ⟨D,3,none⟩:=World.cell?_of_block (w:=w1) (hg.block D (by omega) hne);rw[e1,k1.cell hD];exact h.cells.2.2.2.1
theorem AU.WI (h:AU w m D v nv rv bs N AA b){u u':Value}{zs:List Int}(k1:AC w w1)(hu:∀k,u.ownBlock=some k->w.heap.size<=k)(ou:BO w1 m u zs)
  (hg:w1.grownBy w2 v.R.ownBlock) (hb:u'.ownBlock=v.R.ownBlock\/u'.ownBlock=some w1.heap.size\/u'.ownBlock=none) (ho:(Dp 28 (rv++[u]) u').own w2 m):
  AU (w2.setCell ⟨D,7,none⟩ u') m D { v with R:=u' } nv (rv++[u]) bs N AA { b with rws:=b.rws++[zs] }/\w2.cell? ⟨D,7,none⟩=some v.R/\w2.frozen? ⟨D,7,none⟩=false:=by
 have F1:=h.Ag.add (i:= .rw rv.length) (fun q=>Nat.lt_irrefl _ (show rv.length<rv.length from q)) (r:=Bk zs u) rfl k1 ou hu;have F2:=F1.set (i:= .rws) (.inl trivial) (r:=Dp 28 (rv++[u]) u') hg hb ho;have o1:(Gx D v).own w2 m:=F2.own .bd (.inl trivial);obtain⟨q1,q2,q3⟩:=JU (k:=7) (x:=u') (v':={ v with R:=u' }) o1 rfl;have F3:=F2.set (i:= .bd) (.inl trivial) (r:=Gx D { v with R:=u' }) q2 (.inl rfl) q1;have hs:w.heap.size<=w1.heap.size:=k1.size
 have hf:∀j,Av D { v with R:=u' } nv (rv++[u]) { b with rws:=b.rws++[zs] } j=IX (IX (IX (Av D v nv rv b) (.rw rv.length) (Bk zs u)) .rws (Dp 28 (rv++[u]) u')) .bd (Gx D { v with R:=u' }) j:=fun j=>by
  cases j with
  |rw q=>
   rw[AR _ _ (by simp),AR _ _ (by simp)];show Bk ((b.rws++[zs]).getD q []) ((rv++[u]).getD q AE)=_;rw[EN,EN,<-h.lr];by_cases e:q=rv.length
   . subst e;rw[Am,if_pos rfl,if_pos rfl]
   . rw[AR _ _ (by simpa using e),if_neg e,if_neg e];rfl
  |_=>rfl
 have hne:some D≠v.R.ownBlock:=by
  rcases h.Ag.apart .bd .rws trivial trivial (by simp) with e|e
  . cases e
  . exact e
 refine⟨h.mk2 (F3.congr (fun j hj=>?_) (fun j _=>hf j)) h.ln (by rw[List.length_append];simp[h.lr]) rfl (Nat.le_trans hs (Nat.le_trans hg.size q2.size)) (((h.work.kept k1.grownBy (by simp)).kept hg (fun g e=>h.out .rws trivial g e)).kept q2 h.nD) (fun j hj k hk=>?_),?_,q3⟩
 ·
  cases j with
  |rw q=>
   have hq:q<(rv++[u]).length:=hj;rw[List.length_append] at hq;by_cases e:q=rv.length
   . exact .inr (by rw[e])
   . exact .inl (show q<rv.length by simp at hq;omega)
  |nt q=>exact .inl hj
  |_=>exact .inl trivial
 ·
  cases j with
  |rw q=>
   have hk:((rv++[u]).getD q AE).ownBlock=some k:=hk;rw[EN] at hk;by_cases e:q=rv.length
   . rw[if_pos e] at hk;exact .inr (hu k hk)
   ·
    rw[if_neg e] at hk;have hq:q<(rv++[u]).length:=hj;rw[List.length_append] at hq;exact .inl ⟨.rw q,show q<rv.length by simp at hq;omega,hk⟩
  |rws=>
   have hk:u'.ownBlock=some k:=hk;rcases hb with e|e|e
   . exact .inl ⟨.rws,trivial,by rw[<-hk,e];rfl⟩
   . rw[e] at hk;exact .inr (by have:=Option.some.inj hk;omega)
   . rw[e] at hk;cases hk
  |nt q=>exact .inl ⟨.nt q,hj,hk⟩
  |bd=>exact .inl ⟨.bd,trivial,hk⟩
  |AM=>exact .inl ⟨.AM,trivial,hk⟩
  |AQ=>exact .inl ⟨.AQ,trivial,hk⟩
  |AK=>exact .inl ⟨.AK,trivial,hk⟩
  |sn=>exact .inl ⟨.sn,trivial,hk⟩
  |fr=>exact .inl ⟨.fr,trivial,hk⟩
  |AG=>exact .inl ⟨.AG,trivial,hk⟩
 ·
  have hD:=h.base.2;have e1:w2.cell? ⟨D,7,none⟩=w1.cell? ⟨D,7,none⟩:=World.cell?_of_block (w:=w1) (hg.block D (by omega) hne);rw[e1,k1.cell hD];exact h.cells.2.2.2.2.2.2.2
end
end
section
def BR (s:Nat)(V:Nat->Value)(ln:Nat->Nat):Nat->List (Value×Nat)
 | 0=>[]
 |n+1=>BR s V ln n++[(V n,s*ln n)]
theorem Lp (s:Nat)(V:Nat->Value)(ln:Nat->Nat):∀n j,j<=n->(BR s V ln j).Sublist (BR s V ln n)
 | 0,j,h=>by
  obtain rfl:j=0:=by omega
  exact List.Sublist.refl _
 |n+1,j,h=>by
  by_cases e:j=n+1
  . subst e;exact List.Sublist.refl _
  . exact (Lp s V ln n j (by omega)).trans (List.sublist_append_left _ _)
theorem Ix (s:Nat)(V:Nat->Value)(ln:Nat->Nat):∀n (r:Value×Nat),r∈BR s V ln n↔∃i,i<n/\r=(V i,s*ln i)
 | 0,r=>by simp[BR]
 |n+1,r=>by
  rw[BR,List.mem_append,Ix s V ln n r,List.mem_singleton];constructor
  ·
   rintro (⟨i,hi,e⟩|e)
   . exact⟨i,by omega,e⟩
   . exact⟨n,by omega,e⟩
  ·
   rintro⟨i,hi,e⟩;by_cases h:i=n
   . subst h;exact .inr e
   . exact .inl ⟨i,by omega,e⟩
theorem Iy (s:Nat)(V:Nat->Value)(ln:Nat->Nat)(n:Nat):DW (BR s V ln (n+1))=DW (BR s V ln n)+s*ln n:=by
 rw[BR,Tj];simp[DW]
theorem Jj (s:Nat)(V:Nat->Value)(ln:Nat->Nat):∀n j,j<=n->DW (BR s V ln j)<=DW (BR s V ln n)
 | 0,j,h=>by
  obtain rfl:j=0:=by omega
  exact Nat.le_refl _
 |n+1,j,h=>by
  by_cases e:j=n+1
  . subst e;exact Nat.le_refl _
  ·
   have:=Jj s V ln n j (by omega);rw[Iy];omega
def UE (v:Value)(n:Nat):Prop:=∃a c,v = .slice a n c/\(n=0\/∃b o,a=some ⟨b,o,none⟩)
theorem TT (s:Nat)(V:Nat->Value)(ln:Nat->Nat){w:World}{k:Int}:∀n,Ss w k (BR s V ln n)->∀j,j<n->Yi w (V j) (s*ln j) (k+DW (BR s V ln j))
 | 0,_,j,hj=>absurd hj (Nat.not_lt_zero j)
 |n+1,h,j,hj=>by
  rw[BR,Nu] at h;by_cases e:j=n
  . subst e;exact h.2.1
  . exact TT s V ln n h.1 j (by omega)
section
variable (v:BV) (Vw Vn Vr:Nat->Value) (AA:List (List Dd)) (b:Bd)
def uY:List (Value×Nat):=BR 4 Vw (fun i=>(AA.getD i []).length) AA.length
def uZ:List (Value×Nat):=uY Vw AA++[(v.P,b.AM.length)]
def uf:List (Value×Nat):=uZ v Vw AA b++[(v.L,b.AQ.length)]
def ug:List (Value×Nat):=uf v Vw AA b++BR 3 Vn (fun i=>(b.AG.getD i []).length) b.AG.length
def uh:List (Value×Nat):=ug v Vw Vn AA b++[(v.X,b.AK.length)]
def uj:List (Value×Nat):=uh v Vw Vn AA b++[(v.S,b.sn.length)]
def ul:List (Value×Nat):=uj v Vw Vn AA b++[(v.F,b.fr.length)]
def M3:List (Value×Nat):=ul v Vw Vn AA b++BR 1 Vr (fun i=>(b.rws.getD i []).length) b.rws.length
end
def QR (w:World)(v:Value)(V:Nat->Value)(n:Nat)(S:Addr->Prop):Prop:=
 ∃a c,v = .slice a n c/\(n=0\/∃b o,a=some ⟨b,o,none⟩/\b<w.heap.size/\∀i,i<n->w.cell? ⟨b,o+i,none⟩=some (V i)/\¬S ⟨b,o+i,none⟩)
theorem QR.keep {w w':World}{v:Value}{V:Nat->Value}{n:Nat}{S:Addr->Prop}(h:QR w v V n S)(k:AC w w'):QR w' v V n S:=by
 obtain⟨a,c,e,h⟩:=h;refine⟨a,c,e,?_⟩;rcases h with h|⟨b,o,ea,hb,hc⟩
 . exact .inl h
 . exact .inr ⟨b,o,ea,Nat.lt_of_lt_of_le hb k.size,fun i hi=>⟨(k.cell hb).trans (hc i hi).1,(hc i hi).2⟩⟩
theorem QR.kept {w w':World}{v:Value}{V:Nat->Value}{n:Nat}{S T:Addr->Prop}(h:QR w v V n S)(k:JK T w w')(hs:∀x,T x->S x):QR w' v V n S:=by
 obtain⟨a,c,e,h⟩:=h;refine⟨a,c,e,?_⟩;rcases h with h|⟨b,o,ea,hb,hc⟩
 . exact .inl h
 . exact .inr ⟨b,o,ea,Nat.lt_of_lt_of_le hb k.size,fun i hi=>⟨(k.cell _ hb (fun h=>(hc i hi).2 (hs _ h))).trans (hc i hi).1,(hc i hi).2⟩⟩
theorem QR.less {w:World}{v:Value}{V:Nat->Value}{n:Nat}{S T:Addr->Prop}(h:QR w v V n S)(hs:∀x,T x->S x):QR w v V n T:=by
 obtain⟨a,c,e,h⟩:=h;refine⟨a,c,e,?_⟩;rcases h with h|⟨b,o,ea,hb,hc⟩
 . exact .inl h
 . exact .inr ⟨b,o,ea,hb,fun i hi=>⟨(hc i hi).1,fun h=>(hc i hi).2 (hs _ h)⟩⟩
theorem QR.plain {w:World}{v:Value}{V:Nat->Value}{n:Nat}{S:Addr->Prop}(h:QR w v V n S):∃a c,v = .slice a n c/\(n=0\/∃b o,a=some ⟨b,o,none⟩/\b<w.heap.size/\∀i,i<n->w.cell? ⟨b,o+i,none⟩=some (V i)):=by
 obtain⟨a,c,e,h⟩:=h;refine⟨a,c,e,?_⟩;rcases h with h|⟨b,o,ea,hb,hc⟩
 . exact .inl h
 . exact .inr ⟨b,o,ea,hb,fun i hi=>(hc i hi).1⟩
structure UB (w:World)(v:BV)(Vw Vn Vr:Nat->Value)(AA:List (List Dd))(b:Bd):Prop where
 hW:QR w v.W Vw AA.length (CV (M3 v Vw Vn Vr AA b))
 sW:∀i,i<AA.length->UE (Vw i) (AA.getD i []).length
 sP:UE v.P b.AM.length
 sL:UE v.L b.AQ.length
 hN:QR w v.N Vn b.AG.length (CV (M3 v Vw Vn Vr AA b))
 sN:∀i,i<b.AG.length->UE (Vn i) (b.AG.getD i []).length
 sX:UE v.X b.AK.length
 sS:UE v.S b.sn.length
 sF:UE v.F b.fr.length
 hR:QR w v.R Vr b.rws.length (CV (M3 v Vw Vn Vr AA b))
 sR:∀i,i<b.rws.length->UE (Vr i) (b.rws.getD i []).length
section
variable {w w':World} {v:BV} {Vw Vn Vr:Nat->Value} {AA:List (List Dd)} {b:Bd}
theorem UB.keep (h:UB w v Vw Vn Vr AA b)(k:AC w w'):UB w' v Vw Vn Vr AA b:=
 ⟨h.hW.keep k,h.sW,h.sP,h.sL,h.hN.keep k,h.sN,h.sX,h.sS,h.sF,h.hR.keep k,h.sR⟩
theorem UB.kept (h:UB w v Vw Vn Vr AA b){T:Addr->Prop}(k:JK T w w')(hs:∀x,T x->CV (M3 v Vw Vn Vr AA b) x):UB w' v Vw Vn Vr AA b:=
 ⟨h.hW.kept k hs,h.sW,h.sP,h.sL,h.hN.kept k hs,h.sN,h.sX,h.sS,h.sF,h.hR.kept k hs,h.sR⟩
end
end
abbrev Tv (ds:List Dd)(v:Value):Rw:=⟨65,4,v,ds.length,ds.flatMap cD⟩
section
inductive BJ where
 |b (i:BI)
 |wk
 |wd (c:Nat) deriving DecidableEq
def JC (v:BV)(nv rv wv:List Value)(AA:List (List Dd))(b:Bd):BJ->Rw
 | .b i=>Av 0 v nv rv b i
 | .wk=>Dp 62 wv v.W
 | .wd c=>Tv (AA.getD c []) (wv.getD c AE)
def Eg (nv rv wv:List Value):BJ->Prop
 | .b i=>Bf nv rv i/\i≠.bd
 | .wk=>True
 | .wd c=>c<wv.length
structure Ei (w:World)(m:Nat)(v:BV)(nv rv wv:List Value)(AA:List (List Dd))(b:Bd):Prop where
 Ag:Fl w m (Eg nv rv wv) (JC v nv rv wv AA b)
 ln:nv.length=b.AG.length
 lr:rv.length=b.rws.length
 lw:wv.length=AA.length
theorem Fl.Ry {ι:Type}{w:World}{m m':Nat}{live:ι->Prop}{R:ι->Rw}(h:Fl w m live R)(hm:m'<=m):Fl w m' live R:=⟨fun i hi=>DR (h.own i hi) hm,h.apart⟩
section
variable {w w':World} {m:Nat} {v:BV} {nv rv wv:List Value} {AA:List (List Dd)} {b:Bd}
theorem Ei.keep (h:Ei w m v nv rv wv AA b)(k:AC w w'):Ei w' m v nv rv wv AA b:=⟨h.Ag.keep k,h.ln,h.lr,h.lw⟩
theorem Ei.far (h:Ei w m v nv rv wv AA b){g:Nat}(hg:w.grownBy w' (some g))(hl:g<m):Ei w' m v nv rv wv AA b:=
 ⟨h.Ag.far hg (fun i hi=>by
  cases e:(JC v nv rv wv AA b i).v.ownBlock with
  |none=>exact .inl rfl
  |some k=>exact .inr (fun e'=>by have:=(h.Ag.lt hi k e).1;have:=Option.some.inj e';omega)),h.ln,h.lr,h.lw⟩
theorem Ei.rd (h:Ei w m v nv rv wv AA b):Cf w v AA b:=by
 have oN:∀ {c:Nat},c<b.AG.length->Bz cN 104 3 w m (nv.getD c AE) (b.AG.getD c []):=fun {c} hc=>h.Ag.own (.b (.nt c)) ⟨by show c<nv.length;rw[h.ln];exact hc,by simp⟩
 have oR:∀ {p:Nat},p<b.rws.length->BO w m (rv.getD p AE) (b.rws.getD p []):=fun {p} hp=>h.Ag.own (.b (.rw p)) ⟨by show p<rv.length;rw[h.lr];exact hp,by simp⟩
 have oW:∀ {c:Nat},c<AA.length->C2 w m (wv.getD c AE) (AA.getD c []):=fun {c} hc=>h.Ag.own (.wd c) (by show c<wv.length;rw[h.lw];exact hc)
 have o1:BO w m v.P b.AM:=h.Ag.own (.b .AM) ⟨trivial,by simp⟩;have o2:BO w m v.L b.AQ:=h.Ag.own (.b .AQ) ⟨trivial,by simp⟩;have o3:BO w m v.X b.AK:=h.Ag.own (.b .AK) ⟨trivial,by simp⟩;have o4:BO w m v.S b.sn:=h.Ag.own (.b .sn) ⟨trivial,by simp⟩;have o5:BO w m v.F b.fr:=h.Ag.own (.b .fr) ⟨trivial,by simp⟩;refine⟨?_,o1.rd,o2.rd,?_,o3.rd,o4.rd,o5.rd,?_⟩
 ·
  obtain⟨a,cap,e,h1⟩:=Br (h.Ag.own .wk trivial);rw[h.lw] at e;refine⟨a,cap,e,?_⟩;rcases h1 with h1|⟨g,e1,e2,e3⟩
  ·
   left;have:=h.lw;rw[h1] at this;exact List.eq_nil_of_length_eq_zero this.symm
  . exact .inr ⟨g,0,e1,e2,fun i hi=>⟨_,by rw[Nat.zero_add];exact e3 i (by rw[h.lw];exact hi),(oW hi).Uw.rd⟩⟩
 ·
  obtain⟨a,cap,e,h1⟩:=Br (h.Ag.own (.b .AG) ⟨trivial,by simp⟩);rw[h.ln] at e;refine⟨a,cap,e,?_⟩;rcases h1 with h1|⟨g,e1,e2,e3⟩
  ·
   left;have:=h.ln;rw[h1] at this;exact List.eq_nil_of_length_eq_zero this.symm
  . exact .inr ⟨g,0,e1,e2,fun i hi=>⟨_,by rw[Nat.zero_add];exact e3 i (by rw[h.ln];exact hi),Bz.rd D5 (oN hi)⟩⟩
 ·
  obtain⟨a,cap,e,h1⟩:=Br (h.Ag.own (.b .rws) ⟨trivial,by simp⟩);rw[h.lr] at e;refine⟨a,cap,e,?_⟩;rcases h1 with h1|⟨g,e1,e2,e3⟩
  ·
   left;have:=h.lr;rw[h1] at this;exact List.eq_nil_of_length_eq_zero this.symm
  . exact .inr ⟨g,0,e1,e2,fun i hi=>⟨_,by rw[Nat.zero_add];exact e3 i (by rw[h.lr];exact hi),(oR hi).rd⟩⟩
end
end
section
def iU (v:Value)(n m:Nat):Prop:=∀b o l c,v = .slice (some ⟨b,o,none⟩) l c->0<n->m<=b
structure CX (w:World)(m M:Nat)(v:BV)(AA:List (List Dd))(b:Bd):Prop where
 rd:Cf w v AA b
 ex:∃Vw Vn Vr:Nat->Value,UB w v Vw Vn Vr AA b/\E5 w (M3 v Vw Vn Vr AA b)/\∀x,CV (M3 v Vw Vn Vr AA b) x->m<=x.block/\x.block<M
 hd:iU v.W AA.length m/\iU v.N b.AG.length m/\iU v.R b.rws.length m
theorem CX.keep {w w':World}{m M:Nat}{v:BV}{AA:List (List Dd)}{b:Bd}(h:CX w m M v AA b)(k:AC w w'):CX w' m M v AA b:=by
 obtain⟨Vw,Vn,Vr,h1,h2,h3⟩:=h.ex;exact⟨h.rd.keep k,⟨Vw,Vn,Vr,h1.keep k,h2.keep k,h3⟩,h.hd⟩
theorem Lo (s:Nat)(V:Nat->Value)(ln:Nat->Nat):∀n,BR s V ln n=(List.range n).map (fun i=>(V i,s*ln i))
 | 0=>rfl
 |n+1=>by rw[BR,Lo s V ln n,List.range_succ,List.map_append];rfl
def Mz (nw nn nr:Nat):List BJ:=(((((((List.range nw).map BJ.wd++[.b .AM])++[.b .AQ])++(List.range nn).map (fun c=>BJ.b (.nt c)))++[.b .AK])++[.b .sn])++[.b .fr])++(List.range nr).map (fun p=>BJ.b (.rw p))
def RO (v:BV)(Vw Vn Vr:Nat->Value)(AA:List (List Dd))(b:Bd):BJ->Value×Nat
 | .wd c=>(Vw c,4*(AA.getD c []).length)
 | .b .AM=>(v.P,b.AM.length)
 | .b .AQ=>(v.L,b.AQ.length)
 | .b (.nt c)=>(Vn c,3*(b.AG.getD c []).length)
 | .b .AK=>(v.X,b.AK.length)
 | .b .sn=>(v.S,b.sn.length)
 | .b .fr=>(v.F,b.fr.length)
 | .b (.rw p)=>(Vr p,1*(b.rws.getD p []).length)
 |_=>(v.W,0)
theorem Dl (v:BV)(Vw Vn Vr:Nat->Value)(AA:List (List Dd))(b:Bd):M3 v Vw Vn Vr AA b=(Mz AA.length b.AG.length b.rws.length).map (RO v Vw Vn Vr AA b):=by
 unfold M3 ul uj uh ug uf uZ uY Mz;simp only[Lo,List.map_append,List.map_map,List.map_cons,List.map_nil];rfl
theorem FZ {nw nn nr:Nat}{j:BJ}(h:j∈Mz nw nn nr):(∃c,c<nw/\j = .wd c)\/j = .b .AM\/j = .b .AQ\/(∃c,c<nn/\j = .b (.nt c))\/j = .b .AK\/j = .b .sn\/j = .b .fr\/∃p,p<nr/\j = .b (.rw p):=by
 unfold Mz at h;simp only[List.mem_append,List.mem_map,List.mem_range,List.mem_singleton] at h;rcases h with ((((((⟨c,hc,rfl⟩|h)|h)|⟨c,hc,rfl⟩)|h)|h)|h)|⟨c,hc,rfl⟩
 . exact .inl ⟨c,hc,rfl⟩
 . exact .inr (.inl h)
 . exact .inr (.inr (.inl h))
 . exact .inr (.inr (.inr (.inl ⟨c,hc,rfl⟩)))
 . exact .inr (.inr (.inr (.inr (.inl h))))
 . exact .inr (.inr (.inr (.inr (.inr (.inl h)))))
 . exact .inr (.inr (.inr (.inr (.inr (.inr (.inl h))))))
 . exact .inr (.inr (.inr (.inr (.inr (.inr (.inr ⟨c,hc,rfl⟩))))))
theorem Ft {α β:Type}{f:α->β}{l:List α}(h:l.Nodup)(hf:∀a b,f a=f b->a=b):(l.map f).Nodup:=by
 unfold List.Nodup;rw[List.pairwise_map];exact h.imp (fun {a b} hne e=>hne (hf a b e))
theorem PO (nw nn nr:Nat):(Mz nw nn nr).Nodup:=by
 have h1:=Ft (f:=BJ.wd) (List.nodup_range (n:=nw)) (fun a b e=>by injection e);have h2:=Ft (f:=fun c=>BJ.b (.nt c)) (List.nodup_range (n:=nn)) (fun a b e=>by injection e with e;injection e);have h3:=Ft (f:=fun c=>BJ.b (.rw c)) (List.nodup_range (n:=nr)) (fun a b e=>by injection e with e;injection e);unfold Mz;have one:∀j:BJ,[j].Nodup:=fun j=>by simp
 refine List.nodup_append.2 ⟨List.nodup_append.2 ⟨List.nodup_append.2 ⟨List.nodup_append.2 ⟨List.nodup_append.2 ⟨List.nodup_append.2 ⟨List.nodup_append.2 ⟨h1,one _,?_⟩,one _,?_⟩,h2,?_⟩,one _,?_⟩,one _,?_⟩,one _,?_⟩,h3,?_⟩
 all_goals
  intro x hx y hy e;subst e;simp only[List.mem_append,List.mem_map,List.mem_range,List.mem_singleton] at hx hy
  first
   | (subst hy;simp at hx;done)
   | (obtain⟨q,_,rfl⟩:=hy;simp at hx;done)
theorem Rw.wb {w:World}{m:Nat}{r:Rw}(h:r.own w m){n:Nat}(hn:n<=r.n*r.size){x:Addr}(hx:D0 r.v n x):Wb w x/\m<=x.block/\r.v.ownBlock=some x.block:=by
 obtain⟨b,o,l,c,i,e,hi,rfl⟩:=hx;unfold Rw.own at h;rcases h.2 with ⟨h1,_⟩|⟨g,cap,cur,h1,hb,hg,hc,_,hs,_⟩
 . rw[h1] at e;simp at e
 ·
  rw[h1] at e;simp only[Value.slice.injEq,Option.some.injEq,Addr.mk.injEq,and_true] at e;obtain⟨⟨rfl,rfl⟩,rfl,rfl⟩:=e;refine⟨⟨cur,r.e,hg,?_⟩,hb,by rw[h1];rfl⟩;rw[hs];have:r.n*r.size<=cap*r.size:=Nat.mul_le_mul_right _ hc;show 0+i<cap*r.size;omega
theorem Rw.Ta {w:World}{m:Nat}{r:Rw}(h:r.own w m):UE r.v r.n:=by
 unfold Rw.own at h;rcases h.2 with ⟨h1,h2⟩|⟨g,cap,cur,h1,_⟩
 . exact⟨none,0,by rw[h1,h2],.inl h2⟩
 . exact⟨_,cap,h1,.inr ⟨g,0,rfl⟩⟩
section
variable {w:World} {m:Nat} {v:BV} {nv rv wv:List Value} {AA:List (List Dd)} {b:Bd}
theorem Ei.row (h:Ei w m v nv rv wv AA b){j:BJ}(hj:j∈Mz AA.length b.AG.length b.rws.length):
  Eg nv rv wv j/\(RO v (fun i=>wv.getD i AE) (fun i=>nv.getD i AE) (fun i=>rv.getD i AE) AA b j).1=(JC v nv rv wv AA b j).v /\
  (RO v (fun i=>wv.getD i AE) (fun i=>nv.getD i AE) (fun i=>rv.getD i AE) AA b j).2<=(JC v nv rv wv AA b j).n*(JC v nv rv wv AA b j).size:=by
 rcases FZ hj with ⟨c,hc,rfl⟩|rfl|rfl|⟨c,hc,rfl⟩|rfl|rfl|rfl|⟨c,hc,rfl⟩
 . exact⟨by show c<wv.length;rw[h.lw];exact hc,rfl,by show 4*(AA.getD c []).length<=(AA.getD c []).length*4;omega⟩
 . exact⟨⟨trivial,by simp⟩,rfl,by show b.AM.length<=b.AM.length*1;omega⟩
 . exact⟨⟨trivial,by simp⟩,rfl,by show b.AQ.length<=b.AQ.length*1;omega⟩
 . exact⟨⟨by show c<nv.length;rw[h.ln];exact hc,by simp⟩,rfl,by show 3*(b.AG.getD c []).length<=(b.AG.getD c []).length*3;omega⟩
 . exact⟨⟨trivial,by simp⟩,rfl,by show b.AK.length<=b.AK.length*1;omega⟩
 . exact⟨⟨trivial,by simp⟩,rfl,by show b.sn.length<=b.sn.length*1;omega⟩
 . exact⟨⟨trivial,by simp⟩,rfl,by show b.fr.length<=b.fr.length*1;omega⟩
 . exact⟨⟨by show c<rv.length;rw[h.lr];exact hc,by simp⟩,rfl,by show 1*(b.rws.getD c []).length<=(b.rws.getD c []).length*1;omega⟩
theorem Ei.heads (h:Ei w m v nv rv wv AA b){j:BJ}{t:TypeId}{vs:List Value}{u:Value}(hl:Eg nv rv wv j)(e:JC v nv rv wv AA b j=Dp t vs u)(hj:j∉Mz AA.length b.AG.length b.rws.length):
  QR w u (fun i=>vs.getD i AE) vs.length (CV (M3 v (fun i=>wv.getD i AE) (fun i=>nv.getD i AE) (fun i=>rv.getD i AE) AA b)):=by
 have ho:=h.Ag.own j hl;rw[e] at ho;obtain⟨a,c,ea,h1⟩:=Br ho;refine⟨a,c,ea,?_⟩;rcases h1 with h1|⟨g,e1,e2,e3⟩
 . exact .inl (by rw[h1];rfl)
 ·
  refine .inr ⟨g,0,e1,e2,fun i hi=>⟨by rw[Nat.zero_add];exact e3 i hi,?_⟩⟩;rintro⟨r,hr,hx⟩;rw[Dl,List.mem_map] at hr;obtain⟨q,hq,rfl⟩:=hr;obtain⟨l1,l2,l3⟩:=h.row hq;rw[l2] at hx;obtain⟨-,-,hb⟩:=Rw.wb (h.Ag.own q l1) l3 hx;have ap:=h.Ag.apart q j l1 hl (fun e=>hj (e ▸ hq));rw[hb,e] at ap;rcases ap with ap|ap
  . cases ap
  ·
   apply ap;show _=u.ownBlock;rw[ea,e1];rfl
theorem Ei.Qi (h:Ei w m v nv rv wv AA b){j:BJ}(hl:Eg nv rv wv j)(n:Nat):iU (JC v nv rv wv AA b j).v n m:=by
 intro q o l c e _;exact (h.Ag.lt hl q (by rw[e];rfl)).1
theorem Ei.free (h:Ei w m v nv rv wv AA b):CX w m w.heap.size v AA b:=by
 refine⟨h.rd,⟨fun i=>wv.getD i AE,fun i=>nv.getD i AE,fun i=>rv.getD i AE,?_,⟨?_,?_⟩,?_⟩,h.Qi (j:= .wk) trivial _,h.Qi (j:= .b .AG) ⟨trivial,by simp⟩ _,h.Qi (j:= .b .rws) ⟨trivial,by simp⟩ _⟩
 ·
  have hw:=h.heads (j:= .wk) (t:=62) (vs:=wv) (u:=v.W) trivial rfl (fun hq=>by have:=FZ hq;simp at this);have hn:=h.heads (j:= .b .AG) (t:=101) (vs:=nv) (u:=v.N) ⟨trivial,by simp⟩ rfl (fun hq=>by have:=FZ hq;simp at this);have hr:=h.heads (j:= .b .rws) (t:=28) (vs:=rv) (u:=v.R) ⟨trivial,by simp⟩ rfl (fun hq=>by have:=FZ hq;simp at this);rw[h.lw] at hw;rw[h.ln] at hn;rw[h.lr] at hr
  exact⟨hw,fun i hi=>Rw.Ta (h.Ag.own (.wd i) (by show i<wv.length;rw[h.lw];exact hi)),Rw.Ta (h.Ag.own (.b .AM) ⟨trivial,by simp⟩),Rw.Ta (h.Ag.own (.b .AQ) ⟨trivial,by simp⟩),hn,
   fun i hi=>Rw.Ta (h.Ag.own (.b (.nt i)) ⟨by show i<nv.length;rw[h.ln];exact hi,by simp⟩),Rw.Ta (h.Ag.own (.b .AK) ⟨trivial,by simp⟩),Rw.Ta (h.Ag.own (.b .sn) ⟨trivial,by simp⟩),Rw.Ta (h.Ag.own (.b .fr) ⟨trivial,by simp⟩),hr,
   fun i hi=>Rw.Ta (h.Ag.own (.b (.rw i)) ⟨by show i<rv.length;rw[h.lr];exact hi,by simp⟩)⟩
 ·
  rintro x ⟨r,hr,hx⟩;rw[Dl,List.mem_map] at hr;obtain⟨q,hq,rfl⟩:=hr;obtain⟨l1,l2,l3⟩:=h.row hq;rw[l2] at hx;exact (Rw.wb (h.Ag.own q l1) l3 hx).1
 ·
  rw[Dl,List.pairwise_map];refine List.Pairwise.imp_of_mem (R:=fun a b=>a≠b) (fun {p q} hp hq hne x hx hy=>?_) (PO _ _ _);obtain⟨l1,l2,l3⟩:=h.row hp;obtain⟨k1,k2,k3⟩:=h.row hq;rw[l2] at hx;rw[k2] at hy;have a1:=(Rw.wb (h.Ag.own p l1) l3 hx).2.2;have a2:=(Rw.wb (h.Ag.own q k1) k3 hy).2.2;rcases h.Ag.apart p q l1 k1 hne with ap|ap
  . rw[a1] at ap;cases ap
  . rw[a1,a2] at ap;exact ap rfl
 ·
  rintro x ⟨r,hr,hx⟩;rw[Dl,List.mem_map] at hr;obtain⟨q,hq,rfl⟩:=hr;obtain⟨l1,l2,l3⟩:=h.row hq;rw[l2] at hx;have:=Rw.wb (h.Ag.own q l1) l3 hx;exact⟨this.2.1,this.1.lt⟩
end
theorem FT {w w':World}{m:Nat}(hh:∀q,m<=q->q<w.heap.size->w'.heap[q]? = w.heap[q]?)(hs:w.heap.size<=w'.heap.size){v:Value}{zs:List Int}(h:Rd w v zs)(hr:∀x,D0 v zs.length x->m<=x.block):Rd w' v zs:=by
 obtain⟨a,c,rfl,h⟩:=h;refine⟨a,c,rfl,?_⟩;rcases h with h|⟨b,o,rfl,hb,hc⟩
 . exact .inl h
 ·
  by_cases hz:zs.length=0
  . exact .inl (List.eq_nil_of_length_eq_zero hz)
  have hm:=hr ⟨b,o+0,none⟩ ⟨b,o,_,c,0,rfl,by omega,rfl⟩;exact .inr ⟨b,o,rfl,Nat.lt_of_lt_of_le hb hs,fun i hi=>(World.cell?_of_block (a:=⟨b,o+i,none⟩) (hh b hm hb)).trans (hc i hi)⟩
theorem YN {w w':World}{m:Nat}(hh:∀q,m<=q->q<w.heap.size->w'.heap[q]? = w.heap[q]?)(hs:w.heap.size<=w'.heap.size){v:Value}{zs:List Nt}(h:mJ w v zs)(hr:∀x,D0 v (3*zs.length) x->m<=x.block):mJ w' v zs:=by
 obtain⟨a,c,rfl,h⟩:=h;refine⟨a,c,rfl,?_⟩;rcases h with h|⟨b,o,rfl,hb,hc⟩
 . exact .inl h
 ·
  by_cases hz:zs.length=0
  . exact .inl (List.eq_nil_of_length_eq_zero hz)
  have hm:=hr ⟨b,o+0,none⟩ ⟨b,o,_,_,0,rfl,by omega,rfl⟩;exact .inr ⟨b,o,rfl,Nat.lt_of_lt_of_le hb hs,fun i x hx=>(hc i x hx).same (hh b hm hb)⟩
theorem YM {w w':World}{m:Nat}(hh:∀q,m<=q->q<w.heap.size->w'.heap[q]? = w.heap[q]?)(hs:w.heap.size<=w'.heap.size){v:Value}{zs:List Dd}(h:JO w v zs)(hr:∀x,D0 v (4*zs.length) x->m<=x.block):JO w' v zs:=by
 obtain⟨a,c,rfl,h⟩:=h;refine⟨a,c,rfl,?_⟩;rcases h with h|⟨b,o,rfl,hb,hc⟩
 . exact .inl h
 ·
  by_cases hz:zs.length=0
  . exact .inl (List.eq_nil_of_length_eq_zero hz)
  have hm:=hr ⟨b,o+0,none⟩ ⟨b,o,_,_,0,rfl,by omega,rfl⟩;refine .inr ⟨b,o,rfl,Nat.lt_of_lt_of_le hb hs,fun i hi=>?_⟩;obtain⟨c0,c1,c2,c3⟩:=hc i hi;have e:=hh b hm hb;exact⟨(World.cell?_of_block (a:=⟨b,_,none⟩) e).trans c0,(World.cell?_of_block (a:=⟨b,_,none⟩) e).trans c1,(World.cell?_of_block (a:=⟨b,_,none⟩) e).trans c2,(World.cell?_of_block (a:=⟨b,_,none⟩) e).trans c3⟩
theorem NV {w w':World}{m:Nat}(hh:∀q,m<=q->q<w.heap.size->w'.heap[q]? = w.heap[q]?)(hs:w.heap.size<=w'.heap.size){v:Value}{V:Nat->Value}{n:Nat}{S:Addr->Prop}(h:QR w v V n S)(hm:iU v n m):QR w' v V n S:=by
 obtain⟨a,c,rfl,h⟩:=h;refine⟨a,c,rfl,?_⟩;rcases h with h|⟨b,o,rfl,hb,hc⟩
 . exact .inl h
 ·
  by_cases hz:n=0
  . exact .inl hz
  . exact .inr ⟨b,o,rfl,Nat.lt_of_lt_of_le hb hs,fun i hi=>⟨(World.cell?_of_block (a:=⟨b,o+i,none⟩) (hh b (hm b o n c rfl (by omega)) hb)).trans (hc i hi).1,(hc i hi).2⟩⟩
theorem qm {v:BV}{Vw Vn Vr:Nat->Value}{AA:List (List Dd)}{b:Bd}{j:BJ}(hj:j∈Mz AA.length b.AG.length b.rws.length){x:Addr}(hx:D0 (RO v Vw Vn Vr AA b j).1 (RO v Vw Vn Vr AA b j).2 x):CV (M3 v Vw Vn Vr AA b) x:=
 ⟨_,by rw[Dl];exact List.mem_map.2 ⟨j,hj,rfl⟩,hx⟩
theorem uV {nw nn nr c:Nat}(h:c<nw):BJ.wd c∈Mz nw nn nr:=by simp[Mz,h]
theorem uT {nw nn nr c:Nat}(h:c<nn):BJ.b (.nt c)∈Mz nw nn nr:=by simp[Mz,h]
theorem uU {nw nn nr c:Nat}(h:c<nr):BJ.b (.rw c)∈Mz nw nn nr:=by simp[Mz,h]
theorem CX.above {w w':World}{m M:Nat}{v:BV}{AA:List (List Dd)}{b:Bd}(h:CX w m M v AA b)(hh:∀q,m<=q->q<w.heap.size->w'.heap[q]? = w.heap[q]?)(hs:w.heap.size<=w'.heap.size):CX w' m M v AA b:=by
 obtain⟨Vw,Vn,Vr,H,L,G⟩:=h.ex;obtain⟨d1,d2,d3⟩:=h.hd;have gr:∀j,j∈Mz AA.length b.AG.length b.rws.length->∀x,D0 (RO v Vw Vn Vr AA b j).1 (RO v Vw Vn Vr AA b j).2 x->m<=x.block:=fun j hj x hx=>(G x (qm hj hx)).1
 refine⟨⟨?_,FT hh hs h.rd.P (gr (.b .AM) (by simp[Mz])),FT hh hs h.rd.L (gr (.b .AQ) (by simp[Mz])),?_,FT hh hs h.rd.X (gr (.b .AK) (by simp[Mz])),FT hh hs h.rd.S (gr (.b .sn) (by simp[Mz])),FT hh hs h.rd.F (gr (.b .fr) (by simp[Mz])),?_⟩,⟨Vw,Vn,Vr,⟨NV hh hs H.hW d1,H.sW,H.sP,H.sL,NV hh hs H.hN d2,H.sN,H.sX,H.sS,H.sF,NV hh hs H.hR d3,H.sR⟩,⟨fun x hx=>?_,L.ap⟩,G⟩,h.hd⟩
 ·
  obtain⟨a,c,e,hw⟩:=h.rd.W;refine⟨a,c,e,?_⟩;rcases hw with hw|⟨q,o,rfl,hq,hc⟩
  . exact .inl hw
  ·
   by_cases hz:AA.length=0
   . exact .inl (List.eq_nil_of_length_eq_zero hz)
   obtain⟨a',c',e',H1⟩:=H.hW;rw[e] at e';simp only[Value.slice.injEq,true_and] at e';obtain⟨rfl,rfl⟩:=e';rcases H1 with H1|⟨q',o',e2,_,H2⟩
   . exact absurd H1 hz
   simp only[Option.some.injEq,Addr.mk.injEq,and_true] at e2;obtain⟨rfl,rfl⟩:=e2;refine .inr ⟨q,o,rfl,Nat.lt_of_lt_of_le hq hs,fun i hi=>?_⟩;obtain⟨vi,h1,h2⟩:=hc i hi;have ev:vi=Vw i:=by have:=h1.symm.trans (H2 i hi).1;exact Option.some.inj this
   subst ev;exact⟨_,(World.cell?_of_block (a:=⟨q,o+i,none⟩) (hh q (d1 q o _ _ e (by omega)) hq)).trans h1,YM hh hs h2 (gr (.wd i) (uV hi))⟩
 ·
  obtain⟨a,c,e,hw⟩:=h.rd.N;refine⟨a,c,e,?_⟩;rcases hw with hw|⟨q,o,rfl,hq,hc⟩
  . exact .inl hw
  ·
   by_cases hz:b.AG.length=0
   . exact .inl (List.eq_nil_of_length_eq_zero hz)
   obtain⟨a',c',e',H1⟩:=H.hN;rw[e] at e';simp only[Value.slice.injEq,true_and] at e';obtain⟨rfl,rfl⟩:=e';rcases H1 with H1|⟨q',o',e2,_,H2⟩
   . exact absurd H1 hz
   simp only[Option.some.injEq,Addr.mk.injEq,and_true] at e2;obtain⟨rfl,rfl⟩:=e2;refine .inr ⟨q,o,rfl,Nat.lt_of_lt_of_le hq hs,fun i hi=>?_⟩;obtain⟨vi,h1,h2⟩:=hc i hi;have ev:vi=Vn i:=by have:=h1.symm.trans (H2 i hi).1;exact Option.some.inj this
   subst ev;exact⟨_,(World.cell?_of_block (a:=⟨q,o+i,none⟩) (hh q (d2 q o _ _ e (by omega)) hq)).trans h1,YN hh hs h2 (gr (.b (.nt i)) (uT hi))⟩
 ·
  obtain⟨a,c,e,hw⟩:=h.rd.R;refine⟨a,c,e,?_⟩;rcases hw with hw|⟨q,o,rfl,hq,hc⟩
  . exact .inl hw
  ·
   by_cases hz:b.rws.length=0
   . exact .inl (List.eq_nil_of_length_eq_zero hz)
   obtain⟨a',c',e',H1⟩:=H.hR;rw[e] at e';simp only[Value.slice.injEq,true_and] at e';obtain⟨rfl,rfl⟩:=e';rcases H1 with H1|⟨q',o',e2,_,H2⟩
   . exact absurd H1 hz
   simp only[Option.some.injEq,Addr.mk.injEq,and_true] at e2;obtain⟨rfl,rfl⟩:=e2;refine .inr ⟨q,o,rfl,Nat.lt_of_lt_of_le hq hs,fun i hi=>?_⟩;obtain⟨vi,h1,h2⟩:=hc i hi;have ev:vi=Vr i:=by have:=h1.symm.trans (H2 i hi).1;exact Option.some.inj this
   subst ev;exact⟨_,(World.cell?_of_block (a:=⟨q,o+i,none⟩) (hh q (d3 q o _ _ e (by omega)) hq)).trans h1,FT hh hs h2 (fun x hx=>gr (.b (.rw i)) (uU hi) x (by show D0 _ (1*_) x;rw[Nat.one_mul];exact hx))⟩
 ·
  obtain⟨cur,t,h1,h2⟩:=L.wb x hx;exact⟨cur,t,(hh _ (G x hx).1 (L.wb x hx).lt).trans h1,h2⟩
end
end Go.Proofs.YtnmelakgmgenjaaGreat
