/- Gathered texts. -/
import Derived.Test.YtgikcfdckddgpaaGreatMU
import Derived.Test.YtgikcfdckddgpaaGreatMM
import Derived.RegionTactic
import Derived.Laws.OwnMore
import Derived.OwnWalk
import Derived.Deep.RegionHeld3
import Derived.Lib.Hide
import Derived.Laws.Tables
import Derived.Deep.Cut
set_option maxRecDepth 100000
set_option maxHeartbeats 8000000
namespace Go.Proofs.YtgikcfdckddgpaaGreat
open Go.ChangeShapes Go.WideShapes Go.ChangeAt Go.RowKit
open Go.RowKit
abbrev zN:Nt:=(0,0,0)
def cN (x:Nt):List Value:=[.int .i64 x.1,.int .i64 x.2.1,.int .i64 x.2.2]
theorem cN_len (x:Nt):(cN x).length=3:=rfl
abbrev RdN (w:World)(v:Value)(ns:List Nt):Prop:=RdT cN 3 w v ns
theorem atN {w:World}{b o:Nat}{x:Nt}(h:AtT cN w b o x):w.cell? ⟨b,o,none⟩=some (.int .i64 x.1)∧w.cell? ⟨b,o+1,none⟩=some (.int .i64 x.2.1)∧w.cell? ⟨b,o+2,none⟩=some (.int .i64 x.2.2):=
 ⟨h 0 _ rfl,h 1 _ rfl,h 2 _ rfl⟩
theorem nts_get {ns:List Nt}{i:Nat}(h:i<ns.length):ns[i]? = some (ns.getD i zN):=by
 rw[List.getD_eq_getElem?_getD,List.getElem?_eq_getElem h];rfl
def RdNN (w:World)(v:Value)(nss:List (List Nt)):Prop:=
 ∃(a:Option Addr) (cap:Nat),v = .slice a nss.length cap ∧
  (nss=[]∨∃b off,a=some ⟨b,off,none⟩∧b<w.heap.size∧∀i,i<nss.length→∃vi,w.cell? ⟨b,off+i,none⟩=some vi∧RdN w vi (nss.getD i []))
theorem RdNN.keep {w w':World}{v:Value}{nss:List (List Nt)}(h:RdNN w v nss)(k:Keep w w'):RdNN w' v nss:=by
 obtain⟨a,cap,hv,h⟩:=h;refine⟨a,cap,hv,?_⟩;rcases h with h|⟨b,off,ha,hb,hc⟩
 · exact .inl h
 ·
  refine .inr ⟨b,off,ha,Nat.lt_of_lt_of_le hb k.size,fun i hi=>?_⟩;obtain⟨vi,h1,h2⟩:=hc i hi;exact⟨vi,(k.cell hb).trans h1,h2.keep k⟩
structure BV where
 W:Value
 P:Value
 L:Value
 N:Value
 X:Value
 S:Value
 F:Value
 R:Value
abbrev BV.arr (v:BV):Array Value:=#[v.W,v.P,v.L,v.N,v.X,v.S,v.F,v.R]
abbrev BV.agg (v:BV):Value:= .agg #[v.W,v.P,v.L,v.N,v.X,v.S,v.F,v.R]
structure RdBd (w:World)(v:BV)(dss:List (List Dd))(b:Bd):Prop where
 W:RdW w v.W dss
 P:Rd w v.P b.plc
 L:Rd w v.L b.lst
 N:RdNN w v.N b.nts
 X:Rd w v.X b.nxt
 S:Rd w v.S b.sn
 F:Rd w v.F b.fr
 R:RdL w v.R b.rws
theorem RdBd.keep {w w':World}{v:BV}{dss:List (List Dd)}{b:Bd}(h:RdBd w v dss b)(k:Keep w w'):RdBd w' v dss b:=
 ⟨h.W.keep k,h.P.keep k,h.L.keep k,h.N.keep k,h.X.keep k,h.S.keep k,h.F.keep k,h.R.keep k⟩
structure SzBd (dss:List (List Dd))(b:Bd):Prop where
 w1:dss.length≤1048576
 w2:∀i,i<dss.length→(dss.getD i []).length≤1048576
 plc:b.plc.length≤1048576
 lst:b.lst.length≤1048576
 n1:b.nts.length≤1048576
 n2:∀i,i<b.nts.length→(b.nts.getD i []).length≤1048576
 nxt:b.nxt.length≤1048576
 sn:b.sn.length≤1048576
 fr:b.fr.length≤1048576
 r1:b.rws.length≤1048576
 r2:∀i,i<b.rws.length→(b.rws.getD i []).length≤1048576
theorem cnt_pos (c:List (List Int)):∀k:Nat,(∀i,i<k→0<(c.getD i []).length)→0<cntK c k
 | 0,_=>by simp[cntK]
 |k+1,h=>by
  rw[cntK];have h1:=cnt_pos c k (fun i hi=>h i (by omega));have h2:=h k (by omega);exact Int.mul_pos h1 (by omega)
theorem tc_pos {dss:List (List Dd)}(hb:workB dss=true):0<tcB dss:=by
 have hr:=(rcnt_six hb).1;have e1:eventsB dss=evsW dss dss.length:=by rw[eventsB,if_pos hb]
 obtain⟨h12,_,_,hp,_⟩:=events_law hb;rw[←e1] at h12 hp;have hl:(chcL (eventsB dss)).length=(idxB rdE (eventsB dss)).length:=chcK_len _ _ _
 have hc:0<cntB dss:=by
  rw[cntB,if_pos hb];refine cnt_pos _ _ (fun i hi=>?_);rw[hl] at hi;unfold chcL;rw[chcK_get _ _ _ _ hi];have hin:=rd_in h12 hi;obtain⟨p0,p2⟩:=place_ev hb (j:=((idxB rdE (eventsB dss)).getD i 0).toNat) (by omega);obtain⟨p,hpe⟩:=Int.eq_ofNat_of_zero_le p0;obtain⟨r,hr⟩:=hp p (by omega);unfold plE;rw[hpe];unfold idxB;rw[if_pos h12,hr];simp
 rw[tcB,if_pos hb];exact Int.mul_pos hc hr
theorem isB_get {l:List Int}{m:Nat}(h:m<l.length):isB l (l.getD m 0)=true:=by
 unfold isB;rw[List.any_eq_true];refine⟨l.getD m 0,?_,by simp⟩;rw[List.getD_eq_getElem?_getD,List.getElem?_eq_getElem h];exact List.getElem_mem h
theorem sz_board {dss:List (List Dd)}{b:Bd}(hb:boardB dss b=true):SzBd dss b:=by
 obtain⟨h1,h2,h3,h4,h5,h6,h7,h8,h9,h10⟩:=board_all hb;obtain⟨w1,w2⟩:=work_small h1;exact⟨by omega,w2,by omega,by omega,by omega,fun i hi=>by have:=h10 i (by omega);omega,by omega,by omega,by omega,by omega,fun i hi=>by have:=h9 i (by omega);omega⟩
structure AtR (dss:List (List Dd))(stps:List Int)(b:Bd)(k:Nat):Prop where
 run:Run dss b
 eq:runM dss (eventsB dss) (newM dss) stps=b
 len:stps.length=k
 mes:mesM dss b+k≤24
 ln:LN dss b
 nx:∀c,0≤b.nxt.getD c 0
theorem AtR.new {dss:List (List Dd)}(hb:workB dss=true):AtR dss [] (newM dss) 0:=
 ⟨Run.new hb,rfl,rfl,(mes_new hb).1,(mes_new hb).2.1,(mes_new hb).2.2⟩
theorem AtR.step {dss:List (List Dd)}(hb:workB dss=true){stps:List Int}{b:Bd}{k:Nat}(h:AtR dss stps b k){s:Int}(hs:isB (possM dss b) s=true):AtR dss (stps++[s]) (stepM dss (eventsB dss) b s) (k+1):=by
 have hm:=mes_step hb (es:=eventsB dss) h.ln h.nx hs;refine⟨h.run.step hb hs,?_,by simp[h.len],by have:=h.mes;have:=hm.1;omega,hm.2.1,hm.2.2⟩;rw[run_app,h.eq];show runM dss (eventsB dss) (if isB (possM dss b) s=true then stepM dss (eventsB dss) b s else b) []=_;rw[if_pos hs];rfl
section
inductive BI where
 |bd|plc|lst|nts|nxt|sn|fr|rws
 |nt (c:Nat)
 |rw (p:Nat)
deriving DecidableEq
abbrev nilS:Value:= .slice none 0 0
abbrev ivR (zs:List Int)(v:Value):Rw:=⟨2,1,v,zs.length,zs.map (Value.int .i64)⟩
abbrev nvR (ns:List Nt)(v:Value):Rw:=⟨183,3,v,ns.length,ns.flatMap cN⟩
abbrev hdR (t:TypeId)(vs:List Value)(v:Value):Rw:=⟨t,1,v,vs.length,vs⟩
abbrev bdR (D:Nat)(v:BV):Rw:=⟨94,8,.slice (some ⟨D,0,none⟩) 1 1,1,[v.W,v.P,v.L,v.N,v.X,v.S,v.F,v.R]⟩
def famR (D:Nat)(v:BV)(nv rv:List Value)(b:Bd):BI→Rw
 | .bd=>bdR D v
 | .plc=>ivR b.plc v.P
 | .lst=>ivR b.lst v.L
 | .nts=>hdR 180 nv v.N
 | .nxt=>ivR b.nxt v.X
 | .sn=>ivR b.sn v.S
 | .fr=>ivR b.fr v.F
 | .rws=>hdR 25 rv v.R
 | .nt c=>nvR (b.nts.getD c []) (nv.getD c nilS)
 | .rw p=>ivR (b.rws.getD p []) (rv.getD p nilS)
def liveB (nv rv:List Value):BI→Prop
 | .nt c=>c<nv.length
 | .rw p=>p<rv.length
 |_=>True
theorem Fam.new {ι:Type}[DecidableEq ι]{w w':World}{m:Nat}{live:ι→Prop}{R:ι→Rw}(h:Fam w m live R){i:ι}{r:Rw}(k:Keep w w')(hn:∀b,r.v.ownBlock=some b→w.heap.size≤b)(ho:r.own w' m):Fam w' m live (upd R i r):=by
 have hk:=h.keep k
 have new:∀j,live j→(R j).v.ownBlock=none∨(R j).v.ownBlock≠r.v.ownBlock:=fun j hj=>by
  cases e:(R j).v.ownBlock with
  |none=>exact .inl rfl
  |some b=>exact .inr (fun e'=>by have:=(h.lt hj b e).2;have:=hn b e'.symm;omega)
 refine⟨fun j hj=>?_,fun j l hj hl hjl=>?_⟩
 ·
  by_cases e:j=i
  · subst e;rw[upd_same];exact ho
  · rw[upd_other R r e];exact hk.own j hj
 ·
  by_cases ej:j=i
  ·
   subst ej;have el:l≠j:=fun e=>hjl e.symm
   rw[upd_same,upd_other R r el];rcases new l hl with h1|h1
   ·
    rw[h1]
    cases r.v.ownBlock with
    |none=>exact .inl rfl
    |some b=>exact .inr (by simp)
   · exact .inr (fun e=>h1 e.symm)
  ·
   rw[upd_other R r ej];by_cases el:l=i
   · subst el;rw[upd_same];exact new j hj
   · rw[upd_other R r el];exact h.apart j l hj hl hjl
structure OwnBd (w:World)(m D:Nat)(v:BV)(nv rv:List Value)(bs N:Nat)(dss:List (List Dd))(b:Bd):Prop where
 fam:Fam w m (liveB nv rv) (famR D v nv rv b)
 ln:nv.length=b.nts.length
 lr:rv.length=b.rws.length
 work:RdXN w bs N v.W dss
 top:N≤w.heap.size
 out:∀i,liveB nv rv i→∀k,(famR D v nv rv b i).v.ownBlock=some k→k<bs∨N≤k
def vB (D:Nat)(v:BV)(nv rv:List Value):BI→Value
 | .bd => .slice (some ⟨D,0,none⟩) 1 1
 | .plc=>v.P
 | .lst=>v.L
 | .nts=>v.N
 | .nxt=>v.X
 | .sn=>v.S
 | .fr=>v.F
 | .rws=>v.R
 | .nt c=>nv.getD c nilS
 | .rw p=>rv.getD p nilS
theorem famR_v (D:Nat)(v:BV)(nv rv:List Value)(b:Bd)(i:BI):(famR D v nv rv b i).v=vB D v nv rv i:=by cases i<;>rfl
def blkB (D:Nat)(v:BV)(nv rv:List Value)(g:Nat):Prop:=∃i,liveB nv rv i∧(vB D v nv rv i).ownBlock=some g
structure TurnB (w w':World)(F F':Nat→Prop):Prop where
 os:w'.os=w.os
 tape:w'.tape=w.tape
 output:w'.output=w.output
 size:w.heap.size≤w'.heap.size
 block:∀g,g<w.heap.size→¬F g→w'.heap[g]? = w.heap[g]?
 news:∀g,F' g→F g∨w.heap.size≤g
theorem TurnB.refl (w:World)(F:Nat→Prop):TurnB w w F F:=⟨rfl,rfl,rfl,Nat.le_refl _,fun _ _ _=>rfl,fun _ h => .inl h⟩
theorem TurnB.trans {a b c:World}{F G H:Nat→Prop}(h:TurnB a b F G)(k:TurnB b c G H):TurnB a c F H:=
 ⟨k.os.trans h.os,k.tape.trans h.tape,k.output.trans h.output,Nat.le_trans h.size k.size,fun g hg hF=>(k.block g (Nat.lt_of_lt_of_le hg h.size) (fun hG=>by
  rcases h.news g hG with h1|h1
  · exact hF h1
  · omega)).trans (h.block g hg hF),fun g hg=>by
  rcases k.news g hg with h1|h1
  · exact h.news g h1
  · exact .inr (Nat.le_trans h.size h1)⟩
theorem TurnB.keep {a w w':World}{F G:Nat→Prop}(h:TurnB a w F G)(k:Keep w w'):TurnB a w' F G:=
 h.trans ⟨Below.os k,Below.tape k,Below.output k,k.size,fun g hg _=>Below.block k g hg,fun _ h => .inl h⟩
theorem TurnB.grown {a w w':World}{F G:Nat→Prop}{row:Option Nat}(h:TurnB a w F G)(hg:w.grownBy w' row)(hr:∀k,row=some k→G k):TurnB a w' F G:=
 h.trans ⟨hg.os,hg.tape,hg.output,hg.size,fun g h1 h2=>hg.block g h1 (fun e=>h2 (hr g e.symm)),fun _ h => .inl h⟩
theorem TurnB.low {a w:World}{F G:Nat→Prop}{m:Nat}(h:TurnB a w F G)(hs:m≤a.heap.size)(hF:∀g,F g→m≤g):Below m a w:=
 ⟨h.os,h.tape,h.output,h.size,fun g hg=>h.block g (Nat.lt_of_lt_of_le hg hs) (fun e=>by have:=hF g e;omega)⟩
theorem TurnB.cell {a w:World}{F G:Nat→Prop}(h:TurnB a w F G){g j:Nat}(hg:g<a.heap.size)(hF:¬F g):w.cell? ⟨g,j,none⟩=a.cell? ⟨g,j,none⟩:=World.cell?_of_block (w:=a) (h.block g hg hF)
theorem TurnB.more {a w:World}{F G G':Nat→Prop}(h:TurnB a w F G)(hn:∀g,G' g→F g∨a.heap.size≤g):TurnB a w F G':=⟨h.os,h.tape,h.output,h.size,h.block,hn⟩
section
variable {w w':World} {m D:Nat} {v:BV} {nv rv:List Value} {bs N:Nat} {dss:List (List Dd)} {b:Bd}
theorem OwnBd.keep (h:OwnBd w m D v nv rv bs N dss b)(k:Keep w w'):OwnBd w' m D v nv rv bs N dss b:=
 ⟨h.fam.keep k,h.ln,h.lr,h.work.kept k.grownBy (by simp),Nat.le_trans h.top k.size,h.out⟩
theorem OwnBd.far (h:OwnBd w m D v nv rv bs N dss b){row:Option Nat}(hg:w.grownBy w' row)(hr:∀k,row=some k→k<m∧(k<bs∨N≤k)):OwnBd w' m D v nv rv bs N dss b:=
 ⟨h.fam.far hg (fun i hi=>by
  cases e:(famR D v nv rv b i).v.ownBlock with
  |none=>exact .inl rfl
  |some k=>exact .inr (fun e'=>by have:=(h.fam.lt hi k e).1;have:=hr k e'.symm;omega)),h.ln,h.lr,h.work.kept hg (fun g hg'=>(hr g hg').2),Nat.le_trans h.top hg.size,h.out⟩
theorem OwnBd.drewN (h:OwnBd w m D v nv rv bs N dss b)(n:Nat):OwnBd (w.drewN n) m D v nv rv bs N dss b:=h.keep ((Keep.refl w).drewN n)
theorem OwnBd.drew (h:OwnBd w m D v nv rv bs N dss b):OwnBd w.drew m D v nv rv bs N dss b:=h.keep (Keep.refl w).drew
theorem OwnBd.set (h:OwnBd w m D v nv rv bs N dss b)(i:BI)(hi:liveB nv rv i){r:Rw}(hg:w.grownBy w' (famR D v nv rv b i).v.ownBlock)
  (hb:r.v.ownBlock=(famR D v nv rv b i).v.ownBlock∨r.v.ownBlock=some w.heap.size∨r.v.ownBlock=none) (ho:r.own w' m)
  {v':BV} {nv' rv':List Value} {b':Bd} (hl:nv'.length=nv.length) (hl2:rv'.length=rv.length) (hn:b'.nts.length=b.nts.length) (hr:b'.rws.length=b.rws.length) (hW:v'.W=v.W)
  (hf:∀j,famR D v' nv' rv' b' j=upd (famR D v nv rv b) i r j):OwnBd w' m D v' nv' rv' bs N dss b':=by
 have hlive:∀j,liveB nv' rv' j→liveB nv rv j:=fun j=>by cases j<;>simp[liveB,hl,hl2]
 refine⟨(h.fam.set hi hg hb ho).congr hlive (fun j _=>hf j),by rw[hl,hn];exact h.ln,by rw[hl2,hr];exact h.lr,?_,Nat.le_trans h.top hg.size,fun j hj k hk=>?_⟩
 ·
  rw[hW];exact h.work.kept hg (fun g hg'=>h.out i hi g hg')
 ·
  rw[hf j] at hk;by_cases e:j=i
  ·
   subst e;rw[upd_same] at hk;rcases hb with hb|hb|hb
   · rw[hb] at hk;exact h.out j hi k hk
   ·
    rw[hb] at hk;have:=Option.some.inj hk;have:=h.top;right;omega
   · rw[hb] at hk;cases hk
  ·
   rw[upd_other _ _ e] at hk;exact h.out j (hlive j hj) k hk
theorem OwnBd.blk (h:OwnBd w m D v nv rv bs N dss b):∀g,blkB D v nv rv g→m≤g∧g<w.heap.size∧(g<bs∨N≤g):=fun g ⟨i,hi,e⟩=>by
 rw[←famR_v D v nv rv b i] at e;exact⟨(h.fam.lt hi g e).1,(h.fam.lt hi g e).2,h.out i hi g e⟩
theorem OwnBd.base (h:OwnBd w m D v nv rv bs N dss b):m≤D∧D<w.heap.size:=h.fam.lt (i:= .bd) trivial D rfl
theorem OwnBd.ge (h:OwnBd w m D v nv rv bs N dss b)(i:BI)(hi:liveB nv rv i):∀k,(famR D v nv rv b i).v.ownBlock=some k→m≤k:=fun k hk=>(h.fam.lt hi k hk).1
theorem OwnBd.cells (h:OwnBd w m D v nv rv bs N dss b):w.cell? ⟨D,0,none⟩=some v.W∧w.cell? ⟨D,1,none⟩=some v.P∧w.cell? ⟨D,2,none⟩=some v.L∧w.cell? ⟨D,3,none⟩=some v.N ∧
  w.cell? ⟨D,4,none⟩=some v.X∧w.cell? ⟨D,5,none⟩=some v.S∧w.cell? ⟨D,6,none⟩=some v.F∧w.cell? ⟨D,7,none⟩=some v.R:=by
 have o:=h.fam.own .bd trivial;have c:=fun j hj=>World.ownsRow.cellAt (show w.ownsRow m 94 8 (.slice (some ⟨D,0,none⟩) 1 1) 1 [v.W,v.P,v.L,v.N,v.X,v.S,v.F,v.R] from o) j hj
 exact⟨c 0 (by decide),c 1 (by decide),c 2 (by decide),c 3 (by decide),c 4 (by decide),c 5 (by decide),c 6 (by decide),c 7 (by decide)⟩
theorem OwnBd.free (h:OwnBd w m D v nv rv bs N dss b)(j:Nat):w.frozen? ⟨D,j,none⟩=false:=
 World.ownsRow.frozenAt (show w.ownsRow m 94 8 (.slice (some ⟨D,0,none⟩) 1 1) 1 [v.W,v.P,v.L,v.N,v.X,v.S,v.F,v.R] from h.fam.own .bd trivial) j
theorem OwnBd.oP (h:OwnBd w m D v nv rv bs N dss b):Own w m v.P b.plc:=h.fam.own .plc trivial
theorem OwnBd.oL (h:OwnBd w m D v nv rv bs N dss b):Own w m v.L b.lst:=h.fam.own .lst trivial
theorem OwnBd.oX (h:OwnBd w m D v nv rv bs N dss b):Own w m v.X b.nxt:=h.fam.own .nxt trivial
theorem OwnBd.oS (h:OwnBd w m D v nv rv bs N dss b):Own w m v.S b.sn:=h.fam.own .sn trivial
theorem OwnBd.oF (h:OwnBd w m D v nv rv bs N dss b):Own w m v.F b.fr:=h.fam.own .fr trivial
theorem OwnBd.oN (h:OwnBd w m D v nv rv bs N dss b){c:Nat}(hc:c<b.nts.length):AppT cN 183 3 w m (nv.getD c nilS) (b.nts.getD c []):=h.fam.own (.nt c) (by show c<nv.length;rw[h.ln];exact hc)
theorem OwnBd.oR (h:OwnBd w m D v nv rv bs N dss b){p:Nat}(hp:p<b.rws.length):Own w m (rv.getD p nilS) (b.rws.getD p []):=h.fam.own (.rw p) (by show p<rv.length;rw[h.lr];exact hp)
theorem own_head {t:TypeId}{u:Value}{vs:List Value}(o:(hdR t vs u).own w m):∃a cap,u = .slice a vs.length cap∧(vs=[]∨∃g,a=some ⟨g,0,none⟩∧g<w.heap.size∧∀i,i<vs.length→w.cell? ⟨g,i,none⟩=some (vs.getD i nilS)):=by
 have hlt:=World.ownsRow.lt o;have o':=o;rcases o.2 with ⟨h1,h2⟩|⟨g,cap,cur,h1,_⟩
 ·
  have:vs=[]:=List.eq_nil_of_length_eq_zero h2;subst this;exact⟨none,0,h1,.inl rfl⟩
 ·
  refine⟨some ⟨g,0,none⟩,cap,h1,.inr ⟨g,rfl,(hlt g (by show u.ownBlock=_;rw[show u=_ from h1];rfl)).2,fun i hi=>?_⟩⟩;have o2:w.ownsRow m t 1 (.slice (some ⟨g,0,none⟩) vs.length cap) vs.length vs:=by rw[←show u=_ from h1];exact o'
  rw[World.ownsRow.cellAt o2 i (by omega),List.getD_eq_getElem?_getD,List.getElem?_eq_getElem hi];rfl
theorem OwnBd.hN (h:OwnBd w m D v nv rv bs N dss b):∃a cap,v.N = .slice a b.nts.length cap∧(b.nts=[]∨∃g,a=some ⟨g,0,none⟩∧g<w.heap.size∧∀i,i<b.nts.length→w.cell? ⟨g,i,none⟩=some (nv.getD i nilS)):=by
 obtain⟨a,cap,e,h1⟩:=own_head (h.fam.own .nts trivial);rw[h.ln] at e;refine⟨a,cap,e,?_⟩;rcases h1 with h1|⟨g,e1,e2,e3⟩
 ·
  left;have:=h.ln;rw[h1] at this;exact List.eq_nil_of_length_eq_zero this.symm
 · exact .inr ⟨g,e1,e2,fun i hi=>e3 i (by rw[h.ln];exact hi)⟩
theorem OwnBd.hR (h:OwnBd w m D v nv rv bs N dss b):∃a cap,v.R = .slice a b.rws.length cap∧(b.rws=[]∨∃g,a=some ⟨g,0,none⟩∧g<w.heap.size∧∀i,i<b.rws.length→w.cell? ⟨g,i,none⟩=some (rv.getD i nilS)):=by
 obtain⟨a,cap,e,h1⟩:=own_head (h.fam.own .rws trivial);rw[h.lr] at e;refine⟨a,cap,e,?_⟩;rcases h1 with h1|⟨g,e1,e2,e3⟩
 ·
  left;have:=h.lr;rw[h1] at this;exact List.eq_nil_of_length_eq_zero this.symm
 · exact .inr ⟨g,e1,e2,fun i hi=>e3 i (by rw[h.lr];exact hi)⟩
theorem OwnBd.rd (h:OwnBd w m D v nv rv bs N dss b):RdBd w v dss b:=by
 refine⟨h.work.rd,h.oP.rd,h.oL.rd,?_,h.oX.rd,h.oS.rd,h.oF.rd,?_⟩
 ·
  obtain⟨a,cap,e,h1⟩:=h.hN;refine⟨a,cap,e,?_⟩;rcases h1 with h1|⟨g,e1,e2,e3⟩
  · exact .inl h1
  · exact .inr ⟨g,0,e1,e2,fun i hi=>⟨_,by rw[Nat.zero_add];exact e3 i hi,AppT.rd cN_len (h.oN hi)⟩⟩
 ·
  obtain⟨a,cap,e,h1⟩:=h.hR;refine⟨a,cap,e,?_⟩;rcases h1 with h1|⟨g,e1,e2,e3⟩
  · exact .inl h1
  · exact .inr ⟨g,0,e1,e2,fun i hi=>⟨_,by rw[Nat.zero_add];exact e3 i hi,(h.oR hi).rd⟩⟩
theorem iv_put {zs:List Int}{u:Value}{g cap k:Nat}{x:Int}(o:(ivR zs u).own w m)(hv:u = .slice (some ⟨g,0,none⟩) zs.length cap):(ivR (zs.set k x) u).own (w.setCell ⟨g,k,none⟩ (.int .i64 x)) m∧w.grownBy (w.setCell ⟨g,k,none⟩ (.int .i64 x)) u.ownBlock∧w.frozen? ⟨g,k,none⟩=false:=by
 obtain⟨h1,h2,h3⟩:=Rw.put o (g:=g) (cap:=cap) (k:=k) hv (.int .i64 x);refine⟨?_,h2,h3⟩
 have e:(ivR (zs.set k x) u)={ ivR zs u with xs:=(ivR zs u).xs.set k (.int .i64 x) }:=by
  simp[ivR,List.map_set]
 rw[e];exact h1
theorem OwnBd.putP (h:OwnBd w m D v nv rv bs N dss b){g cap k:Nat}{x:Int}(hv:v.P = .slice (some ⟨g,0,none⟩) b.plc.length cap):OwnBd (w.setCell ⟨g,k,none⟩ (.int .i64 x)) m D v nv rv bs N dss { b with plc:=b.plc.set k x }:=by
 obtain⟨h1,h2,_⟩:=iv_put (k:=k) (x:=x) (h.fam.own .plc trivial) hv;exact h.set .plc trivial (r:=ivR (b.plc.set k x) v.P) h2 (.inl rfl) h1 rfl rfl rfl rfl rfl (fun j=>by cases j<;>rfl)
theorem OwnBd.putL (h:OwnBd w m D v nv rv bs N dss b){g cap k:Nat}{x:Int}(hv:v.L = .slice (some ⟨g,0,none⟩) b.lst.length cap):OwnBd (w.setCell ⟨g,k,none⟩ (.int .i64 x)) m D v nv rv bs N dss { b with lst:=b.lst.set k x }:=by
 obtain⟨h1,h2,_⟩:=iv_put (k:=k) (x:=x) (h.fam.own .lst trivial) hv;exact h.set .lst trivial (r:=ivR (b.lst.set k x) v.L) h2 (.inl rfl) h1 rfl rfl rfl rfl rfl (fun j=>by cases j<;>rfl)
theorem OwnBd.putX (h:OwnBd w m D v nv rv bs N dss b){g cap k:Nat}{x:Int}(hv:v.X = .slice (some ⟨g,0,none⟩) b.nxt.length cap):OwnBd (w.setCell ⟨g,k,none⟩ (.int .i64 x)) m D v nv rv bs N dss { b with nxt:=b.nxt.set k x }:=by
 obtain⟨h1,h2,_⟩:=iv_put (k:=k) (x:=x) (h.fam.own .nxt trivial) hv;exact h.set .nxt trivial (r:=ivR (b.nxt.set k x) v.X) h2 (.inl rfl) h1 rfl rfl rfl rfl rfl (fun j=>by cases j<;>rfl)
theorem OwnBd.putS (h:OwnBd w m D v nv rv bs N dss b){g cap k:Nat}{x:Int}(hv:v.S = .slice (some ⟨g,0,none⟩) b.sn.length cap):OwnBd (w.setCell ⟨g,k,none⟩ (.int .i64 x)) m D v nv rv bs N dss { b with sn:=b.sn.set k x }:=by
 obtain⟨h1,h2,_⟩:=iv_put (k:=k) (x:=x) (h.fam.own .sn trivial) hv;exact h.set .sn trivial (r:=ivR (b.sn.set k x) v.S) h2 (.inl rfl) h1 rfl rfl rfl rfl rfl (fun j=>by cases j<;>rfl)
theorem OwnBd.putF (h:OwnBd w m D v nv rv bs N dss b){g cap k:Nat}{x:Int}(hv:v.F = .slice (some ⟨g,0,none⟩) b.fr.length cap):OwnBd (w.setCell ⟨g,k,none⟩ (.int .i64 x)) m D v nv rv bs N dss { b with fr:=b.fr.set k x }:=by
 obtain⟨h1,h2,_⟩:=iv_put (k:=k) (x:=x) (h.fam.own .fr trivial) hv;exact h.set .fr trivial (r:=ivR (b.fr.set k x) v.F) h2 (.inl rfl) h1 rfl rfl rfl rfl rfl (fun j=>by cases j<;>rfl)
theorem getD_setV {α:Type}(l:List α)(k:Nat)(x z:α)(hk:k<l.length)(j:Nat):(l.set k x).getD j z=if j=k then x else l.getD j z:=by
 rw[List.getD_eq_getElem?_getD,List.getD_eq_getElem?_getD,List.getElem?_set];by_cases e:k=j
 · subst e;simp[hk]
 · rw[if_neg e,if_neg (fun h=>e h.symm)]
theorem OwnBd.stay (h:OwnBd w m D v nv rv bs N dss b)(i:BI)(hi:liveB nv rv i)(hb:i≠.bd)(hg:w.grownBy w' (famR D v nv rv b i).v.ownBlock)(j:Nat):w'.cell? ⟨D,j,none⟩=w.cell? ⟨D,j,none⟩:=by
 have hne:some D≠(famR D v nv rv b i).v.ownBlock:=by
  rcases h.fam.apart .bd i trivial hi (fun e=>hb e.symm) with e|e
  · cases e
  · exact e
 exact World.cell?_of_block (w:=w) (hg.block D h.base.2 hne)
theorem OwnBd.headR (h:OwnBd w m D v nv rv bs N dss b){p:Nat}(hp:p<b.rws.length){u:Value}{zs:List Int}(hg:w.grownBy w' (rv.getD p nilS).ownBlock)
  (hb:u.ownBlock=(rv.getD p nilS).ownBlock∨u.ownBlock=some w.heap.size∨u.ownBlock=none) (ho:Own w' m u zs) {g cap:Nat} (hv:v.R = .slice (some ⟨g,0,none⟩) b.rws.length cap):
  OwnBd (w'.setCell ⟨g,p,none⟩ u) m D v nv (rv.set p u) bs N dss { b with rws:=b.rws.set p zs }∧w'.cell? ⟨g,p,none⟩=some (rv.getD p nilS)∧w'.frozen? ⟨g,p,none⟩=false:=by
 have hp':p<rv.length:=by rw[h.lr];exact hp
 have hv':v.R = .slice (some ⟨g,0,none⟩) rv.length cap:=by rw[h.lr];exact hv
 have F1:=h.fam.set (i:= .rw p) hp' (r:=ivR zs u) hg hb ho;have o1:(hdR 25 rv v.R).own w' m:=by have:=F1.own .rws trivial;rw[upd_other _ _ (by simp)] at this;exact this
 obtain⟨q1,q2,q3⟩:=Rw.put o1 (g:=g) (cap:=cap) (k:=p) hv' u;have F2:=F1.set (i:= .rws) trivial (r:={ hdR 25 rv v.R with xs:=rv.set p u }) (by rw[upd_other _ _ (by simp)];exact q2) (.inl (by rw[upd_other _ _ (by simp)];rfl)) q1
 have hf:∀j,famR D v nv (rv.set p u) { b with rws:=b.rws.set p zs } j=upd (upd (famR D v nv rv b) (.rw p) (ivR zs u)) .rws { hdR 25 rv v.R with xs:=rv.set p u } j:=fun j=>by
  cases j with
  |rws=>
   rw[upd_same];simp[famR,hdR]
  |rw q=>
   rw[upd_other _ _ (by simp)];show ivR ((b.rws.set p zs).getD q []) ((rv.set p u).getD q nilS)=_;rw[getD_setV _ _ _ _ hp,getD_setV _ _ _ _ hp'];by_cases e:q=p
   · subst e;rw[upd_same];simp
   · rw[upd_other _ _ (by simpa using e),if_neg e,if_neg e];rfl
  |_=>rw[upd_other _ _ (by simp),upd_other _ _ (by simp)];rfl
 refine⟨⟨F2.congr (fun j=>by cases j<;>simp[liveB]) (fun j _=>hf j),h.ln,by simpa using h.lr,?_,?_,fun j hj k hk=>?_⟩,?_,q3⟩
 · exact (h.work.kept hg (fun g' hg'=>h.out (.rw p) hp' g' hg')).kept q2 (fun g' hg'=>h.out .rws trivial g' hg')
 · exact Nat.le_trans h.top (Nat.le_trans hg.size q2.size)
 ·
  rw[hf j] at hk;by_cases e:j = .rws
  ·
   subst e;rw[upd_same] at hk;exact h.out .rws trivial k hk
  ·
   rw[upd_other _ _ e] at hk;by_cases e2:j = .rw p
   ·
    subst e2;rw[upd_same] at hk;rcases hb with hb|hb|hb
    · rw[show (ivR zs u).v.ownBlock=u.ownBlock from rfl,hb] at hk;exact h.out (.rw p) hp' k hk
    ·
     rw[show (ivR zs u).v.ownBlock=u.ownBlock from rfl,hb] at hk;have:=Option.some.inj hk;have:=h.top;right;omega
    · rw[show (ivR zs u).v.ownBlock=u.ownBlock from rfl,hb] at hk;cases hk
   ·
    rw[upd_other _ _ e2] at hk;exact h.out j (by cases j<;>simp[liveB] at hj ⊢<;>exact hj) k hk
 ·
  have:=Rw.cell o1 (g:=g) (cap:=cap) (k:=p) hv' (by show p<rv.length*1;omega);rw[this,List.getD_eq_getElem?_getD];show rv[p]? = _;rw[List.getElem?_eq_getElem hp'];rfl
theorem OwnBd.headN (h:OwnBd w m D v nv rv bs N dss b){c:Nat}(hc:c<b.nts.length){u:Value}{ns:List Nt}(hg:w.grownBy w' (nv.getD c nilS).ownBlock)
  (hb:u.ownBlock=(nv.getD c nilS).ownBlock∨u.ownBlock=some w.heap.size∨u.ownBlock=none) (ho:AppT cN 183 3 w' m u ns) {g cap:Nat} (hv:v.N = .slice (some ⟨g,0,none⟩) b.nts.length cap):
  OwnBd (w'.setCell ⟨g,c,none⟩ u) m D v (nv.set c u) rv bs N dss { b with nts:=b.nts.set c ns }∧w'.cell? ⟨g,c,none⟩=some (nv.getD c nilS)∧w'.frozen? ⟨g,c,none⟩=false:=by
 have hc':c<nv.length:=by rw[h.ln];exact hc
 have hv':v.N = .slice (some ⟨g,0,none⟩) nv.length cap:=by rw[h.ln];exact hv
 have F1:=h.fam.set (i:= .nt c) hc' (r:=nvR ns u) hg hb ho;have o1:(hdR 180 nv v.N).own w' m:=by have:=F1.own .nts trivial;rw[upd_other _ _ (by simp)] at this;exact this
 obtain⟨q1,q2,q3⟩:=Rw.put o1 (g:=g) (cap:=cap) (k:=c) hv' u;have F2:=F1.set (i:= .nts) trivial (r:={ hdR 180 nv v.N with xs:=nv.set c u }) (by rw[upd_other _ _ (by simp)];exact q2) (.inl (by rw[upd_other _ _ (by simp)];rfl)) q1
 have hf:∀j,famR D v (nv.set c u) rv { b with nts:=b.nts.set c ns } j=upd (upd (famR D v nv rv b) (.nt c) (nvR ns u)) .nts { hdR 180 nv v.N with xs:=nv.set c u } j:=fun j=>by
  cases j with
  |nts=>
   rw[upd_same];simp[famR,hdR]
  |nt q=>
   rw[upd_other _ _ (by simp)];show nvR ((b.nts.set c ns).getD q []) ((nv.set c u).getD q nilS)=_;rw[getD_setV _ _ _ _ hc,getD_setV _ _ _ _ hc'];by_cases e:q=c
   · subst e;rw[upd_same];simp
   · rw[upd_other _ _ (by simpa using e),if_neg e,if_neg e];rfl
  |_=>rw[upd_other _ _ (by simp),upd_other _ _ (by simp)];rfl
 refine⟨⟨F2.congr (fun j=>by cases j<;>simp[liveB]) (fun j _=>hf j),by simpa using h.ln,h.lr,?_,?_,fun j hj k hk=>?_⟩,?_,q3⟩
 · exact (h.work.kept hg (fun g' hg'=>h.out (.nt c) hc' g' hg')).kept q2 (fun g' hg'=>h.out .nts trivial g' hg')
 · exact Nat.le_trans h.top (Nat.le_trans hg.size q2.size)
 ·
  rw[hf j] at hk;by_cases e:j = .nts
  ·
   subst e;rw[upd_same] at hk;exact h.out .nts trivial k hk
  ·
   rw[upd_other _ _ e] at hk;by_cases e2:j = .nt c
   ·
    subst e2;rw[upd_same] at hk;rcases hb with hb|hb|hb
    · rw[show (nvR ns u).v.ownBlock=u.ownBlock from rfl,hb] at hk;exact h.out (.nt c) hc' k hk
    ·
     rw[show (nvR ns u).v.ownBlock=u.ownBlock from rfl,hb] at hk;have:=Option.some.inj hk;have:=h.top;right;omega
    · rw[show (nvR ns u).v.ownBlock=u.ownBlock from rfl,hb] at hk;cases hk
   ·
    rw[upd_other _ _ e2] at hk;exact h.out j (by cases j<;>simp[liveB] at hj ⊢<;>exact hj) k hk
 ·
  have:=Rw.cell o1 (g:=g) (cap:=cap) (k:=c) hv' (by show c<nv.length*1;omega);rw[this,List.getD_eq_getElem?_getD];show nv[c]? = _;rw[List.getElem?_eq_getElem hc'];rfl
theorem OwnBd.headNew (h:OwnBd w m D v nv rv bs N dss b){c:Nat}(hc:c<b.nts.length){u:Value}{ns:List Nt}(kw:Keep w w')
  (hb:∀k,u.ownBlock=some k→w.heap.size≤k) (ho:AppT cN 183 3 w' m u ns) {g cap:Nat} (hv:v.N = .slice (some ⟨g,0,none⟩) b.nts.length cap):
  OwnBd (w'.setCell ⟨g,c,none⟩ u) m D v (nv.set c u) rv bs N dss { b with nts:=b.nts.set c ns }∧w'.cell? ⟨g,c,none⟩=some (nv.getD c nilS)∧w'.frozen? ⟨g,c,none⟩=false:=by
 have hc':c<nv.length:=by rw[h.ln];exact hc
 have hv':v.N = .slice (some ⟨g,0,none⟩) nv.length cap:=by rw[h.ln];exact hv
 have F1:=h.fam.new (i:= .nt c) (r:=nvR ns u) kw hb ho;have o1:(hdR 180 nv v.N).own w' m:=by have:=F1.own .nts trivial;rw[upd_other _ _ (by simp)] at this;exact this
 obtain⟨q1,q2,q3⟩:=Rw.put o1 (g:=g) (cap:=cap) (k:=c) hv' u;have F2:=F1.set (i:= .nts) trivial (r:={ hdR 180 nv v.N with xs:=nv.set c u }) (by rw[upd_other _ _ (by simp)];exact q2) (.inl (by rw[upd_other _ _ (by simp)];rfl)) q1
 have hf:∀j,famR D v (nv.set c u) rv { b with nts:=b.nts.set c ns } j=upd (upd (famR D v nv rv b) (.nt c) (nvR ns u)) .nts { hdR 180 nv v.N with xs:=nv.set c u } j:=fun j=>by
  cases j with
  |nts=>
   rw[upd_same];simp[famR,hdR]
  |nt q=>
   rw[upd_other _ _ (by simp)];show nvR ((b.nts.set c ns).getD q []) ((nv.set c u).getD q nilS)=_;rw[getD_setV _ _ _ _ hc,getD_setV _ _ _ _ hc'];by_cases e:q=c
   · subst e;rw[upd_same];simp
   · rw[upd_other _ _ (by simpa using e),if_neg e,if_neg e];rfl
  |_=>rw[upd_other _ _ (by simp),upd_other _ _ (by simp)];rfl
 refine⟨⟨F2.congr (fun j=>by cases j<;>simp[liveB]) (fun j _=>hf j),by simpa using h.ln,h.lr,?_,?_,fun j hj k hk=>?_⟩,?_,q3⟩
 · exact (h.work.kept kw.grownBy (by simp)).kept q2 (fun g' hg'=>h.out .nts trivial g' hg')
 · exact Nat.le_trans h.top (Nat.le_trans kw.size q2.size)
 ·
  rw[hf j] at hk;by_cases e:j = .nts
  ·
   subst e;rw[upd_same] at hk;exact h.out .nts trivial k hk
  ·
   rw[upd_other _ _ e] at hk;by_cases e2:j = .nt c
   ·
    subst e2;rw[upd_same] at hk;have:=hb k hk;have:=h.top;right;omega
   ·
    rw[upd_other _ _ e2] at hk;exact h.out j (by cases j<;>simp[liveB] at hj ⊢<;>exact hj) k hk
 ·
  have:=Rw.cell o1 (g:=g) (cap:=cap) (k:=c) hv' (by show c<nv.length*1;omega);rw[this,List.getD_eq_getElem?_getD];show nv[c]? = _;rw[List.getElem?_eq_getElem hc'];rfl
theorem blk_setN {c:Nat}(hc:c<nv.length){u:Value}{g:Nat}(hg:blkB D v (nv.set c u) rv g):blkB D v nv rv g∨u.ownBlock=some g:=by
 obtain⟨i,hi,e⟩:=hg
 cases i with
 |nt q=>
  have hq:q<nv.length:=by simpa [liveB] using hi
  have e:((nv.set c u).getD q nilS).ownBlock=some g:=e;by_cases eq:q=c
  ·
   subst eq;rw[getD_setV _ _ _ _ hq,if_pos rfl] at e;exact .inr e
  ·
   rw[getD_setV _ _ _ _ hc,if_neg eq] at e;exact .inl ⟨.nt q,hq,e⟩
 |rw q=>exact .inl ⟨.rw q,hi,e⟩
 |bd=>exact .inl ⟨.bd,trivial,e⟩
 |plc=>exact .inl ⟨.plc,trivial,e⟩
 |lst=>exact .inl ⟨.lst,trivial,e⟩
 |nts=>exact .inl ⟨.nts,trivial,e⟩
 |nxt=>exact .inl ⟨.nxt,trivial,e⟩
 |sn=>exact .inl ⟨.sn,trivial,e⟩
 |fr=>exact .inl ⟨.fr,trivial,e⟩
 |rws=>exact .inl ⟨.rws,trivial,e⟩
end
end
section
theorem tf_no {x:Bool}{C:Prop}(h:x=true)(q:x=false):C:=absurd (h.symm.trans q) (by simp)
def updB (B:Nat→Bool)(i:Nat):Nat→Bool:=fun k=>if k=i then true else B k
def liveM (rows:List Nat)(B:Nat→Bool)(j:Nat):Prop:=j∈rows∧B j=true
theorem liveM_upd {rows:List Nat}{B:Nat→Bool}{i j:Nat}(h:liveM rows (updB B i) j):liveM rows B j∨j=i:=by
 obtain⟨h1,h2⟩:=h;by_cases e:j=i
 · exact .inr e
 ·
  refine .inl ⟨h1,?_⟩;unfold updB at h2;rw[if_neg e] at h2;exact h2
theorem liveM_pure {rows:List Nat}{B:Nat→Bool}{i j:Nat}(hi:i∉rows)(h:liveM rows (updB B i) j):liveM rows B j:=by
 rcases liveM_upd h with q|rfl
 · exact q
 · exact absurd h.1 hi
structure Mk (w:World)(m:Nat)(live:Nat→Prop)(R:Nat→Rw)(wk:Bool)(vW:Value)(bs N:Nat)(dss:List (List Dd)):Prop where
 fam:Fam w m live R
 work:wk=true→RdXN w bs N vW dss∧N≤w.heap.size∧m≤bs
 out:wk=true→∀i,live i→∀k,(R i).v.ownBlock=some k→k<bs∨N≤k
section
variable {w w':World} {m:Nat} {rows:List Nat} {B:Nat→Bool} {R:Nat→Rw} {wk:Bool} {vW:Value} {bs N:Nat} {dss:List (List Dd)}
theorem Mk.start (w:World)(m:Nat)(rows:List Nat)(R:Nat→Rw)(vW:Value)(bs N:Nat)(dss:List (List Dd)):Mk w m (liveM rows (fun _=>false)) R false vW bs N dss:=
 ⟨⟨fun _ h=>(by cases h.2),fun _ _ h=>(by cases h.2)⟩,fun h=>(by cases h),fun h=>(by cases h)⟩
theorem Mk.keep {live:Nat→Prop}(h:Mk w m live R wk vW bs N dss)(k:Keep w w'):Mk w' m live R wk vW bs N dss:=
 ⟨h.fam.keep k,fun e=>⟨(h.work e).1.kept k.grownBy (by simp),Nat.le_trans (h.work e).2.1 k.size,(h.work e).2.2⟩,h.out⟩
theorem Mk.pass (h:Mk w m (liveM rows B) R wk vW bs N dss){i:Nat}(hi:i∉rows):Mk w m (liveM rows (updB B i)) R wk vW bs N dss:=
 ⟨h.fam.congr (fun _ hj=>liveM_pure hi hj) (fun _ _=>rfl),h.work,fun e j hj=>h.out e j (liveM_pure hi hj)⟩
theorem Mk.add (h:Mk w m (liveM rows B) R wk vW bs N dss){i:Nat}(hi:B i=false){r:Rw}(k:Keep w w')(ho:r.own w' m)(hn:∀b,r.v.ownBlock=some b→w.heap.size≤b):Mk w' m (liveM rows (updB B i)) (upd R i r) wk vW bs N dss:=by
 have F:=h.fam.add (i:=i) (fun q=>by have q2:=q.2;rw[hi] at q2;cases q2) (r:=r) rfl k ho hn;refine⟨F.congr (fun j hj=>liveM_upd hj) (fun _ _=>rfl),(h.keep k).work,fun e j hj b hb=>?_⟩;by_cases ej:j=i
 ·
  subst ej;rw[upd_same] at hb;have:=hn b hb;have:=(h.work e).2.1;right;omega
 ·
  rw[upd_other _ _ ej] at hb;exact h.out e j ((liveM_upd hj).resolve_right ej) b hb
theorem Mk.copied (h:Mk w m (liveM rows B) R false vW bs N dss){i:Nat}(hi:i∉rows){v':Value}(k:Keep w w')(hx:RdX w' w.heap.size v' dss)(hm:m≤w.heap.size):Mk w' m (liveM rows (updB B i)) R true v' w.heap.size w'.heap.size dss:=
 ⟨(h.fam.keep k).congr (fun _ hj=>liveM_pure hi hj) (fun _ _=>rfl),fun _=>⟨hx.upto,Nat.le_refl _,hm⟩,fun _ _ hj b hb => .inl (h.fam.lt (liveM_pure hi hj) b hb).2⟩
theorem Mk.turn (h:Mk w m (liveM rows B) R wk vW bs N dss){i j:Nat}(hi:i∉rows)(hj:liveM rows B j){r:Rw}(hg:w.grownBy w' (R j).v.ownBlock)(hv:r.v=(R j).v)(ho:r.own w' m):Mk w' m (liveM rows (updB B i)) (upd R j r) wk vW bs N dss:=by
 have F:=h.fam.set hj (r:=r) hg (.inl (by rw[hv])) ho;refine⟨F.congr (fun _ q=>liveM_pure hi q) (fun _ _=>rfl),fun e=>⟨(h.work e).1.kept hg (fun g e'=>h.out e j hj g e'),Nat.le_trans (h.work e).2.1 hg.size,(h.work e).2.2⟩,fun e q hq b hb=>?_⟩;by_cases eq:q=j
 ·
  subst eq;rw[upd_same,hv] at hb;exact h.out e q hj b hb
 ·
  rw[upd_other _ _ eq] at hb;exact h.out e q (liveM_pure hi hq) b hb
theorem Mk.grow (h:Mk w m (liveM rows B) R wk vW bs N dss){i j:Nat}(hi:i∉rows)(hj:liveM rows B j){r:Rw}(hg:w.grownBy w' (R j).v.ownBlock)(hv:r.v.ownBlock=(R j).v.ownBlock∨r.v.ownBlock=some w.heap.size)(ho:r.own w' m):Mk w' m (liveM rows (updB B i)) (upd R j r) wk vW bs N dss:=by
 have F:=h.fam.set hj (r:=r) hg (by rcases hv with e|e;exact .inl e;exact .inr (.inl e)) ho;refine⟨F.congr (fun _ q=>liveM_pure hi q) (fun _ _=>rfl),fun e=>⟨(h.work e).1.kept hg (fun g e'=>h.out e j hj g e'),Nat.le_trans (h.work e).2.1 hg.size,(h.work e).2.2⟩,fun e q hq b hb=>?_⟩;by_cases eq:q=j
 ·
  subst eq;rw[upd_same] at hb;rcases hv with e1|e1
  · rw[e1] at hb;exact h.out e q hj b hb
  ·
   rw[e1] at hb;have:=Option.some.inj hb;have:=(h.work e).2.1;right;omega
 ·
  rw[upd_other _ _ eq] at hb;exact h.out e q (liveM_pure hi hq) b hb
theorem Mk.far (h:Mk w m (liveM rows B) R false vW bs N dss){i:Nat}(hi:i∉rows){g:Nat}(hg:w.grownBy w' (some g))(hl:g<m):Mk w' m (liveM rows (updB B i)) R false vW bs N dss:=
 ⟨(h.fam.far hg (fun j hj=>by
  cases e:(R j).v.ownBlock with
  |none=>exact .inl rfl
  |some k=>exact .inr (fun e'=>by have:=(h.fam.lt hj k e).1;have:=Option.some.inj e';omega))).congr (fun _ q=>liveM_pure hi q) (fun _ _=>rfl),fun e=>(by cases e),fun e=>(by cases e)⟩
end
theorem Fam.via {ι κ:Type}{w:World}{m:Nat}{live:ι→Prop}{R:ι→Rw}(h:Fam w m live R)(g:κ→Option ι)(inj:∀a b i,g a=some i→g b=some i→a=b){live':κ→Prop}{R':κ→Rw}
  (h1:∀a i,live' a→g a=some i→live i∧R' a=R i) (h2:∀a,live' a→g a=none→(R' a).own w m∧(R' a).v.ownBlock=none):Fam w m live' R':=by
 refine⟨fun a ha=>?_,fun a b ha hb hab=>?_⟩
 ·
  cases e:g a with
  |none=>exact (h2 a ha e).1
  |some i=>rw[(h1 a i ha e).2];exact h.own i (h1 a i ha e).1
 ·
  cases e:g a with
  |none=>exact .inl (h2 a ha e).2
  |some i=>
   cases e':g b with
   |none=>
    rw[(h2 b hb e').2]
    cases (R' a).v.ownBlock with
    |none=>exact .inl rfl
    |some q=>exact .inr (by simp)
   |some j=>
    rw[(h1 a i ha e).2,(h1 b j hb e').2];exact h.apart i j (h1 a i ha e).1 (h1 b j hb e').1 (fun q=>by subst q;exact hab (inj a b i e e'))
theorem own_none (w:World)(m:Nat)(t:TypeId)(s:Nat):Rw.own w m ⟨t,s,nilS,0,[]⟩:=⟨by simp,.inl ⟨rfl,rfl⟩⟩
theorem own_lit (w:World){m:Nat}(hm:m≤w.heap.size)(t:TypeId)(cs:Array Value)(h:cs.size≤maxLen):Rw.own (w.alloc (.cells cs t)) m ⟨t,1,.slice (some ⟨w.heap.size,0,none⟩) cs.size cs.size,cs.size,cs.toList⟩:=by
 refine⟨by simp,.inr ⟨w.heap.size,cs.size,cs,rfl,hm,heap_alloc_new w _,Nat.le_refl _,h,by simp,?_⟩⟩;rw[Nat.mul_one];exact List.take_of_length_le (by simp)
section
variable {P:Program} {ops:Array Oper} {Q:Exit→Act→World→Prop} {md:Region.Mode}
theorem ready_none {listed:Array Bool}(h:Region.ready md ops listed=[])(i:Nat)(o:Oper)(ho:ops[i]? = some o)(hd:o.after.all (fun e=>!Region.binds md e||listed.getD e.on false)=true):listed.getD i true=true:=by
 cases e:listed.getD i true with
 |true=>rfl
 |false=>
  exfalso;have hi:i<ops.size:=(Array.getElem?_eq_some_iff.1 ho).1
  have:i∈Region.ready md ops listed:=by
   unfold Region.ready;rw[List.mem_filter,List.mem_range];refine⟨hi,?_⟩;simp only[Bool.and_eq_true,Bool.not_eq_true'];refine⟨e,?_⟩;rw[ho];exact hd
  rw[h] at this;cases this
theorem ready_dep {listed:Array Bool}{i:Nat}(h:i∈Region.ready md ops listed)(k:Nat){o:Oper}(ho:ops[i]? = some o)(he:o.after.any (fun e=>e.on==k&&Region.binds md e)=true):listed.getD k false=true:=by
 have h1:=(ready_use h).2.2 o ho;rw[Array.any_eq_true'] at he;obtain⟨e,hm,he⟩:=he;rw[Array.all_eq_true'] at h1;have h2:=h1 e hm;rw[Bool.and_eq_true,beq_iff_eq] at he;rw[he.2,he.1] at h2
 simpa using h2
theorem ready_all {listed:Array Bool}(h:Region.ready md ops listed=[])(hs:listed.size=ops.size)(ha:(List.range ops.size).all (fun i=>match ops[i]? with|some o=>o.after.all (fun e=>decide (e.on<i))|none=>true)=true):∀i,i<ops.size→listed.getD i false=true:=by
 intro i
 induction i using Nat.strongRecOn with
 |ind i ih=>
  intro hi;have hi':=List.all_eq_true.1 ha i (List.mem_range.2 hi);rw[Array.getElem?_eq_getElem hi] at hi'
  have h1:=ready_none h i ops[i] (Array.getElem?_eq_getElem hi) (by
   rw[Array.all_eq_true'];intro e he;have h2:=(Array.all_eq_true'.1 hi') e he;rw[decide_eq_true_eq] at h2;rw[ih e.on h2 (by omega)]
   simp)
  rw[Array.getD_eq_getD_getElem?,Array.getElem?_eq_getElem (by omega)] at h1 ⊢;exact h1
theorem wpOp_law {i:Nat}{o:Oper}{K:Act→World→Prop}{a:Act}{w:World}(ho:ops[i]? = some o)(hg:Region.wanted o (yielded ops a.tmps)=true)
  (h:∀K':Act→World→Prop,Shut (∀a w,K a w→K' a w)→Oper.wp P o a w K' Q):wpOp P ops Q i K a w:=wpOp_step ho (fun K' hK=>by rw[if_pos hg];exact h K' hK)
end
theorem wp_make_ints {o:Oper}{a:Act}{w:World}{K:Act→World→Prop}{Q:Exit→Act→World→Prop}(x y:Operand)(ho:o.op = .makeSlice 25 x y)(n:Nat)(hx:a.eval x = .int .i64 (n:Int))(hy:a.eval y = .int .i64 (n:Int))(hn:n≤1048576)(m:Nat)(hm:m≤w.heap.size)
  (h:∀w',Own w' m (.slice (some ⟨w.heap.size,0,none⟩) n n) (List.replicate n 0)→Keep w w'→K (a.put o.dst (.slice (some ⟨w.heap.size,0,none⟩) n n)) w'):o.wp Tryz.prog a w K Q:=by
 obtain⟨i0,hi,hz0,hz1,hz2⟩:=info_parts Tryz.infoI;obtain⟨w',hrun,r1,r2⟩:=run_make_full (P:=Tryz.prog) w m 25 2 i0 (.int .i64 0) 1 Tryz.underlying25 hi hz0 hz1 .i64 .i64 n (by rw[hz2];omega) (by unfold maxLen;omega) hm;unfold Oper.wp;simp[execOp,ho,hx,hy,hrun,Result.andThen];refine h w' ?_ ((Keep.refl w).grown r2 (by simp));unfold Own;rw[Nat.mul_one,show (Value.int .i64 0).cells=#[.int .i64 0] from rfl,toList_madeCells_one] at r1
 simpa using r1
theorem new_ge {g n cap b:Nat}(h:(Value.slice (some ⟨g,0,none⟩) n cap).ownBlock=some b):g≤b:=Nat.le_of_eq (Option.some.inj h)
end
section
structure OwnVal (w:World)(m:Nat)(v:BV)(nv rv:List Value)(bs N:Nat)(dss:List (List Dd))(b:Bd):Prop where
 fam:Fam w m (fun i=>liveB nv rv i∧i≠.bd) (famR 0 v nv rv b)
 ln:nv.length=b.nts.length
 lr:rv.length=b.rws.length
 work:RdXN w bs N v.W dss
 top:N≤w.heap.size
 out:∀i,liveB nv rv i→i≠.bd→∀k,(famR 0 v nv rv b i).v.ownBlock=some k→k<bs∨N≤k
section
variable {w w':World} {m D:Nat} {v:BV} {nv rv:List Value} {bs N:Nat} {dss:List (List Dd)} {b:Bd}
theorem famR_no (D:Nat)(v:BV)(nv rv:List Value)(b:Bd){i:BI}(h:i≠.bd):famR D v nv rv b i=famR 0 v nv rv b i:=by cases i<;>first|rfl|exact absurd rfl h
theorem OwnBd.val (h:OwnBd w m D v nv rv bs N dss b):OwnVal w m v nv rv bs N dss b:=
 ⟨h.fam.congr (fun _ hi=>hi.1) (fun i hi=>(famR_no D v nv rv b hi.2).symm),h.ln,h.lr,h.work,h.top,fun i hi hb k hk=>h.out i hi k (by rw[famR_no D v nv rv b hb];exact hk)⟩
theorem OwnVal.keep (h:OwnVal w m v nv rv bs N dss b)(k:Keep w w'):OwnVal w' m v nv rv bs N dss b:=
 ⟨h.fam.keep k,h.ln,h.lr,h.work.kept k.grownBy (by simp),Nat.le_trans h.top k.size,h.out⟩
theorem OwnVal.far (h:OwnVal w m v nv rv bs N dss b){row:Option Nat}(hg:w.grownBy w' row)(hr:∀k,row=some k→k<m∧(k<bs∨N≤k)):OwnVal w' m v nv rv bs N dss b:=
 ⟨h.fam.far hg (fun i hi=>by
  cases e:(famR 0 v nv rv b i).v.ownBlock with
  |none=>exact .inl rfl
  |some k=>exact .inr (fun e'=>by have:=(h.fam.lt hi k e).1;have:=hr k e'.symm;omega)),h.ln,h.lr,h.work.kept hg (fun g hg'=>(hr g hg').2),Nat.le_trans h.top hg.size,h.out⟩
theorem OwnVal.box (h:OwnVal w m v nv rv bs N dss b)(hm:m≤w.heap.size):OwnBd (w.alloc (.cells v.arr 94)) m w.heap.size v nv rv bs N dss b:=by
 have k:Keep w (w.alloc (.cells v.arr 94)):=(Keep.refl w).alloc _
 have ho:(bdR w.heap.size v).own (w.alloc (.cells v.arr 94)) m:=by
  refine⟨rfl,.inr ⟨w.heap.size,1,v.arr,rfl,hm,heap_alloc_new w _,Nat.le_refl _,by decide,rfl,?_⟩⟩;rfl
 have F:=h.fam.add (i:= .bd) (fun hi=>hi.2 rfl) (r:=bdR w.heap.size v) rfl k ho (fun q hq=>by have e:w.heap.size=q:=Option.some.inj hq;omega);have hk:=h.keep k;refine⟨F.congr (fun i hi=>?_) (fun i hi=>?_),h.ln,h.lr,hk.work,hk.top,fun i hi q hq=>?_⟩
 ·
  by_cases e:i = .bd
  · exact .inr e
  · exact .inl ⟨hi,e⟩
 ·
  by_cases e:i = .bd
  · subst e;rw[upd_same];rfl
  · rw[upd_other _ _ e];exact famR_no _ _ _ _ _ e
 ·
  by_cases e:i = .bd
  ·
   subst e;have:w.heap.size=q:=Option.some.inj hq;have:=h.top;right;omega
  ·
   rw[famR_no _ _ _ _ _ e] at hq;exact h.out i hi e q hq
theorem OwnVal.rd (h:OwnVal w m v nv rv bs N dss b)(hm:m≤w.heap.size):RdBd (w.alloc (.cells v.arr 94)) v dss b:=(h.box hm).rd
theorem OwnVal.rd0 (h:OwnVal w m v nv rv bs N dss b):RdBd w v dss b:=by
 have oN:∀ {c:Nat},c<b.nts.length→AppT cN 183 3 w m (nv.getD c nilS) (b.nts.getD c []):=fun {c} hc=>h.fam.own (.nt c) ⟨by show c<nv.length;rw[h.ln];exact hc,by simp⟩
 have oR:∀ {p:Nat},p<b.rws.length→Own w m (rv.getD p nilS) (b.rws.getD p []):=fun {p} hp=>h.fam.own (.rw p) ⟨by show p<rv.length;rw[h.lr];exact hp,by simp⟩
 have o1:Own w m v.P b.plc:=h.fam.own .plc ⟨trivial,by simp⟩;have o2:Own w m v.L b.lst:=h.fam.own .lst ⟨trivial,by simp⟩;have o3:Own w m v.X b.nxt:=h.fam.own .nxt ⟨trivial,by simp⟩;have o4:Own w m v.S b.sn:=h.fam.own .sn ⟨trivial,by simp⟩;have o5:Own w m v.F b.fr:=h.fam.own .fr ⟨trivial,by simp⟩;refine⟨h.work.rd,o1.rd,o2.rd,?_,o3.rd,o4.rd,o5.rd,?_⟩
 ·
  obtain⟨a,cap,e,h1⟩:=own_head (h.fam.own .nts ⟨trivial,by simp⟩);rw[h.ln] at e;refine⟨a,cap,e,?_⟩;rcases h1 with h1|⟨g,e1,e2,e3⟩
  ·
   left;have:=h.ln;rw[h1] at this;exact List.eq_nil_of_length_eq_zero this.symm
  · exact .inr ⟨g,0,e1,e2,fun i hi=>⟨_,by rw[Nat.zero_add];exact e3 i (by rw[h.ln];exact hi),AppT.rd cN_len (oN hi)⟩⟩
 ·
  obtain⟨a,cap,e,h1⟩:=own_head (h.fam.own .rws ⟨trivial,by simp⟩);rw[h.lr] at e;refine⟨a,cap,e,?_⟩;rcases h1 with h1|⟨g,e1,e2,e3⟩
  ·
   left;have:=h.lr;rw[h1] at this;exact List.eq_nil_of_length_eq_zero this.symm
  · exact .inr ⟨g,0,e1,e2,fun i hi=>⟨_,by rw[Nat.zero_add];exact e3 i (by rw[h.lr];exact hi),(oR hi).rd⟩⟩
theorem Fam.base_le {ι:Type}{m':Nat}{live:ι→Prop}{R:ι→Rw}(h:Fam w m live R)(hm:m'≤m):Fam w m' live R:=
 ⟨fun i hi=>by
  have o:=h.own i hi;refine⟨o.1,?_⟩;rcases o.2 with q|⟨g,cap,cur,e,hg,r⟩
  · exact .inl q
  · exact .inr ⟨g,cap,cur,e,Nat.le_trans hm hg,r⟩,h.apart⟩
theorem OwnVal.base_le {m':Nat}(h:OwnVal w m v nv rv bs N dss b)(hm:m'≤m):OwnVal w m' v nv rv bs N dss b:=⟨h.fam.base_le hm,h.ln,h.lr,h.work,h.top,h.out⟩
theorem OwnBd.heapD (h:OwnBd w m D v nv rv bs N dss b):w.heap[D]? = some (.cells v.arr 94 (0,0)):=by
 have o:=h.fam.own .bd trivial;rcases o.2 with ⟨e,_⟩|⟨g,cap,cur,e,_,hg,_,_,hs,ht⟩
 ·
  have e:Value.slice (some ⟨D,0,none⟩) 1 1 = .slice none 0 0:=e;simp at e
 ·
  have e:Value.slice (some ⟨D,0,none⟩) 1 1 = .slice (some ⟨g,0,none⟩) 1 cap:=e;simp only[Value.slice.injEq,Option.some.injEq,Addr.mk.injEq,and_true,true_and] at e;obtain⟨rfl,rfl⟩:=e;have hs:cur.size=1*8:=hs;have ht:cur.toList.take (1*8)=[v.W,v.P,v.L,v.N,v.X,v.S,v.F,v.R]:=ht;rw[List.take_of_length_le (by rw[Array.length_toList];omega)] at ht;have:cur=v.arr:=Array.ext' ht;rw[hg,this];rfl
end
end
section
section
variable {w w1 w2 w':World} {m D:Nat} {v:BV} {nv rv:List Value} {bs N:Nat} {dss:List (List Dd)} {b:Bd}
theorem OwnBd.mk2 (h:OwnBd w m D v nv rv bs N dss b){v':BV}{nv' rv':List Value}{b':Bd}(F:Fam w' m (liveB nv' rv') (famR D v' nv' rv' b'))(ln:nv'.length=b'.nts.length)(lr:rv'.length=b'.rws.length)(hW:v'.W=v.W)(hs:w.heap.size≤w'.heap.size)(hwk:RdXN w' bs N v.W dss)
  (hout:∀i,liveB nv' rv' i→∀k,(famR D v' nv' rv' b' i).v.ownBlock=some k→(∃j,liveB nv rv j∧(famR D v nv rv b j).v.ownBlock=some k)∨w.heap.size≤k):OwnBd w' m D v' nv' rv' bs N dss b':=
 ⟨F,ln,lr,by rw[hW];exact hwk,Nat.le_trans h.top hs,fun i hi k hk=>by
  rcases hout i hi k hk with ⟨j,hj,e⟩|e
  · exact h.out j hj k e
  ·
   have:=h.top
   right;omega⟩
theorem bd_put {k:Nat}{x:Value}{v':BV}(o:(bdR D v).own w m)(hv:(bdR D v').xs=(bdR D v).xs.set k x):(bdR D v').own (w.setCell ⟨D,k,none⟩ x) m∧w.grownBy (w.setCell ⟨D,k,none⟩ x) (some D)∧w.frozen? ⟨D,k,none⟩=false:=by
 obtain⟨h1,h2,h3⟩:=Rw.put o (g:=D) (cap:=1) (k:=k) rfl x;refine⟨?_,h2,h3⟩;have e:bdR D v'={ bdR D v with xs:=(bdR D v).xs.set k x }:=by rw[←hv]
 rw[e];exact h1
theorem OwnBd.nD (h:OwnBd w m D v nv rv bs N dss b):∀g,some D=some g→g<bs∨N≤g:=fun g e=>h.out .bd trivial g e
theorem OwnBd.growS (h:OwnBd w m D v nv rv bs N dss b){u:Value}{zs:List Int}(hg:w.grownBy w2 v.S.ownBlock)(hb:u.ownBlock=v.S.ownBlock∨u.ownBlock=some w.heap.size∨u.ownBlock=none)(ho:Own w2 m u zs):
  OwnBd (w2.setCell ⟨D,5,none⟩ u) m D { v with S:=u } nv rv bs N dss { b with sn:=zs }∧w2.cell? ⟨D,5,none⟩=some v.S∧w2.frozen? ⟨D,5,none⟩=false:=by
 have F1:=h.fam.set (i:= .sn) trivial (r:=ivR zs u) hg hb ho;have o1:(bdR D v).own w2 m:=F1.own .bd trivial;obtain⟨q1,q2,q3⟩:=bd_put (k:=5) (x:=u) (v':={ v with S:=u }) o1 rfl;have F2:=F1.set (i:= .bd) trivial (r:=bdR D { v with S:=u }) q2 (.inl rfl) q1;have hf:∀j,famR D { v with S:=u } nv rv { b with sn:=zs } j=upd (upd (famR D v nv rv b) .sn (ivR zs u)) .bd (bdR D { v with S:=u }) j:=fun j=>by cases j<;>rfl
 refine⟨h.mk2 (F2.congr (fun _ hj=>hj) (fun j _=>hf j)) h.ln h.lr rfl (Nat.le_trans hg.size q2.size) ((h.work.kept hg (fun g e=>h.out .sn trivial g e)).kept q2 h.nD) (fun j hj k hk=>?_),(h.stay .sn trivial (by simp) hg 5).trans h.cells.2.2.2.2.2.1,q3⟩;by_cases e:j = .sn
 ·
  subst e;have hk:u.ownBlock=some k:=hk;rcases hb with e|e|e
  · exact .inl ⟨.sn,trivial,by rw[←hk,e];rfl⟩
  · rw[e] at hk;exact .inr (Nat.le_of_eq (Option.some.inj hk))
  · rw[e] at hk;cases hk
 ·
  refine .inl ⟨j,hj,?_⟩;cases j<;>first|exact hk|exact absurd rfl e
theorem OwnBd.growF (h:OwnBd w m D v nv rv bs N dss b){u:Value}{zs:List Int}(hg:w.grownBy w2 v.F.ownBlock)(hb:u.ownBlock=v.F.ownBlock∨u.ownBlock=some w.heap.size∨u.ownBlock=none)(ho:Own w2 m u zs):
  OwnBd (w2.setCell ⟨D,6,none⟩ u) m D { v with F:=u } nv rv bs N dss { b with fr:=zs }∧w2.cell? ⟨D,6,none⟩=some v.F∧w2.frozen? ⟨D,6,none⟩=false:=by
 have F1:=h.fam.set (i:= .fr) trivial (r:=ivR zs u) hg hb ho;have o1:(bdR D v).own w2 m:=F1.own .bd trivial;obtain⟨q1,q2,q3⟩:=bd_put (k:=6) (x:=u) (v':={ v with F:=u }) o1 rfl;have F2:=F1.set (i:= .bd) trivial (r:=bdR D { v with F:=u }) q2 (.inl rfl) q1;have hf:∀j,famR D { v with F:=u } nv rv { b with fr:=zs } j=upd (upd (famR D v nv rv b) .fr (ivR zs u)) .bd (bdR D { v with F:=u }) j:=fun j=>by cases j<;>rfl
 refine⟨h.mk2 (F2.congr (fun _ hj=>hj) (fun j _=>hf j)) h.ln h.lr rfl (Nat.le_trans hg.size q2.size) ((h.work.kept hg (fun g e=>h.out .fr trivial g e)).kept q2 h.nD) (fun j hj k hk=>?_),(h.stay .fr trivial (by simp) hg 6).trans h.cells.2.2.2.2.2.2.1,q3⟩;by_cases e:j = .fr
 ·
  subst e;have hk:u.ownBlock=some k:=hk;rcases hb with e|e|e
  · exact .inl ⟨.fr,trivial,by rw[←hk,e];rfl⟩
  · rw[e] at hk;exact .inr (Nat.le_of_eq (Option.some.inj hk))
  · rw[e] at hk;cases hk
 ·
  refine .inl ⟨j,hj,?_⟩;cases j<;>first|exact hk|exact absurd rfl e
theorem getD_app {α:Type}(l:List α)(x z:α)(q:Nat):(l++[x]).getD q z=if q=l.length then x else l.getD q z:=by
 rw[List.getD_eq_getElem?_getD,List.getD_eq_getElem?_getD];by_cases e:q=l.length
 · subst e;simp
 ·
  rw[if_neg e];by_cases hl:q<l.length
  · rw[List.getElem?_append_left hl]
  · rw[List.getElem?_eq_none (by rw[List.length_append];simp;omega),List.getElem?_eq_none (by omega)]
theorem OwnBd.pushN (h:OwnBd w m D v nv rv bs N dss b){u u':Value}{ns:List Nt}(k1:Keep w w1)(hu:∀k,u.ownBlock=some k→w.heap.size≤k)(ou:AppT cN 183 3 w1 m u ns)
  (hg:w1.grownBy w2 v.N.ownBlock) (hb:u'.ownBlock=v.N.ownBlock∨u'.ownBlock=some w1.heap.size∨u'.ownBlock=none) (ho:(hdR 180 (nv++[u]) u').own w2 m):
  OwnBd (w2.setCell ⟨D,3,none⟩ u') m D { v with N:=u' } (nv++[u]) rv bs N dss { b with nts:=b.nts++[ns] }∧w2.cell? ⟨D,3,none⟩=some v.N∧w2.frozen? ⟨D,3,none⟩=false:=by
 have F1:=h.fam.add (i:= .nt nv.length) (fun q=>Nat.lt_irrefl _ (show nv.length<nv.length from q)) (r:=nvR ns u) rfl k1 ou hu;have F2:=F1.set (i:= .nts) (.inl trivial) (r:=hdR 180 (nv++[u]) u') hg hb ho;have o1:(bdR D v).own w2 m:=F2.own .bd (.inl trivial);obtain⟨q1,q2,q3⟩:=bd_put (k:=3) (x:=u') (v':={ v with N:=u' }) o1 rfl;have F3:=F2.set (i:= .bd) (.inl trivial) (r:=bdR D { v with N:=u' }) q2 (.inl rfl) q1;have hs:w.heap.size≤w1.heap.size:=k1.size
 have hf:∀j,famR D { v with N:=u' } (nv++[u]) rv { b with nts:=b.nts++[ns] } j=upd (upd (upd (famR D v nv rv b) (.nt nv.length) (nvR ns u)) .nts (hdR 180 (nv++[u]) u')) .bd (bdR D { v with N:=u' }) j:=fun j=>by
  cases j with
  |nt q=>
   rw[upd_other _ _ (by simp),upd_other _ _ (by simp)];show nvR ((b.nts++[ns]).getD q []) ((nv++[u]).getD q nilS)=_;rw[getD_app,getD_app,←h.ln];by_cases e:q=nv.length
   · subst e;rw[upd_same,if_pos rfl,if_pos rfl]
   · rw[upd_other _ _ (by simpa using e),if_neg e,if_neg e];rfl
  |_=>rfl
 have hne:some D≠v.N.ownBlock:=by
  rcases h.fam.apart .bd .nts trivial trivial (by simp) with e|e
  · cases e
  · exact e
 refine⟨h.mk2 (F3.congr (fun j hj=>?_) (fun j _=>hf j)) (by rw[List.length_append];simp[h.ln]) h.lr rfl (Nat.le_trans hs (Nat.le_trans hg.size q2.size)) (((h.work.kept k1.grownBy (by simp)).kept hg (fun g e=>h.out .nts trivial g e)).kept q2 h.nD) (fun j hj k hk=>?_),?_,q3⟩
 ·
  cases j with
  |nt q=>
   have hq:q<(nv++[u]).length:=hj;rw[List.length_append] at hq;by_cases e:q=nv.length
   · exact .inr (by rw[e])
   · exact .inl (show q<nv.length by simp at hq;omega)
  |rw q=>exact .inl hj
  |_=>exact .inl trivial
 ·
  cases j with
  |nt q=>
   have hk:((nv++[u]).getD q nilS).ownBlock=some k:=hk;rw[getD_app] at hk;by_cases e:q=nv.length
   · rw[if_pos e] at hk;exact .inr (hu k hk)
   ·
    rw[if_neg e] at hk;have hq:q<(nv++[u]).length:=hj;rw[List.length_append] at hq;exact .inl ⟨.nt q,show q<nv.length by simp at hq;omega,hk⟩
  |nts=>
   have hk:u'.ownBlock=some k:=hk;rcases hb with e|e|e
   · exact .inl ⟨.nts,trivial,by rw[←hk,e];rfl⟩
   · rw[e] at hk;exact .inr (by have:=Option.some.inj hk;omega)
   · rw[e] at hk;cases hk
  |rw q=>exact .inl ⟨.rw q,hj,hk⟩
  |bd=>exact .inl ⟨.bd,trivial,hk⟩
  |plc=>exact .inl ⟨.plc,trivial,hk⟩
  |lst=>exact .inl ⟨.lst,trivial,hk⟩
  |nxt=>exact .inl ⟨.nxt,trivial,hk⟩
  |sn=>exact .inl ⟨.sn,trivial,hk⟩
  |fr=>exact .inl ⟨.fr,trivial,hk⟩
  |rws=>exact .inl ⟨.rws,trivial,hk⟩
 ·
  have hD:=h.base.2;have e1:w2.cell? ⟨D,3,none⟩=w1.cell? ⟨D,3,none⟩:=World.cell?_of_block (w:=w1) (hg.block D (by omega) hne);rw[e1,k1.cell hD];exact h.cells.2.2.2.1
theorem OwnBd.pushR (h:OwnBd w m D v nv rv bs N dss b){u u':Value}{zs:List Int}(k1:Keep w w1)(hu:∀k,u.ownBlock=some k→w.heap.size≤k)(ou:Own w1 m u zs)
  (hg:w1.grownBy w2 v.R.ownBlock) (hb:u'.ownBlock=v.R.ownBlock∨u'.ownBlock=some w1.heap.size∨u'.ownBlock=none) (ho:(hdR 25 (rv++[u]) u').own w2 m):
  OwnBd (w2.setCell ⟨D,7,none⟩ u') m D { v with R:=u' } nv (rv++[u]) bs N dss { b with rws:=b.rws++[zs] }∧w2.cell? ⟨D,7,none⟩=some v.R∧w2.frozen? ⟨D,7,none⟩=false:=by
 have F1:=h.fam.add (i:= .rw rv.length) (fun q=>Nat.lt_irrefl _ (show rv.length<rv.length from q)) (r:=ivR zs u) rfl k1 ou hu;have F2:=F1.set (i:= .rws) (.inl trivial) (r:=hdR 25 (rv++[u]) u') hg hb ho;have o1:(bdR D v).own w2 m:=F2.own .bd (.inl trivial);obtain⟨q1,q2,q3⟩:=bd_put (k:=7) (x:=u') (v':={ v with R:=u' }) o1 rfl;have F3:=F2.set (i:= .bd) (.inl trivial) (r:=bdR D { v with R:=u' }) q2 (.inl rfl) q1;have hs:w.heap.size≤w1.heap.size:=k1.size
 have hf:∀j,famR D { v with R:=u' } nv (rv++[u]) { b with rws:=b.rws++[zs] } j=upd (upd (upd (famR D v nv rv b) (.rw rv.length) (ivR zs u)) .rws (hdR 25 (rv++[u]) u')) .bd (bdR D { v with R:=u' }) j:=fun j=>by
  cases j with
  |rw q=>
   rw[upd_other _ _ (by simp),upd_other _ _ (by simp)];show ivR ((b.rws++[zs]).getD q []) ((rv++[u]).getD q nilS)=_;rw[getD_app,getD_app,←h.lr];by_cases e:q=rv.length
   · subst e;rw[upd_same,if_pos rfl,if_pos rfl]
   · rw[upd_other _ _ (by simpa using e),if_neg e,if_neg e];rfl
  |_=>rfl
 have hne:some D≠v.R.ownBlock:=by
  rcases h.fam.apart .bd .rws trivial trivial (by simp) with e|e
  · cases e
  · exact e
 refine⟨h.mk2 (F3.congr (fun j hj=>?_) (fun j _=>hf j)) h.ln (by rw[List.length_append];simp[h.lr]) rfl (Nat.le_trans hs (Nat.le_trans hg.size q2.size)) (((h.work.kept k1.grownBy (by simp)).kept hg (fun g e=>h.out .rws trivial g e)).kept q2 h.nD) (fun j hj k hk=>?_),?_,q3⟩
 ·
  cases j with
  |rw q=>
   have hq:q<(rv++[u]).length:=hj;rw[List.length_append] at hq;by_cases e:q=rv.length
   · exact .inr (by rw[e])
   · exact .inl (show q<rv.length by simp at hq;omega)
  |nt q=>exact .inl hj
  |_=>exact .inl trivial
 ·
  cases j with
  |rw q=>
   have hk:((rv++[u]).getD q nilS).ownBlock=some k:=hk;rw[getD_app] at hk;by_cases e:q=rv.length
   · rw[if_pos e] at hk;exact .inr (hu k hk)
   ·
    rw[if_neg e] at hk;have hq:q<(rv++[u]).length:=hj;rw[List.length_append] at hq;exact .inl ⟨.rw q,show q<rv.length by simp at hq;omega,hk⟩
  |rws=>
   have hk:u'.ownBlock=some k:=hk;rcases hb with e|e|e
   · exact .inl ⟨.rws,trivial,by rw[←hk,e];rfl⟩
   · rw[e] at hk;exact .inr (by have:=Option.some.inj hk;omega)
   · rw[e] at hk;cases hk
  |nt q=>exact .inl ⟨.nt q,hj,hk⟩
  |bd=>exact .inl ⟨.bd,trivial,hk⟩
  |plc=>exact .inl ⟨.plc,trivial,hk⟩
  |lst=>exact .inl ⟨.lst,trivial,hk⟩
  |nxt=>exact .inl ⟨.nxt,trivial,hk⟩
  |sn=>exact .inl ⟨.sn,trivial,hk⟩
  |fr=>exact .inl ⟨.fr,trivial,hk⟩
  |nts=>exact .inl ⟨.nts,trivial,hk⟩
 ·
  have hD:=h.base.2;have e1:w2.cell? ⟨D,7,none⟩=w1.cell? ⟨D,7,none⟩:=World.cell?_of_block (w:=w1) (hg.block D (by omega) hne);rw[e1,k1.cell hD];exact h.cells.2.2.2.2.2.2.2
end
end
theorem RdBd.shapes {w:World}{v:BV}{dss:List (List Dd)}{b:Bd}(h:RdBd w v dss b):
  ∃(aW aP aL aN aX aS aF aR:Option Addr) (cW cP cL cN cX cS cF cR:Nat),v=⟨.slice aW dss.length cW,.slice aP b.plc.length cP,.slice aL b.lst.length cL,.slice aN b.nts.length cN,.slice aX b.nxt.length cX,.slice aS b.sn.length cS,.slice aF b.fr.length cF,.slice aR b.rws.length cR⟩:=by
 obtain⟨vW,vP,vL,vN,vX,vS,vF,vR⟩:=v;obtain⟨hW,hP,hL,hN,hX,hS,hF,hR⟩:=h;obtain⟨aW,cW,eW,-⟩:=hW;obtain⟨aP,cP,eP,-⟩:=hP;obtain⟨aL,cL,eL,-⟩:=hL;obtain⟨aN,cN,eN,-⟩:=hN;obtain⟨aX,cX,eX,-⟩:=hX;obtain⟨aS,cS,eS,-⟩:=hS;obtain⟨aF,cF,eF,-⟩:=hF;obtain⟨aR,cR,eR,-⟩:=hR;simp only at eW eP eL eN eX eS eF eR;exact⟨aW,aP,aL,aN,aX,aS,aF,aR,cW,cP,cL,cN,cX,cS,cF,cR,by rw[eW,eP,eL,eN,eX,eS,eF,eR]⟩
theorem board_info:(Tryz.prog.info? 94).map (·.size)=some 8:=by kernel_rfl
theorem grown_row3 (w:World)(g:Nat)(cs:Array Value):w.grownBy (w.setRow g cs) (some g):=
 ⟨rfl,rfl,rfl,by simp,fun k _ hk=>by
  unfold World.setRow;have hk':k≠g:=fun e=>hk (by rw[e])
  rw[Array.getElem?_modify]
  simp[hk'.symm]⟩
theorem setRow_at (w:World)(g:Nat)(t:TypeId)(old cs:Array Value)(fr:Nat×Nat)(h:w.heap[g]? = some (.cells old t fr)):(w.setRow g cs).heap[g]? = some (.cells cs t fr):=setRow_heap w g old cs t fr h
theorem box_own (w:World){m:Nat}(hm:m≤w.heap.size):Rw.own (w.alloc (.cells #[nilS,nilS,nilS,nilS,nilS,nilS,nilS,nilS] 94)) m ⟨94,8,.slice (some ⟨w.heap.size,0,none⟩) 1 1,1,[nilS,nilS,nilS,nilS,nilS,nilS,nilS,nilS]⟩:=
 ⟨rfl,.inr ⟨w.heap.size,1,_,rfl,hm,heap_alloc_new w _,Nat.le_refl _,by unfold maxLen;decide,rfl,rfl⟩⟩
theorem box_put {w:World}{m D:Nat}{cs:List Value}{v:BV}(h:Rw.own w m ⟨94,8,.slice (some ⟨D,0,none⟩) 1 1,1,cs⟩):(∃old:Array Value,w.heap[D]? = some (.cells old 94 (0,0))∧old.size=8)∧(bdR D v).own (w.setRow D v.arr) m:=by
 rcases h.2 with ⟨e,_⟩|⟨g,cap,cur,e,hb,hg,hn,hm,hs,ht⟩
 · cases e
 ·
  simp only[Value.slice.injEq,Option.some.injEq,Addr.mk.injEq,and_true,true_and] at e;obtain⟨rfl,rfl⟩:=e;exact⟨⟨cur,hg,hs⟩,rfl,.inr ⟨D,1,v.arr,rfl,hb,setRow_at w D _ _ _ _ hg,Nat.le_refl _,hm,rfl,rfl⟩⟩
theorem Tryz.infoNl:(Tryz.prog.info? 180).map (fun i=>(i.zero,i.size,i.bytes))=some (some (.slice none 0 0),1,24):=by kernel_rfl
theorem Tryz.infoIl:(Tryz.prog.info? 25).map (fun i=>(i.zero,i.size,i.bytes))=some (some (.slice none 0 0),1,24):=by kernel_rfl
theorem own_base {w:World}{m m':Nat}{e:TypeId}{n:Nat}{v:Value}{k:Nat}{xs:List Value}(o:w.ownsRow m e n v k xs)(hm:m'≤m):w.ownsRow m' e n v k xs:=by
 refine⟨o.1,?_⟩;rcases o.2 with q|⟨g,cap,cur,e,hg,r⟩
 · exact .inl q
 · exact .inr ⟨g,cap,cur,e,Nat.le_trans hm hg,r⟩
theorem Tryz.infoDd:(Tryz.prog.info? 50).map (fun i=>(i.zero,i.size,i.bytes))=some (some (.agg #[.int .i64 0,.int .i64 0,.int .i64 0,.int .i64 0]),4,32):=by kernel_rfl
theorem Tryz.infoDl:(Tryz.prog.info? 45).map (fun i=>(i.zero,i.size,i.bytes))=some (some (.slice none 0 0),1,24):=by kernel_rfl
theorem dds_len (ds:List Dd):(ds.flatMap cD).length=ds.length*4:=by
 induction ds with
 |nil=>rfl
 |cons d r ih=>rw[List.flatMap_cons,List.length_append,ih,List.length_cons];simp[cD];omega
theorem dds_one (ds:List Dd):∀u∈ds.flatMap cD,u.oneCell'=true:=fun u hu=>by
 obtain⟨x,_,hx⟩:=List.mem_flatMap.1 hu;simp only[cD,List.mem_cons,List.not_mem_nil,or_false] at hx;rcases hx with rfl|rfl|rfl|rfl<;>rfl
theorem dds_cells {w:World}{b off:Nat}{ds:List Dd}(h:∀i,i<ds.length→AtD w b (off+i*4) (ds.getD i zD)):∀j u,(ds.flatMap cD)[j]? = some u→w.cell? ((⟨b,off,none⟩:Addr).add j)=some u:=fun j u hj=>by
 have hl:j<ds.length*4:=by rw[←dds_len];exact (List.getElem?_eq_some_iff.1 hj).1
 have hi:j / 4<ds.length:=by omega
 have hm:j % 4<4:=Nat.mod_lt _ (by omega);have e:j=j / 4*4+j % 4:=by omega
 have h1:=cD_at ds (j / 4) (j % 4) hi hm;rw[←e] at h1;rw[h1] at hj;have ea:(⟨b,off,none⟩:Addr).add j=⟨b,off+j / 4*4+j % 4,none⟩:=by rw[show off+j / 4*4+j % 4=off+j by omega];simp[Addr.add]
 rw[ea];obtain⟨a0,a1,a2,a3⟩:=h (j / 4) hi;have:j % 4=0∨j % 4=1∨j % 4=2∨j % 4=3:=by omega
 rcases this with q|q|q|q<;>rw[q] at hj ⊢<;>simp[cD] at hj<;>subst hj
 · exact a0
 · exact a1
 · exact a2
 · exact a3
theorem l5Copy_any (w:World)(v:Value)(dss:List (List Dd))(h:RdW w v dss)(hx:dss.length≤1048576)(hm:∀i,i<dss.length→(dss.getD i []).length≤1048576):
  Calls Tryz.prog 181 #[v] w fun e w'=>∃v',e = .returned v'∧RdX w' w.heap.size v' dss∧Keep w w':=by
 obtain⟨aD,cDd,rfl,h⟩:=h;obtain⟨i0,hi,hz0,hz1,hz2⟩:=info_parts Tryz.infoDd;obtain⟨j0,hj,hy0,hy1,hy2⟩:=info_parts Tryz.infoDl
 have hown0:AppX (w.alloc (.cells #[] 45)) w.heap.size (w.alloc (.cells #[] 45)).heap.size (.slice (some ⟨w.heap.size,0,none⟩) 0 0) (fun _=>vZ) (dss.take 0):=by
  rw[List.take_zero];exact⟨World.ownsRow_lit w #[] 0 (Nat.le_refl _) (by decide) rfl,fun k hk=>by simp[Value.ownBlock] at hk;subst hk;simp,fun i hi=>by simp at hi,fun i hi=>by simp at hi,fun i hi=>by simp at hi,fun i j _ hj=>by simp at hj⟩
 go_enter Tryz.func181,Tryz.ntmps181
 go_wp2;go_loopw [3,4] (fun v0 i wr=>∃(k:Nat) (v:Value) (V:Nat→Value),v=v0∧k≤dss.length∧i = .int .i64 k∧AppX wr w.heap.size wr.heap.size v V (dss.take k)∧Keep w wr) (fun _ i _=>dss.length-(intOf i).toNat)
 case atStart=>exact⟨0,_,_,rfl,Nat.zero_le _,rfl,hown0,(Keep.refl _).alloc _⟩
 case round=>
  obtain⟨k,v,V,rfl,hk,rfl,ho,hK⟩:=hrel;clear hown0;by_cases hlt:k<dss.length
  ·
   rcases h with h0|⟨b,off,rfl,hb,hc⟩
   · exfalso;rw[h0] at hlt;simp at hlt
   obtain⟨vi,d1,r1⟩:=hc k hlt;have d2:=(hK.cell hb).trans d1;have r2:=r1.keep hK;have hml:=hm k hlt
   have HT:Hid (dss.take (k+1)=dss.take k++[dss.getD k []]):=Lib.hid (by
    rw[List.take_add_one,List.getD_eq_getElem?_getD,List.getElem?_eq_getElem hlt];rfl)
   have hlen:(dss.take k).length=k:=by rw[List.length_take];omega
   generalize dss.getD k []=ds at *;obtain⟨ai,ci,rfl,r2⟩:=r2;have i1:(0:Int)≤(k:Int):=Int.natCast_nonneg _;have i2:(k:Int)<(dss.length:Int):=by omega
   have hsz:=hK.size;clear hc d1 r1;have OE:(wr.alloc (.cells #[] 50)).ownsRow wr.heap.size 50 4 (.slice (some ⟨wr.heap.size,0,none⟩) 0 0) 0 []:=World.ownsRow_lit wr #[] 0 (Nat.le_refl _) (by decide) rfl;have d3:(wr.alloc (.cells #[] 50)).cell? ⟨b,off+k,none⟩=some (.slice ai ds.length (ds.length+ci)):=(((Keep.refl wr).alloc _).cell (Nat.lt_of_lt_of_le hb hsz)).trans d2;rcases r2 with h0|⟨bd,od,rfl,hbd,hcd⟩
   ·
    subst h0
    cases ai with
    |none=>
     have OD:AppD (wr.alloc (.cells #[] 50)) wr.heap.size (.slice (some ⟨wr.heap.size,0,none⟩) 0 0) []:=OE;have k5:Keep wr (wr.alloc (.cells #[] 50)):=(Keep.refl wr).alloc _;have HX5:=(ho.keep k5).keep ((Keep.refl (wr.alloc (.cells #[] 50))).alloc (.cells #[.slice (some ⟨wr.heap.size,0,none⟩) 0 0] 45));have HR:=HX5.row;rw[hlen] at HR;have OD6:=OD.keep ((Keep.refl (wr.alloc (.cells #[] 50))).alloc (.cells #[.slice (some ⟨wr.heap.size,0,none⟩) 0 0] 45));have s5:=k5.size;go_wp2_with (at_builtin;refine wpList_append_own_at _ rfl _ _ 24 rfl w.heap.size 45 j0 (.slice none 0 0) 1 24 Tryz.underlying24 hj hy0 hy1 hy2 rfl (by decide) _ _ _ rfl HR ⟨_,0,none⟩ 1 1 [.slice (some ⟨wr.heap.size,0,none⟩) 0 0] rfl rfl ?e1 ?e2 ?e3 ?e4 ?e5 ?_)
     case e1=>
      intro j u hj
      match j,hj with
      | 0,hj=>simp at hj;subst hj;simp[Addr.add]
     case e2=>intro u hu;simp at hu;subst hu;rfl
     case e3=>unfold maxLen;omega
     case e4=>omega
     case e5=>simp;omega
     intro v' w7 hown7 hgrow7 _ hblk7;have HP:=HX5.push OD6 hsz (by rw[hlen];exact hown7) hgrow7 (by rw[heap_size,heap_size];exact hblk7) (by simp;omega);have K7:Keep w w7:=((hK.trans k5).alloc _).grown hgrow7 (fun k hk=>(World.ownsRow.lt HR k hk).1);clear hown7 hgrow7 hblk7 HR HX5 OD6;go_wp2;go_roundw;case rel=>exact⟨k+1,_,_,rfl,by omega,by go_num,by rw[HT.out];exact HP,K7⟩
     case measure=>simp[intOf];omega
    |some x=>
     go_wp2_with (at_builtin;refine wpList_append_own _ rfl _ _ 45 rfl wr.heap.size 50 i0 (.agg #[.int .i64 0,.int .i64 0,.int .i64 0,.int .i64 0]) 4 32 Tryz.underlying45 hi hz0 hz1 hz2 rfl (by decide) _ _ _ rfl OE x 0 ci [] rfl rfl ?c1 ?c2 ?c3 ?c4 ?c5 ?_)
     case c1=>intro j u hj;simp at hj
     case c2=>intro u hu;simp at hu
     case c3=>simp
     case c4=>simp
     case c5=>simp
     intro u w5 hown5 hgrow5 _;have OD:AppD w5 wr.heap.size u []:=by unfold AppD;simpa using hown5
     have k5:Keep wr w5:=((Keep.refl wr).alloc (.cells #[] 50)).grown hgrow5 (fun k hk=>(World.ownsRow.lt OE k hk).1);clear hown5 hgrow5;obtain⟨au,cu,hu⟩:∃a c,u = .slice a 0 c:=OD.shape;subst hu;have HX5:=(ho.keep k5).keep ((Keep.refl w5).alloc (.cells #[.slice au 0 cu] 45));have HR:=HX5.row;rw[hlen] at HR;have OD6:=OD.keep ((Keep.refl w5).alloc (.cells #[.slice au 0 cu] 45));have s5:=k5.size;go_wp2_with (at_builtin;refine wpList_append_own_at _ rfl _ _ 24 rfl w.heap.size 45 j0 (.slice none 0 0) 1 24 Tryz.underlying24 hj hy0 hy1 hy2 rfl (by decide) _ _ _ rfl HR ⟨_,0,none⟩ 1 1 [.slice au 0 cu] rfl rfl ?e1 ?e2 ?e3 ?e4 ?e5 ?_)
     case e1=>
      intro j u hj
      match j,hj with
      | 0,hj=>simp at hj;subst hj;simp[Addr.add]
     case e2=>intro u hu;simp at hu;subst hu;rfl
     case e3=>unfold maxLen;omega
     case e4=>omega
     case e5=>simp;omega
     intro v' w7 hown7 hgrow7 _ hblk7;have HP:=HX5.push OD6 hsz (by rw[hlen];exact hown7) hgrow7 (by rw[heap_size];exact hblk7) (by simp;omega);have K7:Keep w w7:=((hK.trans k5).alloc _).grown hgrow7 (fun k hk=>(World.ownsRow.lt HR k hk).1);clear hown7 hgrow7 hblk7 HR HX5 OD6;go_wp2;go_roundw;case rel=>exact⟨k+1,_,_,rfl,by omega,by go_num,by rw[HT.out];exact HP,K7⟩
     case measure=>simp[intOf];omega
   ·
    have NC:=dds_cells (w:=wr.alloc (.cells #[] 50)) (b:=bd) (off:=od) (ds:=ds) (fun i hi=>(hcd i hi).keep hbd ((Keep.refl wr).alloc _));go_wp2_with (at_builtin;refine wpList_append_own _ rfl _ _ 45 rfl wr.heap.size 50 i0 (.agg #[.int .i64 0,.int .i64 0,.int .i64 0,.int .i64 0]) 4 32 Tryz.underlying45 hi hz0 hz1 hz2 rfl (by decide) _ _ _ rfl OE ⟨bd,od,none⟩ ds.length (ds.length+ci) (ds.flatMap cD) rfl (dds_len ds) ?c1 ?c2 ?c3 ?c4 ?c5 ?_)
    case c1=>exact NC
    case c2=>exact dds_one ds
    case c3=>unfold maxLen;omega
    case c4=>omega
    case c5=>simp
    intro u w5 hown5 hgrow5 _;have OD:AppD w5 wr.heap.size u ds:=by unfold AppD;simpa using hown5
    have k5:Keep wr w5:=((Keep.refl wr).alloc (.cells #[] 50)).grown hgrow5 (fun k hk=>(World.ownsRow.lt OE k hk).1);clear hown5 hgrow5;obtain⟨au,cu,hu⟩:=OD.shape;subst hu;have HX5:=(ho.keep k5).keep ((Keep.refl w5).alloc (.cells #[.slice au ds.length cu] 45));have HR:=HX5.row;rw[hlen] at HR;have OD6:=OD.keep ((Keep.refl w5).alloc (.cells #[.slice au ds.length cu] 45));have s5:=k5.size;go_wp2_with (at_builtin;refine wpList_append_own_at _ rfl _ _ 24 rfl w.heap.size 45 j0 (.slice none 0 0) 1 24 Tryz.underlying24 hj hy0 hy1 hy2 rfl (by decide) _ _ _ rfl HR ⟨_,0,none⟩ 1 1 [.slice au ds.length cu] rfl rfl ?e1 ?e2 ?e3 ?e4 ?e5 ?_)
    case e1=>
     intro j u hj
     match j,hj with
     | 0,hj=>simp at hj;subst hj;simp[Addr.add]
    case e2=>intro u hu;simp at hu;subst hu;rfl
    case e3=>unfold maxLen;omega
    case e4=>omega
    case e5=>simp;omega
    intro v' w7 hown7 hgrow7 _ hblk7;have HP:=HX5.push OD6 hsz (by rw[hlen];exact hown7) hgrow7 (by rw[heap_size];exact hblk7) (by simp;omega);have K7:Keep w w7:=((hK.trans k5).alloc _).grown hgrow7 (fun k hk=>(World.ownsRow.lt HR k hk).1);clear hown7 hgrow7 hblk7 HR HX5 OD6;go_wp2;go_roundw;case rel=>exact⟨k+1,_,_,rfl,by omega,by go_num,by rw[HT.out];exact HP,K7⟩
    case measure=>simp[intOf];omega
  ·
   obtain rfl:k=dss.length:=by omega
   rw[List.take_length] at ho;go_wp2;go_ret;exact⟨_,rfl,ho.rdX,hK⟩
end Go.Proofs.YtgikcfdckddgpaaGreat
