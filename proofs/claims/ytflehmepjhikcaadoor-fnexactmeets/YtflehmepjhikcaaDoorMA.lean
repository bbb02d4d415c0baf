/- Gathered texts. -/
import Derived.Test.YtflehmepjhikcaaDoorRows
import Derived.Below
import Derived.ChangeShapes
import Derived.LaidLaws
import Derived.LaidHandle
import Derived.Stop.LaidErr
import Derived.WalkKit
import Derived.ProofKit
import Derived.Laws.BitsAllLaws
import Derived.Laws.BitsLemmas
import Derived.OpenShut
import Derived.WalkSmall
import Derived.Laws.Rows
import Derived.Laws.ResultCell
import Derived.Lib.IndexMore
import Derived.Lib.ParseIntB
import Derived.Lib.ItoaNum
import Derived.Lib.SmallJoins
import Derived.Maps.AppendAt
import Derived.Laws.OwnMore
import Derived.OwnWalk
import Derived.Deep.RegionHeld3
set_option maxRecDepth 100000
set_option maxHeartbeats 8000000
namespace Go.Proofs.YtflehmepjhikcaaDoor
open Go
open Go.ChangeShapes Go.RowKit
open Go.ChangeShapes Go.WideShapes Go.ChangeAt Go.RowKit
open Go.RowKit
theorem vars_len {H:Type}{enc:TypeId×Value→H}{P:Program}{w:World}{sp:Nat→Bool}:∀ {ns:List String} {gs:List (DataW H)} {q:List MemPlace},DataW.TrodVars enc P w sp ns gs q→ns.length=gs.length
 | [],[],_,_=>rfl
 |_::_,_::_,_,⟨_,_,_,_,_,_,_,_,_,_,hs,_⟩=>congrArg (·+1) (vars_len hs)
 | [],_::_,_,h=>False.elim h
 |_::_,[],_,h=>False.elim h
theorem trod_if {H:Type}{enc:TypeId×Value→H}{P:Program}{w w':World}{sp sp':Nat→Bool}{t:TypeId}{ms:Array (String×TypeId)}(hi:P.underlying t=some (.interface ms)):
  ∀ {fuel:Nat} {cs:List Value} {r:DataW H×List MemPlace},DataW.trod enc P w 0 sp true fuel t cs=some r→DataW.trod enc P w' 0 sp' true fuel t cs=some r
 | 0,_,_,h=>by simp[DataW.trod] at h
 |fuel+1,cs,r,h=>by
  unfold DataW.trod at h ⊢;rw[hi] at h ⊢;rcases cs with _|⟨x,_|⟨y,l⟩⟩
  · simp at h
  · cases x<;>simp_all
  · cases x<;>simp at h
theorem vars_below {H:Type}{enc:TypeId×Value→H}{P:Program}{w w':World}{sp sp':Nat→Bool}(hb:Below w.heap.size w w'):∀ {ns:List String} {gs:List (DataW H)} {q:List MemPlace},
  (∀n∈ns,∃g t ms,P.globalNamed n=some g∧(P.globals[g]?).map (·.type)=some t∧P.underlying t=some (.interface ms))→DataW.TrodVars enc P w sp ns gs q→DataW.TrodVars enc P w' sp' ns gs q
 | [],[],_,_,h=>h
 |n::_,_::_,_,hn,⟨g,t,cs,fuel,p,q,h1,h2,h3,h4,hs,e⟩=>by
  obtain⟨g',t',ms,e1,e2,e3⟩:=hn n (List.mem_cons_self ..);obtain rfl:=Option.some.inj (h1.symm.trans e1);obtain rfl:=Option.some.inj (h2.symm.trans e2);refine⟨g,t,cs,fuel,p,q,h1,h2,?_,trod_if e3 h4,vars_below hb (fun m hm=>hn m (List.mem_cons_of_mem _ hm)) hs,e⟩;unfold World.var? at h3 ⊢;rw[h1,Option.bind_some] at h3 ⊢
  have hlt:g<w.heap.size:=by
   rcases Nat.lt_or_ge g w.heap.size with h|h
   · exact h
   · rw[Array.getElem?_eq_none h] at h3;cases h3
  rw[hb.block g hlt];exact h3
 | [],_::_,_,_,h=>False.elim h
 |_::_,[],_,_,h=>False.elim h
theorem errRow (u : TypeId) (h : Tryd.prog.typeName? 3 u = some "*errors.errorString") : u = 173 := by
 have star : "*" ++ "errors.errorString" = "*errors.errorString" := by decide
 exact typeName_ptr_named (nm := "errors.errorString") (by rw [star]; kernel_rfl) (by kernel_rfl) (by decide) u (by rw [star]; exact h)
theorem sent_cell {r : List (String × DataW Unit)} {n : String} {text : List UInt8} {W : World} {g : Nat} (h : laidMet Tryd.prog ((n, .iface "*errors.errorString" (.ptr (.agg [.lit (.string text)]))) :: r) W)
  (hg:Tryd.prog.globalNamed n=some g) (ht:(Tryd.prog.globals[g]?).map (·.type)=some 55):∃a,W.cell? ⟨g,0,none⟩=some (.iface 173 (.pointer (some a))):=by
 obtain⟨a,s,hv,-,-,-⟩:=laid_sentinel h hg ht Tryd.underlying55 errRow Tryd.underlying173 Tryd.underlying194 rfl rfl Tryd.underlying9 (by kernel_rfl) (by kernel_rfl);exact⟨a,by simpa using World.var?_cell hg hv 0⟩
theorem ret_bool {a b:Bool}(h:a=b):Ending.returned (.bool a) = .returned (.bool b):=by rw[h]
theorem ret_int {k:IntKind}{a b:Int}(h:a=b):Ending.returned (.int k a) = .returned (.int k b):=by rw[h]
theorem ofInt_i64 (a:Nat)(ha:a<9223372036854775808):(BitVec.ofInt 64 (a:Int)).toNat=a:=ofInt_u64 a (by omega)
theorem i64_or_nat (a b:Nat)(ha:a<9223372036854775808)(hb:b<9223372036854775808):bits .or .i64 (a:Int) (b:Int)=((a ||| b:Nat):Int):=by
 have hx:a ||| b<2 ^ 63:=Nat.or_lt_two_pow (by omega) (by omega);show IntKind.i64.wrap ((BitVec.ofInt 64 (a:Int) ||| BitVec.ofInt 64 (b:Int)).toNat:Int)=_;rw[BitVec.toNat_or,ofInt_i64 a ha,ofInt_i64 b hb,IntKind.wrap_i64];omega
theorem i64_and_nat (a b:Nat)(ha:a<9223372036854775808)(hb:b<9223372036854775808):bits .and .i64 (a:Int) (b:Int)=((a &&& b:Nat):Int):=by
 have hx:a &&& b<2 ^ 63:=Nat.and_lt_two_pow _ (by omega);show IntKind.i64.wrap ((BitVec.ofInt 64 (a:Int) &&& BitVec.ofInt 64 (b:Int)).toNat:Int)=_;rw[BitVec.toNat_and,ofInt_i64 a ha,ofInt_i64 b hb,IntKind.wrap_i64];omega
theorem pow_le12 (n:Nat)(h:n≤12):(2:Int) ^ n≤4096∧(1:Int)≤2 ^ n:=by
 have:n=0∨n=1∨n=2∨n=3∨n=4∨n=5∨n=6∨n=7∨n=8∨n=9∨n=10∨n=11∨n=12:=by omega
 rcases this with rfl|rfl|rfl|rfl|rfl|rfl|rfl|rfl|rfl|rfl|rfl|rfl|rfl<;>decide
theorem wrap64_small (x:Int)(h1:-9223372036854775808≤x)(h2:x≤9223372036854775807):wrap64 x=x:=by
 simp only[wrap64];omega
theorem wrap64_pow (n:Int)(h0:0≤n)(h:n≤12):wrap64 (2 ^ n.toNat)=2 ^ n.toNat:=by
 have:=pow_le12 n.toNat (by omega);exact wrap64_small _ (by omega) (by omega)
def inB (x lo hi:Int):Bool:=decide (lo≤x∧x≤hi)
def okB (n s:Int):Bool:=decide ((0≤n∧n≤12)∧0≤s∧s<2 ^ n.toNat)
def bitB (s i:Int):Bool:=bits .and .i64 (s / 2 ^ i.toNat) 1==1
def inSetB (s i:Int):Bool:=inB i 0 11&&inB s 0 4095&&bitB s i
def gAdd (s i:Int):Int:=if s=-1∨inB i 0 11=false then -1 else bits .or .i64 s (wrap64 (2 ^ i.toNat))
theorem gAdd_bad (s i:Int)(h:inB i 0 11=false):gAdd s i=-1:=by simp[gAdd,h]
theorem gAdd_none (i:Int):gAdd (-1) i=-1:=by simp[gAdd]
theorem gAdd_ok (s i:Int)(h0:0≤s)(h:inB i 0 11=true):gAdd s i=bits .or .i64 s (wrap64 (2 ^ i.toNat)):=by
 have:¬s=-1:=by omega
 simp[gAdd,h,this]
theorem take_snoc (l:List Int)(k:Nat)(h:k<l.length):l.take (k+1)=l.take k++[l.getD k 0]:=by
 rw[List.take_succ_eq_append_getElem h,List.getD_eq_getElem?_getD,List.getElem?_eq_getElem h];rfl
def Keep (w w':World):Prop:=Below w.heap.size w w'
theorem Keep.refl (w:World):Keep w w:=Below.refl _ _
theorem Keep.size {w w':World}(h:Keep w w'):w.heap.size≤w'.heap.size:=Below.size h
theorem Keep.trans {a b c:World}(h:Keep a b)(k:Keep b c):Keep a c:=Below.trans h (Below.mono k h.size)
theorem Keep.drew {a w:World}(h:Keep a w):Keep a w.drew:=Below.drew h
theorem Keep.drewN {a w:World}(h:Keep a w)(n:Nat):Keep a (w.drewN n):=below_drewN h n
theorem Keep.alloc {a w:World}(h:Keep a w)(o:Obj):Keep a (w.alloc o):=Below.alloc h h.size o
theorem Keep.grown {a w w':World}{row:Option Nat}(h:Keep a w)(hg:w.grownBy w' row)(hr:∀k,row=some k→a.heap.size≤k):Keep a w':=Below.grown h hg h.size hr
theorem Keep.grownBy {w w':World}(h:Keep w w'):w.grownBy w' none:=⟨Below.os h,Below.tape h,Below.output h,Below.size h,fun k hk _=>Below.block h k hk⟩
theorem Keep.cell {w w':World}(h:Keep w w'){b o:Nat}(hb:b<w.heap.size):w'.cell? ⟨b,o,none⟩=w.cell? ⟨b,o,none⟩:=Below.cell h hb
theorem grown_trans {a b c:World}{row:Option Nat}(h:a.grownBy b row)(k:b.grownBy c row):a.grownBy c row:=
 ⟨k.os.trans h.os,k.tape.trans h.tape,k.output.trans h.output,Nat.le_trans h.size k.size,fun i hi hne=>(k.block i (Nat.lt_of_lt_of_le hi h.size) hne).trans (h.block i hi hne)⟩
def Rd (w:World)(v:Value)(zs:List Int):Prop:=
 ∃(a:Option Addr) (cap:Nat),v = .slice a zs.length cap ∧
  (zs=[]∨∃b off,a=some ⟨b,off,none⟩∧b<w.heap.size∧∀i,i<zs.length→w.cell? ⟨b,off+i,none⟩=some (.int .i64 (zs.getD i 0)))
theorem Rd.keep {w w':World}{v:Value}{zs:List Int}(h:Rd w v zs)(k:Keep w w'):Rd w' v zs:=by
 obtain⟨a,cap,hv,h⟩:=h;refine⟨a,cap,hv,?_⟩;rcases h with h|⟨b,off,ha,hb,hc⟩
 · exact .inl h
 · exact .inr ⟨b,off,ha,Nat.lt_of_lt_of_le hb k.size,fun i hi=>(k.cell hb).trans (hc i hi)⟩
def Own (w:World)(base:Nat)(v:Value)(zs:List Int):Prop:=w.ownsRow base 2 1 v zs.length (zs.map (Value.int .i64))
theorem Own.kept {w w':World}{base:Nat}{v:Value}{zs:List Int}{row:Option Nat}(h:Own w base v zs)(hg:w.grownBy w' row)(hne:v.ownBlock=none∨v.ownBlock≠row):Own w' base v zs:=
 World.ownsRow.kept h hg hne
theorem Own.keep {w w':World}{base:Nat}{v:Value}{zs:List Int}(h:Own w base v zs)(k:Keep w w'):Own w' base v zs:=
 Own.kept h k.grownBy (by cases v.ownBlock<;>simp)
theorem Own.rd {w:World}{base:Nat}{v:Value}{zs:List Int}(h:Own w base v zs):Rd w v zs:=by
 have hlt:=World.ownsRow.lt h;rcases h.2 with ⟨rfl,hn⟩|⟨g,cap,cur,rfl,hb,hg,rest⟩
 ·
  have:zs=[]:=List.eq_nil_of_length_eq_zero hn;subst this;exact⟨none,0,rfl,.inl rfl⟩
 ·
  refine⟨some ⟨g,0,none⟩,cap,rfl,.inr ⟨g,0,rfl,(hlt g rfl).2,fun i hi=>?_⟩⟩;have hc:=World.ownsRow.cellAt h i (by simpa using hi);rw[Nat.zero_add,hc,List.getElem?_map,List.getElem?_eq_getElem hi,List.getD_eq_getElem?_getD,List.getElem?_eq_getElem hi];rfl
theorem Own.base_le {w:World}{base base':Nat}{v:Value}{zs:List Int}(h:Own w base v zs)(hb:base'≤base):Own w base' v zs:=by
 refine⟨h.1,?_⟩;rcases h.2 with h|⟨g,cap,cur,hv,hg,rest⟩
 · exact .inl h
 · exact .inr ⟨g,cap,cur,hv,Nat.le_trans hb hg,rest⟩
theorem Own.ge {w:World}{base:Nat}{v:Value}{zs:List Int}(h:Own w base v zs):∀k,v.ownBlock=some k→base≤k:=fun k hk=>(World.ownsRow.lt h k hk).1
theorem Own.apart {w w':World}{base:Nat}{v v':Value}{zs zs':List Int}(h:Own w base v zs)(h':Own w' w.heap.size v' zs'):v.ownBlock=none∨v.ownBlock≠v'.ownBlock:=by
 cases hv:v.ownBlock with
 |none=>exact .inl rfl
 |some k=>
  refine .inr fun e=>?_
  have h1:=(World.ownsRow.lt h k hv).2;have h2:=h'.ge k e.symm;omega
theorem rd_of_row {w:World}{a:Option Addr}{len cap:Nat}{ys:List Int}
  (h:(a=none∧len=0∧cap=0∧ys=[])∨∃x,a=some x∧len≤cap∧cap≤maxLen∧ys.length=cap∧(∀i,i<ys.length→w.cell? (x.add i)=some (.int .i64 (ys.getD i 0)))∧∀n∈ys,(Lit.int .i64 n).wf=true):
  ∃zs:List Int,zs.length=len∧Rd w (.slice a len cap) zs:=by
 rcases h with ⟨rfl,rfl,rfl,rfl⟩|⟨x,rfl,hl,hm,hy,hc,_⟩
 · exact⟨[],rfl,none,0,rfl,.inl rfl⟩
 ·
  have hzl:(ys.take len).length=len:=by rw[List.length_take];omega
  refine⟨ys.take len,hzl,some x,cap,by rw[hzl],?_⟩;by_cases h0:len=0
  · left;subst h0;simp
  ·
   right;obtain⟨b,off,spot⟩:=x;have hc0:=hc 0 (by omega);have hspot:spot=none:=by simpa [Addr.add] using World.cell?_spot hc0
   subst hspot
   have hcc:∀i,i<(ys.take len).length→w.cell? ⟨b,off+i,none⟩=some (.int .i64 ((ys.take len).getD i 0)):=by
    intro i hi;have h1:=hc i (by omega);have e1:(⟨b,off,none⟩:Addr).add i=⟨b,off+i,none⟩:=by unfold Addr.add;split<;>simp_all
    rw[e1] at h1;rw[h1,List.getD_eq_getElem?_getD,List.getD_eq_getElem?_getD,List.getElem?_take,if_pos (by omega)]
   refine⟨b,off,rfl,?_,hcc⟩;have h2:=hcc 0 (by omega);apply Classical.byContradiction;intro hnb;have h3:w.heap[b]? = none:=by simp;omega
   simp[World.cell?,h3] at h2
theorem own_hit {w:World}{base:Nat}{v:Value}{zs:List Int}{x:Int}(h:w.ownsRow base 2 1 v (zs.length+1) (zs.map (Value.int .i64)++[.int .i64 x])):Own w base v (zs++[x]):=by
 unfold Own;simpa using h
theorem Tryd.infoI:(Tryd.prog.info? 2).map (fun i=>(i.zero,i.size,i.bytes))=some (some (.int .i64 0),1,8):=by kernel_rfl
theorem range_getD {α:Type}(f:Nat→α)(n i:Nat)(z:α)(h:i<n):((List.range n).map f).getD i z=f i:=by
 rw[List.getD_eq_getElem?_getD,List.getElem?_map,List.getElem?_range h];rfl
theorem plain_add {b o i:Nat}:(⟨b,o,none⟩:Addr).add i=⟨b,o+i,none⟩:=by unfold Addr.add;split<;>simp_all
theorem block_lt {w:World}{b o:Nat}{v:Value}(h:w.cell? ⟨b,o,none⟩=some v):b<w.heap.size:=by
 apply Classical.byContradiction;intro hn;have h3:w.heap[b]? = none:=by simp;omega
 simp[World.cell?,h3] at h
theorem heap_at (w:World)(A:Obj)(i:Nat):(w.alloc A).heap[i]? = if i=w.heap.size then some A else w.heap[i]?:=Array.getElem?_push
theorem heap_size (w:World)(A:Obj):(w.alloc A).heap.size=w.heap.size+1:=Array.size_push _
theorem heap_drew (w:World):w.drew.heap=w.heap:=rfl
theorem box_size {w w1:World}{o:Obj}(k:Keep (w.alloc o) w1):w.heap.size<w1.heap.size:=by
 have:=k.size;rw[heap_size] at this;omega
theorem box_cell {w w1:World}{cs:Array Value}{t:TypeId}(k:Keep (w.alloc (.cells cs t)) w1)(i:Nat):w1.cell? ⟨w.heap.size,i,none⟩=cs[i]?:=by
 rw[k.cell (by rw[heap_size];omega),cell_of_row (w.alloc (.cells cs t)) w.heap.size i cs t (0,0) (heap_alloc_new w _)]
theorem box_heap {w w1:World}{o:Obj}(k:Keep (w.alloc o) w1):w1.heap[w.heap.size]? = some o:=
 (Below.block k w.heap.size (by rw[heap_size];omega)).trans (heap_alloc_new w o)
theorem results_row {P:Program}{fn:Func}{p:Tmp}{ty:TypeId}(h:fn.results=#[.cell p ty])(tmps:Array Value)(w:World)(g:Nat)(t:TypeId)(cs:Array Value)(fr:Nat×Nat)(d:TypeDesc)
  (hp:tmps.getD p undef = .pointer (some ⟨g,0,none⟩)) (hg:w.heap[g]? = some (.cells cs t fr))
  (hu:P.underlying ty=some d) (hd:(match d with | .struct _ | .array _ _=>true|_=>false)=true) (hi:(P.info? ty).map (·.size)=some cs.size):
  (results fn tmps).run P w = .ok (.agg cs) w:=results_cell_row h tmps w g t cs fr d hp hg hu hd hi
theorem results_row2 {P:Program}{fn:Func}{p q:Tmp}{ty:TypeId}(h:fn.results=#[.cell p ty,.cell q ty])(tmps:Array Value)(w:World)(g g':Nat)(t t':TypeId)(cs cs':Array Value)(fr fr':Nat×Nat)(d:TypeDesc)
  (hp:tmps.getD p undef = .pointer (some ⟨g,0,none⟩)) (hg:w.heap[g]? = some (.cells cs t fr))
  (hq:tmps.getD q undef = .pointer (some ⟨g',0,none⟩)) (hg':w.heap[g']? = some (.cells cs' t' fr'))
  (hu:P.underlying ty=some d) (hd:(match d with | .struct _ | .array _ _=>true|_=>false)=true) (hi:(P.info? ty).map (·.size)=some cs.size) (hi':(P.info? ty).map (·.size)=some cs'.size):
  (results fn tmps).run P w = .ok (.tuple #[.agg cs,.agg cs']) w:=by
 have hp':tmps[p]?.getD undef = .pointer (some ⟨g,0,none⟩):=by simpa using hp
 have hq':tmps[q]?.getD undef = .pointer (some ⟨g',0,none⟩):=by simpa using hq
 simp[results,h,hp',hq',asAddr,run_loadVar_row w g t ty cs fr d hg hu hd hi,run_loadVar_row w g' t' ty cs' fr' d hg' hu hd hi']
def deedB (k p v g:Int):Bool:=
 decide ((1≤k∧k≤4)∧(0≤p∧p≤2)∧(0≤g∧g≤9)∧(k=4→p=0)∧(2<k→g=0)∧((k=2∨k=3)→1≤v∧v≤9)∧(¬(k=2∨k=3)→v=0))
abbrev Dd:=Int×Int×Int×Int
def zD:Dd:=(0,0,0,0)
def okD (d:Dd):Bool:=deedB d.1 d.2.1 d.2.2.1 d.2.2.2
def evD (d:Dd):Int:=if d.1=1 then 1 else if d.1=2 then 1 else if d.1=3 then 2 else 0
def evK (ds:List Dd):Nat→Int
 | 0=>0
 |k+1=>evK ds k+evD (ds.getD k zD)
def evW (dss:List (List Dd)):Nat→Int
 | 0=>0
 |i+1=>evW dss i+evK (dss.getD i []) (dss.getD i []).length
theorem evD_in (d:Dd):0≤evD d∧evD d≤2:=by
 unfold evD
 repeat' split
 all_goals omega
theorem evK_in (ds:List Dd):∀k:Nat,0≤evK ds k∧evK ds k≤2*k
 | 0=>by simp[evK]
 |k+1=>by have:=evK_in ds k;have:=evD_in (ds.getD k zD);rw[evK];omega
def grpK (i:Nat)(own:List Int)(ds:List Dd):Nat→Option (List Int)
 | 0=>some own
 |k+1=>match grpK i own ds k with
  |none=>none
  |some o=>
   if (ds.getD k zD).2.2.2=0 then some o
   else if o.getD (ds.getD k zD).2.2.2.toNat 0≠0∧(o.getD (ds.getD k zD).2.2.2.toNat 0≠(i:Int)+1∨k=0∨(ds.getD (k-1) zD).2.2.2≠(ds.getD k zD).2.2.2) then none
   else some (o.set (ds.getD k zD).2.2.2.toNat ((i:Int)+1))
def grpW (dss:List (List Dd)):Nat→Option (List Int)
 | 0=>some (List.replicate 10 0)
 |i+1=>match grpW dss i with
  |none=>none
  |some o=>grpK i o (dss.getD i []) (dss.getD i []).length
def grpB (dss:List (List Dd)):Bool:=(grpW dss dss.length).isSome
def lenW:List (List Dd)→Nat
 | []=>0
 |d::r=>d.length+lenW r
def okL (ds:List Dd):Bool:=ds.all okD&&decide (ds.length≤5)
def workB (dss:List (List Dd)):Bool:=
 decide (1≤dss.length∧dss.length≤3)&&dss.all okL&&decide (lenW dss≤12)&&decide (evW dss dss.length≤6)&&grpB dss
theorem grpK_none {i:Nat}{own:List Int}{ds:List Dd}{k:Nat}(h:grpK i own ds k=none):∀n:Nat,k≤n→grpK i own ds n=none
 | 0,hn=>by
  obtain rfl:k=0:=by omega
  exact h
 |n+1,hn=>by
  by_cases e:k=n+1
  · rw[←e];exact h
  · rw[grpK,grpK_none h n (by omega)]
theorem grpW_none {dss:List (List Dd)}{i:Nat}(h:grpW dss i=none):∀n:Nat,i≤n→grpW dss n=none
 | 0,hn=>by
  obtain rfl:i=0:=by omega
  exact h
 |n+1,hn=>by
  by_cases e:i=n+1
  · rw[←e];exact h
  · rw[grpW,grpW_none h n (by omega)]
theorem grpK_len {i:Nat}{own:List Int}{ds:List Dd}:∀ {k:Nat} {o:List Int},grpK i own ds k=some o→o.length=own.length
 | 0,o,h=>by simp only[grpK,Option.some.injEq] at h;rw[←h]
 |k+1,o,h=>by
  rw[grpK] at h;split at h
  · cases h
  ·
   rename_i o' ho';have ih:=grpK_len ho';split at h
   · simp only[Option.some.injEq] at h;rw[←h];exact ih
   ·
    split at h
    · cases h
    · simp only[Option.some.injEq] at h;rw[←h,List.length_set];exact ih
theorem grpW_len {dss:List (List Dd)}:∀ {i:Nat} {o:List Int},grpW dss i=some o→o.length=10
 | 0,o,h=>by simp only[grpW,Option.some.injEq] at h;rw[←h];simp
 |i+1,o,h=>by
  rw[grpW] at h;split at h
  · cases h
  ·
   rename_i o' ho';rw[grpK_len h];exact grpW_len ho'
theorem all_get {α:Type}{f:α→Bool}{l:List α}(z:α)(h:l.all f=true)(i:Nat)(hi:i<l.length):f (l.getD i z)=true:=by
 rw[List.getD_eq_getElem?_getD,List.getElem?_eq_getElem hi];exact List.all_eq_true.1 h _ (List.getElem_mem hi)
theorem all_of {α:Type}{f:α→Bool}{l:List α}(z:α)(h:∀i,i<l.length→f (l.getD i z)=true):l.all f=true:=by
 rw[List.all_eq_true];intro x hx;obtain⟨i,hi,rfl⟩:=List.getElem_of_mem hx;have:=h i hi
 rwa [List.getD_eq_getElem?_getD,List.getElem?_eq_getElem hi] at this
theorem all_not {α:Type}{f:α→Bool}{l:List α}(z:α)(i:Nat)(hi:i<l.length)(h:f (l.getD i z)=false):l.all f=false:=by
 cases hb:l.all f
 · rfl
 · rw[all_get z hb i hi] at h;cases h
section
section
variable {H:Type} {enc:TypeId×Value→H} {w:World} {base:Nat} {held:Bool}
theorem open_num1 {n:Nat}{v:Value}{y:DataW H×List MemPlace}(h:DataW.trod enc Tryd.prog w base (fun _=>true) held n 25 [v]=some y):∃f:List Int,Rd w v f∧f.length≤maxLen:=by
 obtain⟨d,p⟩:=y;rcases open_ints Tryd.underlying25 Tryd.underlying2 (by kernel_rfl) h with ⟨hcs,_⟩|⟨x,l,c,zs,hcs,_,hl,hm,hz,_,hcell,hwz⟩
 ·
  simp at hcs;subst hcs;exact⟨[],⟨none,0,rfl,.inl rfl⟩,by simp⟩
 ·
  simp at hcs;subst hcs;obtain⟨f,hfl,hr⟩:=rd_of_row (w:=w) (a:=some x) (len:=l) (cap:=c) (ys:=zs) (.inr ⟨x,rfl,hl,hm,by simpa using hz,hcell,hwz⟩);exact⟨f,hr,by omega⟩
end
end
section
section
variable {H:Type} {enc:TypeId×Value→H} {w:World} {base:Nat} {held:Bool}
theorem open_ask {r:Reach}{b0:Nat}{v:Value}{d:DataW H}{p:List MemPlace}(hv:Value.okWide Tryd.prog w r b0 34 v)(h:DataW.Trod enc Tryd.prog w base (fun _=>true) held 34 v d p):
  ∃(vF vR:Value) (f rows:List Int),v = .agg #[vF,vR]∧Rd w vF f∧Rd w vR rows∧f.length≤maxLen∧rows.length≤maxLen:=by
 obtain⟨c0,c1,y0,y1,n,rfl,_,_,e0,e1⟩:=Joins.open_agg2 Tryd.underlying34 (by kernel_rfl) (by kernel_rfl) hv h;obtain⟨f,hf,lf⟩:=open_num1 e0;obtain⟨rows,hr,lr⟩:=open_num1 e1;exact⟨c0,c1,f,rows,rfl,hf,hr,lf,lr⟩
end
end
abbrev Ev:=Int×Int×Bool×Int×Int×Int
def zE:Ev:=(0,0,false,0,0,0)
def csE (e:Ev):Int:=e.2.2.2.2.2
def evBeg:List Ev:=[(-1,-1,false,0,0,0),(-1,-1,false,1,0,1),(-1,-1,false,2,0,2)]
def oneE (i k:Nat)(d:Dd)(c:Int):List Ev:=
 if d.1=4 then [] else if d.1=3 then [((i:Int),(k:Int),true,d.2.1,0,c),((i:Int),(k:Int),false,d.2.1,d.2.2.1,c)]
 else if d.1=2 then [((i:Int),(k:Int),false,d.2.1,d.2.2.1,c)] else [((i:Int),(k:Int),true,d.2.1,0,c)]
def fstE (g:Int)(at0:Nat)(f:List Int):List Int:=if 0<g∧f.getD g.toNat 0=0 then f.set g.toNat (at0:Int) else f
def clsE (g:Int)(at0:Nat)(f:List Int):Int:=if 0<g then (fstE g at0 f).getD g.toNat 0 else (at0:Int)
def stepE (i k:Nat)(d:Dd)(s:List Ev×List Int):List Ev×List Int:=
 if d.1=4 then s else (s.1++oneE i k d (clsE d.2.2.2 s.1.length s.2),fstE d.2.2.2 s.1.length s.2)
def clkE (i:Nat)(ds:List Dd)(out:List Ev):Nat→List Ev×List Int
 | 0=>(out,List.replicate 10 0)
 |k+1=>stepE i k (ds.getD k zD) (clkE i ds out k)
def evsW (dss:List (List Dd)):Nat→List Ev
 | 0=>evBeg
 |i+1=>(clkE i (dss.getD i []) (evsW dss i) (dss.getD i []).length).1
def eventsB (dss:List (List Dd)):List Ev:=if workB dss=true then evsW dss dss.length else []
theorem oneE_len (i k:Nat)(d:Dd)(c:Int)(h:d.1=1∨d.1=2∨d.1=3∨d.1=4):((oneE i k d c).length:Int)=evD d:=by
 unfold oneE evD;rcases h with h|h|h|h<;>simp[h]
theorem okD_kindE {d:Dd}(h:okD d=true):d.1=1∨d.1=2∨d.1=3∨d.1=4:=by
 simp[okD,deedB] at h;omega
theorem okD_restE {d:Dd}(h:okD d=true):0≤d.2.1∧d.2.1≤2∧0≤d.2.2.2∧d.2.2.2≤9∧(2<d.1→d.2.2.2=0):=by
 simp[okD,deedB] at h;omega
theorem clkE_len {i:Nat}{ds:List Dd}{out:List Ev}(hok:∀j,j<ds.length→okD (ds.getD j zD)=true):∀k:Nat,k≤ds.length→((clkE i ds out k).1.length:Int)=out.length+evK ds k
 | 0,_=>by simp[clkE,evK]
 |k+1,h=>by
  have ih:=clkE_len (i:=i) (out:=out) hok k (by omega);have hk:=okD_kindE (hok k (by omega));rw[clkE,stepE,evK];split
  ·
   rename_i h4;rw[ih];unfold evD;rw[h4];simp
  ·
   have:=oneE_len i k (ds.getD k zD) (clsE (ds.getD k zD).2.2.2 (clkE i ds out k).1.length (clkE i ds out k).2) hk;rw[List.length_append];omega
theorem evsW_len {dss:List (List Dd)}(hok:∀i,i<dss.length→okL (dss.getD i [])=true):∀n:Nat,n≤dss.length→((evsW dss n).length:Int)=3+evW dss n
 | 0,_=>by simp[evsW,evBeg,evW]
 |n+1,h=>by
  have ih:=evsW_len hok n (by omega);have hn:=hok n (by omega);simp only[okL,Bool.and_eq_true,decide_eq_true_eq] at hn;rw[evsW,clkE_len (fun j hj=>all_get zD hn.1 j hj) _ (Nat.le_refl _),ih,evW];omega
def GoodE (dss:List (List Dd))(out:List Ev)(j:Nat):Prop:=
 ∃(i k c:Nat) (rd:Bool) (vl:Int),out[j]? = some ((i:Int),(k:Int),rd,((dss.getD i []).getD k zD).2.1,vl,(c:Int))∧i<dss.length∧k<(dss.getD i []).length ∧
  (rd=true→vl=0)∧(rd=false→vl=((dss.getD i []).getD k zD).2.2.1)∧c≤j ∧
  ∃(k':Nat) (rd':Bool) (pl' vl':Int),out[c]? = some ((i:Int),(k':Int),rd',pl',vl',(c:Int))∧k'<(dss.getD i []).length ∧
   (c≠j→((dss.getD i []).getD k zD).1≠3→((dss.getD i []).getD k zD).2.2.2≠0∧((dss.getD i []).getD k' zD).2.2.2=((dss.getD i []).getD k zD).2.2.2)
theorem at_left {α:Type}{l:List α}{j:Nat}{x:α}(t:List α)(h:l[j]? = some x):(l++t)[j]? = some x:=by
 rw[List.getElem?_append_left (List.getElem?_eq_some_iff.1 h).1];exact h
theorem GoodE.more {dss:List (List Dd)}{out:List Ev}{j:Nat}(h:GoodE dss out j)(t:List Ev):GoodE dss (out++t) j:=by
 obtain⟨i,k,c,rd,vl,h1,h2,h3,h4,h5,h6,k',rd',pl',vl',g1,g2,g3⟩:=h;exact⟨i,k,c,rd,vl,at_left t h1,h2,h3,h4,h5,h6,k',rd',pl',vl',at_left t g1,g2,g3⟩
theorem getD_setE (o:List Int)(g:Nat)(x:Int)(j:Nat)(hg:g<o.length):(o.set g x).getD j 0=if g=j then x else o.getD j 0:=by
 rw[List.getD_eq_getElem?_getD,List.getElem?_set];by_cases e:g=j
 · subst e;rw[if_pos rfl,if_pos hg,if_pos rfl];rfl
 · rw[if_neg e,if_neg e,List.getD_eq_getElem?_getD]
def rdE (e:Ev):Bool:=e.2.2.1
def idxK (f:Ev→Bool)(l:List Ev):Nat→List Int
 | 0=>[]
 |k+1=>if f (l.getD k zE)=true then idxK f l k++[(k:Int)] else idxK f l k
def idxB (f:Ev→Bool)(l:List Ev):List Int:=if l.length≤12 then idxK f l l.length else []
theorem idxK_len (f:Ev→Bool)(l:List Ev):∀k:Nat,(idxK f l k).length≤k
 | 0=>by simp[idxK]
 |k+1=>by
  have ih:=idxK_len f l k;rw[idxK];split
  · simp;omega
  · omega
section
section
variable {α:Type} {cf:α→List Value} {n:Nat}
def AtT (cf:α→List Value)(w:World)(b o:Nat)(x:α):Prop:=∀m u,(cf x)[m]? = some u→w.cell? ⟨b,o+m,none⟩=some u
def RdT (cf:α→List Value)(n:Nat)(w:World)(v:Value)(xs:List α):Prop:=
 ∃(a:Option Addr) (cap:Nat),v = .slice a xs.length (xs.length+cap) ∧
  (xs=[]∨∃b off,a=some ⟨b,off,none⟩∧b<w.heap.size∧∀i x,xs[i]? = some x→AtT cf w b (off+i*n) x)
theorem AtT.same {w w':World}{b o:Nat}{x:α}(h:AtT cf w b o x)(hh:w'.heap[b]? = w.heap[b]?):AtT cf w' b o x:=
 fun m u hm=>by
  have:=h m u hm;simp only[World.cell?,hh] at this ⊢;exact this
theorem AtT.keep {w w':World}{b o:Nat}{x:α}(h:AtT cf w b o x)(hb:b<w.heap.size)(k:Keep w w'):AtT cf w' b o x:=h.same (Below.block k b hb)
theorem RdT.keep {w w':World}{v:Value}{xs:List α}(h:RdT cf n w v xs)(k:Keep w w'):RdT cf n w' v xs:=by
 obtain⟨a,cap,hv,h⟩:=h;refine⟨a,cap,hv,?_⟩;rcases h with h|⟨b,off,ha,hb,hc⟩
 · exact .inl h
 · exact .inr ⟨b,off,ha,Nat.lt_of_lt_of_le hb k.size,fun i x hx=>(hc i x hx).keep hb k⟩
def AppT (cf:α→List Value)(e:TypeId)(n:Nat)(w:World)(base:Nat)(v:Value)(xs:List α):Prop:=w.ownsRow base e n v xs.length (xs.flatMap cf)
variable {e:TypeId}
theorem AppT.keep {w w':World}{base:Nat}{v:Value}{xs:List α}(h:AppT cf e n w base v xs)(k:Keep w w'):AppT cf e n w' base v xs:=
 World.ownsRow.kept h k.grownBy (by cases v.ownBlock<;>simp)
theorem AppT.kept {w w':World}{base:Nat}{v:Value}{xs:List α}{row:Option Nat}(h:AppT cf e n w base v xs)(hg:w.grownBy w' row)(hne:v.ownBlock=none∨v.ownBlock≠row):AppT cf e n w' base v xs:=
 World.ownsRow.kept h hg hne
theorem AppT.lt {w:World}{base:Nat}{v:Value}{xs:List α}(h:AppT cf e n w base v xs):∀k,v.ownBlock=some k→base≤k∧k<w.heap.size:=World.ownsRow.lt h
theorem AppT.ge {w:World}{base:Nat}{v:Value}{xs:List α}(h:AppT cf e n w base v xs):∀k,v.ownBlock=some k→base≤k:=fun k hk=>(h.lt k hk).1
theorem appT_hit {w:World}{base:Nat}{v:Value}{xs:List α}{x:α}(h:w.ownsRow base e n v (xs.length+1) (xs.flatMap cf++cf x)):AppT cf e n w base v (xs++[x]):=by
 unfold AppT;rw[List.flatMap_append];simpa using h
theorem appT_empty (w:World):AppT cf e n (w.alloc (.cells #[] e)) w.heap.size (.slice (some ⟨w.heap.size,0,none⟩) 0 0) []:=
 World.ownsRow_lit w #[] 0 (Nat.le_refl _) (by decide) (by simp)
theorem flat_at (hn:∀x,(cf x).length=n):∀(xs:List α) (i:Nat) (x:α) (m:Nat),xs[i]? = some x→m<n→(xs.flatMap cf)[i*n+m]? = (cf x)[m]?
 | [],i,x,m,h,_=>by simp at h
 |y::r,0,x,m,h,hm=>by
  simp at h;subst h;rw[List.flatMap_cons,List.getElem?_append_left (by rw[hn];omega)];simp
 |y::r,i+1,x,m,h,hm=>by
  have ih:=flat_at hn r i x m (by simpa using h) hm;have e1:(i+1)*n+m=n+(i*n+m):=by rw[Nat.add_mul];omega
  rw[List.flatMap_cons,List.getElem?_append_right (by rw[hn];omega),hn,e1,Nat.add_sub_cancel_left,ih]
theorem AppT.shape {w:World}{base:Nat}{v:Value}{xs:List α}(h:AppT cf e n w base v xs):∃a c,v = .slice a xs.length c:=by
 rcases h.2 with ⟨rfl,hz⟩|⟨g,cap,cur,rfl,_⟩
 · exact⟨none,0,by rw[hz]⟩
 · exact⟨_,_,rfl⟩
theorem AppT.rd (hn:∀x,(cf x).length=n){w:World}{base:Nat}{v:Value}{xs:List α}(h:AppT cf e n w base v xs):RdT cf n w v xs:=by
 have h2:=h;have hlt:=h.lt;rcases h.2 with ⟨rfl,hz⟩|⟨g,cap,cur,rfl,hb,hg,hcap,_,hs,_⟩
 ·
  have:xs=[]:=List.eq_nil_of_length_eq_zero hz;subst this;exact⟨none,0,rfl,.inl rfl⟩
 ·
  obtain⟨x,rfl⟩:∃x,cap=xs.length+x:=⟨cap-xs.length,by omega⟩;refine⟨_,x,rfl,.inr ⟨g,0,rfl,(hlt g rfl).2,fun i y hy m u hm=>?_⟩⟩;have hi:i<xs.length:=(List.getElem?_eq_some_iff.1 hy).1;have hmn:m<n:=by have:=(List.getElem?_eq_some_iff.1 hm).1;rw[hn] at this;exact this
  have hb2:i*n+m<xs.length*n:=by
   have h3:(i+1)*n≤xs.length*n:=Nat.mul_le_mul_right n hi;rw[Nat.add_mul] at h3;omega
  rw[Nat.zero_add,World.ownsRow.cellAt h2 (i*n+m) hb2,flat_at hn xs i y m hy hmn];exact hm
end
end
def cE (e:Ev):List Value:=[.int .i64 e.1,.int .i64 e.2.1,.bool e.2.2.1,.int .i64 e.2.2.2.1,.int .i64 e.2.2.2.2.1,.int .i64 e.2.2.2.2.2]
theorem cE_len (e:Ev):(cE e).length=6:=rfl
theorem Tryd.infoE:(Tryd.prog.info? 99).map (fun i=>(i.zero,i.size,i.bytes))=some (some (.agg #[.int .i64 0,.int .i64 0,.bool false,.int .i64 0,.int .i64 0,.int .i64 0]),6,48):=by kernel_rfl
abbrev RdE (w:World)(v:Value)(es:List Ev):Prop:=RdT cE 6 w v es
abbrev AppE (w:World)(base:Nat)(v:Value)(es:List Ev):Prop:=AppT cE 99 6 w base v es
theorem atE {w:World}{b o:Nat}{x0 x1:Int}{r:Bool}{x3 x4 x5:Int}(h:AtT cE w b o (x0,x1,r,x3,x4,x5)):
  w.cell? ⟨b,o,none⟩=some (.int .i64 x0)∧w.cell? ⟨b,o+1,none⟩=some (.int .i64 x1)∧w.cell? ⟨b,o+2,none⟩=some (.bool r)∧w.cell? ⟨b,o+3,none⟩=some (.int .i64 x3)∧w.cell? ⟨b,o+4,none⟩=some (.int .i64 x4)∧w.cell? ⟨b,o+5,none⟩=some (.int .i64 x5):=
 ⟨h 0 _ rfl,h 1 _ rfl,h 2 _ rfl,h 3 _ rfl,h 4 _ rfl,h 5 _ rfl⟩
theorem AppE.rd {w:World}{base:Nat}{v:Value}{es:List Ev}(h:AppE w base v es):RdE w v es:=AppT.rd cE_len h
theorem evs_get {es:List Ev}{i:Nat}(h:i<es.length):es[i]? = some (es.getD i zE):=by
 rw[List.getD_eq_getElem?_getD,List.getElem?_eq_getElem h];rfl
theorem idxB_len (f:Ev→Bool)(es:List Ev):(idxB f es).length≤12:=by
 unfold idxB;split
 · have:=idxK_len f es es.length;omega
 · simp
def nRd (dss:List (List Dd)):Int:=(idxB rdE (evsW dss dss.length)).length
theorem nRd_in (dss:List (List Dd)):0≤nRd dss∧nRd dss≤12:=by have:=idxB_len rdE (evsW dss dss.length);unfold nRd;omega
def keyB (n reads:Int):Bool:=inB n 0 (reads-1)||inB n 100 102
def askP (reads:Int)(rs vs:List Int):Nat→Bool
 | 0=>true
 |k+1=>askP reads rs vs k&&(keyB (rs.getD k 0) reads&&inB (vs.getD k 0) 0 9)
def okA (reads:Int)(rs vs:List Int):Bool:=(decide (rs.length≤6)&&decide (rs.length=vs.length))&&askP reads rs vs rs.length
def askB (dss:List (List Dd))(rs vs:List Int):Bool:=workB dss&&okA (nRd dss) rs vs
theorem askP_off {reads:Int}{rs vs:List Int}{k n:Nat}(h:askP reads rs vs k=false)(hk:k≤n):askP reads rs vs n=false:=by
 induction n with
 |zero=>
  obtain rfl:k=0:=by omega
  exact h
 |succ n ih=>
  by_cases e:k=n+1
  · rw[←e];exact h
  ·
   show (askP reads rs vs n&&_)=false;rw[ih (by omega),Bool.false_and]
theorem askP_at {reads:Int}{rs vs:List Int}{n:Nat}(h:askP reads rs vs n=true){i:Nat}(hi:i<n):keyB (rs.getD i 0) reads=true∧inB (vs.getD i 0) 0 9=true:=by
 induction n with
 |zero=>omega
 |succ n ih=>
  have h':(askP reads rs vs n&&(keyB (rs.getD n 0) reads&&inB (vs.getD n 0) 0 9))=true:=h;simp only[Bool.and_eq_true] at h';by_cases e:i=n
  · subst e;exact h'.2
  · exact ih h'.1 (by omega)
theorem okA_use {reads:Int}{rs vs:List Int}(h:okA reads rs vs=true):rs.length≤6∧rs.length=vs.length∧∀i,i<rs.length→keyB (rs.getD i 0) reads=true∧inB (vs.getD i 0) 0 9=true:=by
 unfold okA at h;simp only[Bool.and_eq_true,decide_eq_true_eq] at h;exact⟨h.1.1,h.1.2,fun i hi=>askP_at h.2 hi⟩
def atAk (n:Nat)(r:Int):Int:=if 100≤r then (n:Int)-3+r-100 else r
def meetP (rs vs one:List Int):Nat→Bool
 | 0=>true
 |k+1=>meetP rs vs one k&&decide (one.getD (atAk one.length (rs.getD k 0)).toNat 0=vs.getD k 0)
def meetA (rs vs one:List Int):Bool:=meetP rs vs one rs.length
def meetsB (dss:List (List Dd))(rs vs one:List Int):Bool:=(askB dss rs vs&&decide ((one.length:Int)=nRd dss+3))&&meetA rs vs one
theorem meetP_off {rs vs one:List Int}{k n:Nat}(h:meetP rs vs one k=false)(hk:k≤n):meetP rs vs one n=false:=by
 induction n with
 |zero=>
  obtain rfl:k=0:=by omega
  exact h
 |succ n ih=>
  by_cases e:k=n+1
  · rw[←e];exact h
  ·
   show (meetP rs vs one n&&_)=false;rw[ih (by omega),Bool.false_and]
theorem atAk_in {reads:Int}{n:Nat}{r:Int}(h:keyB r reads=true)(hn:(n:Int)=reads+3)(h0:0≤reads)(h1:reads≤12):0≤atAk n r∧atAk n r<(n:Int):=by
 unfold keyB inB at h;simp only[Bool.or_eq_true,decide_eq_true_eq] at h;unfold atAk;split<;>omega
theorem key_in {reads r:Int}(h:keyB r reads=true)(h0:0≤reads)(h1:reads≤12):0≤r∧r≤102:=by
 unfold keyB inB at h;simp only[Bool.or_eq_true,decide_eq_true_eq] at h;omega
abbrev nilVK:Value:= .slice none 0 0
abbrev askC (x y:Value):Obj:= .cells #[x,y] 27
def StK (w1 wr:World)(D:Nat)(x y:Value):Prop:=wr.heap[D]? = some (askC x y)∧w1.grownBy wr (some D)
theorem StK.start {w1:World}(x y:Value):StK w1 (w1.alloc (askC x y)) w1.heap.size x y:=
 ⟨heap_alloc_new w1 _,World.grownBy_alloc w1 _ (some w1.heap.size)⟩
theorem StK.size {w1 wr:World}{D:Nat}{x y:Value}(h:StK w1 wr D x y):D<wr.heap.size:=(Array.getElem?_eq_some_iff.1 h.1).1
theorem StK.keep {w1 wr wr':World}{D:Nat}{x y:Value}(h:StK w1 wr D x y)(hk:Keep wr wr'):StK w1 wr' D x y:=
 ⟨(Below.block hk D h.size).trans h.1,grown_trans h.2 ⟨Below.os hk,Below.tape hk,Below.output hk,Below.size hk,fun i hi _=>Below.block hk i hi⟩⟩
theorem StK.cells {w1 wr:World}{D:Nat}{x y:Value}(h:StK w1 wr D x y):
  wr.cell? ⟨D,0,none⟩=some x∧wr.cell? ⟨D,1,none⟩=some y:=
 ⟨cell_of_row wr D 0 _ _ (0,0) h.1,cell_of_row wr D 1 _ _ (0,0) h.1⟩
theorem StK.free {w1 wr:World}{D:Nat}{x y:Value}(h:StK w1 wr D x y)(i:Nat):wr.frozen? ⟨D,i,none⟩=false:=frozen_of_row wr D i _ _ h.1
theorem StK.set0 {w1 wr:World}{D:Nat}{x y:Value}(h:StK w1 wr D x y)(z:Value):StK w1 (wr.setCell ⟨D,0,none⟩ z) D z y:=
 ⟨by rw[heap_setCell_same wr D 0 _ _ _ h.1];rfl,grown_trans h.2 ⟨rfl,rfl,rfl,by simp,fun i _ hi=>heap_setCell_other wr ⟨D,0,none⟩ i _ (fun e=>hi (by simp[e]))⟩⟩
theorem StK.set1 {w1 wr:World}{D:Nat}{x y:Value}(h:StK w1 wr D x y)(z:Value):StK w1 (wr.setCell ⟨D,1,none⟩ z) D x z:=
 ⟨by rw[heap_setCell_same wr D 1 _ _ _ h.1];rfl,grown_trans h.2 ⟨rfl,rfl,rfl,by simp,fun i _ hi=>heap_setCell_other wr ⟨D,1,none⟩ i _ (fun e=>hi (by simp[e]))⟩⟩
theorem StK.keep1 {w1 wr:World}{x y:Value}(h:StK w1 wr w1.heap.size x y):Keep w1 wr:=
 (Keep.refl w1).grown h.2 (fun k hk=>by simp at hk;omega)
theorem grown_setTK (w:World)(g j:Nat)(v:Value):w.grownBy (w.setCell ⟨g,j,none⟩ v) (some g):=
 ⟨rfl,rfl,rfl,by simp,fun i _ hi=>heap_setCell_other w ⟨g,j,none⟩ i _ (fun e=>hi (by simp[e]))⟩
theorem Own.otherK {wr wr':World}{base D:Nat}{v:Value}{zs:List Int}(h:Own wr base v zs)(hb:D<base)(hg:wr.grownBy wr' (some D)):Own wr' base v zs:=
 h.kept hg (by
  cases hu:v.ownBlock with
  |none=>exact .inl rfl
  |some k=>exact .inr (fun e=>by have:=h.ge k hu;have:=Option.some.inj e;omega))
abbrev erV (a:Addr):Value:= .iface 173 (.pointer (some a))
abbrev rfV (s:ByteArray)(y:Value):Value:= .iface 78 (.agg #[.string s,y])
def NoAsk (w:World)(a:Addr):Prop:=w.cell? ⟨0,0,none⟩=some (erV a)
theorem NoAsk.out {w:World}{a:Addr}(h:NoAsk w a):w.cell? ⟨0,0,none⟩=some (erV a):=h
theorem NoAsk.keep {w w':World}{a:Addr}(h:NoAsk w a)(k:Keep w w'):NoAsk w' a:=(k.cell (World.block_lt_of_cell? w ⟨0,0,none⟩ h)).trans h
def RefV (a:Addr)(t:Bool)(v:Value):Prop:=(t=true∧v = .nilIface)∨(t=false∧∃s,v=rfV s (erV a))
theorem RefV.no {a:Addr}{v:Value}(h:RefV a false v):∃s,v=rfV s (erV a):=h.elim (fun q=>by cases q.1) (fun q=>q.2)
theorem RefV.yes {a:Addr}{v:Value}(h:RefV a true v):v = .nilIface:=h.elim (fun q=>q.2) (fun q=>by cases q.1)
theorem bitB_nat (a i:Nat)(ha:a<4096):bitB (a:Int) (i:Int)=a.testBit i:=by
 unfold bitB;have hd:a / 2 ^ i≤a:=Nat.div_le_self _ _;have e:((a:Int) / 2 ^ (i:Int).toNat)=((a / 2 ^ i:Nat):Int):=by simp
 rw[e,show (1:Int)=((1:Nat):Int) from rfl,i64_and_nat _ _ (by omega) (by omega),Nat.and_one_is_mod,Nat.testBit_eq_decide_div_mod_eq];generalize a / 2 ^ i % 2=r;rw[Bool.eq_iff_iff,beq_iff_eq,decide_eq_true_eq];omega
theorem inSetB_nat (a i:Nat)(ha:a<4096)(hi:i<12):inSetB (a:Int) (i:Int)=a.testBit i:=by
 have h1:inB (i:Int) 0 11=true:=by unfold inB;simp;omega
 have h2:inB (a:Int) 0 4095=true:=by unfold inB;simp;omega
 simp[inSetB,h1,h2,bitB_nat a i ha]
theorem gAdd_nat (a i:Nat)(ha:a<4096)(hi:i<12):gAdd (a:Int) (i:Int)=((a ||| 2 ^ i:Nat):Int):=by
 have h1:inB (i:Int) 0 11=true:=by unfold inB;simp;omega
 rw[gAdd_ok _ _ (by omega) h1,wrap64_pow _ (by omega) (by omega)];have hq:(2:Nat) ^ i<2 ^ 12:=Nat.pow_lt_pow_right (by omega) hi;have e:((2:Int) ^ (i:Int).toNat)=((2 ^ i:Nat):Int):=by simp
 rw[e,i64_or_nat a _ (by omega) (by omega)]
theorem or_lt (a i:Nat)(ha:a<4096)(hi:i<12):a ||| 2 ^ i<4096:=by
 have hq:(2:Nat) ^ i<2 ^ 12:=Nat.pow_lt_pow_right (by omega) hi;exact Nat.or_lt_two_pow (n:=12) ha hq
def grD (d:Dd):Int:=d.2.2.2
def gK (ds:List Dd):Nat→Int
 | 0=>0
 |k+1=>if grD (ds.getD k zD)=0 then gK ds k else gAdd (gK ds k) (grD (ds.getD k zD))
def gC (ds:List Dd):Int:=gK ds ds.length
def partK (ds:List Dd)(k:Nat):Bool:=decide (0<k)&&(grD (ds.getD k zD) != grD (ds.getD (k-1) zD))&&inSetB (gK ds k) (grD (ds.getD k zD))
def togK (ds:List Dd):Nat→Bool
 | 0=>true
 |k+1=>togK ds k&&!partK ds k
def takW (dss:List (List Dd)):Nat→Int
 | 0=>0
 |i+1=>bits .or .i64 (takW dss i) (gC (dss.getD i []))
def rightB (ds:List Dd)(t:Int):Bool:=decide (ds.length≤5)&&ds.all okD&&togK ds ds.length&&(bits .and .i64 (gC ds) t==0)
def rightsW (dss:List (List Dd)):Nat→Bool
 | 0=>true
 |i+1=>rightsW dss i&&rightB (dss.getD i []) (takW dss i)
theorem take_getD {α:Type}(l:List α)(i k:Nat)(z:α)(h:k<i):(l.take i).getD k z=l.getD k z:=by
 rw[List.getD_eq_getElem?_getD,List.getElem?_take,if_pos h,List.getD_eq_getElem?_getD]
theorem gK_take (ds:List Dd)(i:Nat):∀k:Nat,k≤i→gK (ds.take i) k=gK ds k
 | 0,_=>rfl
 |k+1,h=>by rw[gK,gK,gK_take ds i k (by omega),take_getD ds i k zD (by omega)]
theorem gC_take (ds:List Dd)(i:Nat)(h:i≤ds.length):gC (ds.take i)=gK ds i:=by
 rw[gC,List.length_take,Nat.min_eq_left h,gK_take ds i i (Nat.le_refl _)]
theorem togK_false {ds:List Dd}{k:Nat}(h:togK ds k=false):∀n:Nat,k≤n→togK ds n=false
 | 0,hn=>by
  obtain rfl:k=0:=by omega
  exact h
 |n+1,hn=>by
  by_cases e:k=n+1
  · rw[←e];exact h
  · rw[togK,togK_false h n (by omega)];rfl
theorem rightsW_false {dss:List (List Dd)}{k:Nat}(h:rightsW dss k=false):∀n:Nat,k≤n→rightsW dss n=false
 | 0,hn=>by
  obtain rfl:k=0:=by omega
  exact h
 |n+1,hn=>by
  by_cases e:k=n+1
  · rw[←e];exact h
  · rw[rightsW,rightsW_false h n (by omega)];rfl
def Dis (a b:Nat):Prop:=∀k,a.testBit k=true→b.testBit k=false
theorem dis_iff (a b:Nat):Dis a b↔a &&& b=0:=by
 constructor
 ·
  intro h;apply Nat.eq_of_testBit_eq;intro k;rw[Nat.testBit_and,Nat.zero_testBit];cases ha:a.testBit k
  · rfl
  · rw[h k ha];rfl
 ·
  intro h k ha;have h1:(a &&& b).testBit k=false:=by rw[h,Nat.zero_testBit]
  rw[Nat.testBit_and,ha] at h1
  simpa using h1
theorem or_bit (a g k:Nat):(a ||| 2 ^ g).testBit k=(a.testBit k||decide (g=k)):=by
 rw[Nat.testBit_or,Nat.testBit_two_pow]
theorem set_getD (o:List Int)(g:Nat)(x:Int)(j:Nat)(hg:g<o.length):(o.set g x).getD j 0=if g=j then x else o.getD j 0:=by
 rw[List.getD_eq_getElem?_getD,List.getElem?_set];by_cases e:g=j
 · subst e;rw[if_pos rfl,if_pos hg,if_pos rfl];rfl
 · rw[if_neg e,if_neg e,List.getD_eq_getElem?_getD]
theorem okD_grp {d:Dd}(h:okD d=true):0≤grD d∧grD d≤9:=by
 simp[okD,deedB] at h;unfold grD;omega
theorem clerk_same {i:Nat}{own:List Int}{T:Nat}{ds:List Dd}(hl:own.length=10)(hT:∀g,g<10→(own.getD g 0≠0↔T.testBit g=true))(hi:∀g,g<10→own.getD g 0≠(i:Int)+1)(hT0:T.testBit 0=false):
  ∀k:Nat,(∀j,j<k→okD (ds.getD j zD)=true)→∃G:Nat,G<4096∧gK ds k=(G:Int)∧G.testBit 0=false∧(k=0→G=0) ∧
   (grpK i own ds k=none→togK ds k=false∨¬Dis G T) ∧
   ∀o,grpK i own ds k=some o→togK ds k=true∧Dis G T∧o.length=10∧∀g,g<10→o.getD g 0=if G.testBit g=true then (i:Int)+1 else own.getD g 0
 | 0,_=>⟨0,by omega,rfl,by simp,fun _=>rfl,by simp[grpK],by
   intro o ho;simp only[grpK,Option.some.injEq] at ho;subst ho
   exact⟨rfl,fun k hk=>by simp at hk,hl,by simp⟩⟩
 |k+1,hok=>by
  obtain⟨G,hG,hgK,hG0,hz,hN,hS⟩:=clerk_same hl hT hi hT0 k (fun j hj=>hok j (by omega));obtain⟨h0,h9⟩:=okD_grp (hok k (by omega));obtain⟨g,hg⟩:=Int.eq_ofNat_of_zero_le h0;have hgg:(ds.getD k zD).2.2.2=(g:Int):=hg;by_cases hg0:g=0
  ·
   subst hg0;have hz0:(ds.getD k zD).2.2.2=0:=hgg;have e1:gK ds (k+1)=(G:Int):=by rw[gK,hg,if_pos (by simp),hgK]
   have e2:partK ds k=false:=by
    have:inSetB (gK ds k) (grD (ds.getD k zD))=false:=by rw[hgK,hg,inSetB_nat G 0 hG (by omega),hG0]
    rw[partK,this,Bool.and_false]
   have e3:togK ds (k+1)=togK ds k:=by rw[togK,e2];simp
   have e4:grpK i own ds (k+1)=grpK i own ds k:=by
    rw[grpK]
    cases hq:grpK i own ds k with
    |none=>rfl
    |some o=>simp only;rw[if_pos hz0]
   refine⟨G,hG,e1,hG0,by omega,?_,?_⟩
   · rw[e3,e4];exact hN
   · rw[e3,e4];exact hS
  ·
   have hgne:(ds.getD k zD).2.2.2≠0:=by rw[hgg];omega
   have g9:g≤9:=by rw[hg] at h9;omega
   have e1:gK ds (k+1)=((G ||| 2 ^ g:Nat):Int):=by
    rw[gK,hg,if_neg (by omega),hgK,gAdd_nat G g hG (by omega)]
   have e0:(G ||| 2 ^ g).testBit 0=false:=by rw[or_bit,hG0];simp[hg0]
   have inS:inSetB (gK ds k) (grD (ds.getD k zD))=G.testBit g:=by rw[hgK,hg,inSetB_nat G g hG (by omega)]
   refine⟨G ||| 2 ^ g,or_lt G g hG (by omega),e1,e0,by omega,?_,?_⟩
   ·
    intro hn;rw[grpK] at hn
    cases hq:grpK i own ds k with
    |none=>
     rcases hN hq with h|h
     · left;rw[togK,h];rfl
     ·
      right;intro hd;refine h (fun b hb=>hd b ?_);rw[or_bit,hb];rfl
    |some o=>
     rw[hq] at hn;simp only at hn;rw[if_neg hgne,hgg,Int.toNat_natCast] at hn;obtain⟨ht,hd,hlen,ho⟩:=hS o hq;split at hn
     ·
      rename_i hc
      cases hTg:T.testBit g with
      |true=>
       right;intro hd2;have:=hd2 g (by rw[or_bit];simp);rw[hTg] at this;cases this
      |false=>
       left
       have hown:own.getD g 0=0:=by
        apply Classical.byContradiction;intro hne;rw[(hT g (by omega)).1 hne] at hTg;cases hTg
       cases hGg:G.testBit g with
       |false=>
        exfalso;have:=ho g (by omega);rw[hGg,hown] at this;exact hc.1 (by simpa using this)
       |true=>
        have hk0:k≠0:=by
         intro hk;rw[hz hk] at hGg;simp at hGg
        have hog:=ho g (by omega);rw[hGg,if_pos rfl] at hog
        have hp:(ds.getD (k-1) zD).2.2.2≠(g:Int):=by
         rcases hc.2 with h|h|h
         · exact absurd hog h
         · exact absurd h hk0
         · exact h
        have:partK ds k=true:=by
         rw[partK,inS,hGg,hg]
         have hp':((g:Int) != grD (ds.getD (k-1) zD))=true:=by
          rw[bne_iff_ne];exact fun e=>hp e.symm
         rw[hp'];simp;omega
        rw[togK,this];simp
     · cases hn
   ·
    intro o' hn;rw[grpK] at hn
    cases hq:grpK i own ds k with
    |none=>rw[hq] at hn;cases hn
    |some o=>
     rw[hq] at hn;simp only at hn;rw[if_neg hgne,hgg,Int.toNat_natCast] at hn;obtain⟨ht,hd,hlen,ho⟩:=hS o hq;split at hn
     · cases hn
     ·
      rename_i hc;simp only[Option.some.injEq] at hn;subst hn;have hog:=ho g (by omega)
      have hTg:T.testBit g=false:=by
       cases hTg:T.testBit g with
       |false=>rfl
       |true=>
        exfalso
        have hGg:G.testBit g=false:=by
         cases hGg:G.testBit g with
         |false=>rfl
         |true=>rw[hd g hGg] at hTg;cases hTg
        rw[hGg] at hog;simp only[Bool.false_eq_true,if_false] at hog;exact hc ⟨by rw[hog];exact (hT g (by omega)).2 hTg,.inl (by rw[hog];exact hi g (by omega))⟩
      refine⟨?_,?_,by rw[List.length_set];exact hlen,?_⟩
      ·
       have:partK ds k=false:=by
        cases hp:partK ds k with
        |false=>rfl
        |true=>
         exfalso;rw[partK,inS,hg,Bool.and_eq_true,Bool.and_eq_true,decide_eq_true_eq,bne_iff_ne] at hp;obtain⟨⟨hk,hne⟩,hGg⟩:=hp;rw[hGg,if_pos rfl] at hog;exact hc ⟨by rw[hog];omega,.inr (.inr (fun e=>hne e.symm))⟩
       rw[togK,ht,this];rfl
      ·
       intro b hb;rw[or_bit,Bool.or_eq_true,decide_eq_true_eq] at hb;rcases hb with hb|rfl
       · exact hd b hb
       · exact hTg
      ·
       intro j hj;rw[set_getD o g _ j (by omega),or_bit];by_cases e:g=j
       · subst e;simp
       · rw[if_neg e,ho j hj];simp[e]
theorem work_same {dss:List (List Dd)}:∀n:Nat,(∀i,i<n→okL (dss.getD i [])=true)→∃T:Nat,T<4096∧takW dss n=(T:Int)∧T.testBit 0=false ∧
   (grpW dss n=none→rightsW dss n=false) ∧
   ∀o,grpW dss n=some o→rightsW dss n=true∧o.length=10∧(∀g,g<10→(o.getD g 0≠0↔T.testBit g=true))∧∀g,g<10→0≤o.getD g 0∧o.getD g 0≤(n:Int)
 | 0,_=>⟨0,by omega,rfl,by simp,by simp[grpW],by
   intro o ho;simp only[grpW,Option.some.injEq] at ho;subst ho;refine⟨rfl,by simp,fun g hg=>?_,fun g hg=>?_⟩
   · rw[List.getD_eq_getElem?_getD,List.getElem?_replicate,if_pos hg];simp
   · rw[List.getD_eq_getElem?_getD,List.getElem?_replicate,if_pos hg];simp⟩
 |n+1,hok=>by
  obtain⟨T,hT,htk,hT0,hN,hS⟩:=work_same n (fun i hi=>hok i (by omega));have okn:=hok n (by omega);simp only[okL,Bool.and_eq_true,decide_eq_true_eq] at okn;have hall:=okn.1;have hok2:∀j,j<(dss.getD n []).length→okD ((dss.getD n []).getD j zD)=true:=fun j hj=>all_get zD hall j hj
  obtain⟨G0,hG0,hgK0,hG00,-⟩:=clerk_same (i:=0) (own:=List.replicate 10 0) (T:=0) (ds:=dss.getD n []) (by simp) (fun g hg=>by rw[List.getD_eq_getElem?_getD,List.getElem?_replicate,if_pos hg];simp) (fun g hg=>by rw[List.getD_eq_getElem?_getD,List.getElem?_replicate,if_pos hg];simp) (by simp) (dss.getD n []).length hok2
  have hor:takW dss (n+1)=((T ||| G0:Nat):Int):=by
   rw[takW,htk,gC,hgK0,i64_or_nat T G0 (by omega) (by omega)]
  have hand:bits .and .i64 (gC (dss.getD n [])) (takW dss n)=((G0 &&& T:Nat):Int):=by
   rw[gC,hgK0,htk,i64_and_nat G0 T (by omega) (by omega)]
  have hR:rightB (dss.getD n []) (takW dss n)=(togK (dss.getD n []) (dss.getD n []).length&&decide (G0 &&& T=0)):=by
   rw[rightB,hall,decide_eq_true okn.2,hand];simp only[Bool.true_and]
   congr 1
   rw[Bool.eq_iff_iff,beq_iff_eq,decide_eq_true_eq];omega
  refine⟨T ||| G0,Nat.or_lt_two_pow (n:=12) hT hG0,hor,by rw[Nat.testBit_or,hT0,hG00];rfl,?_,?_⟩
  ·
   intro hn;rw[grpW] at hn
   cases hq:grpW dss n with
   |none=>rw[rightsW,hN hq];rfl
   |some o=>
    rw[hq] at hn;simp only at hn;obtain⟨hr,hl,hb,hle⟩:=hS o hq;obtain⟨G,hG,hgK,-,-,hN2,-⟩:=clerk_same (i:=n) (own:=o) (T:=T) (ds:=dss.getD n []) hl hb (fun g hg=>by have:=hle g hg;omega) hT0 (dss.getD n []).length hok2;obtain rfl:G=G0:=by rw[hgK0] at hgK;omega
    rw[rightsW,hr,hR];rcases hN2 hn with h|h
    · rw[h];rfl
    · rw[decide_eq_false (fun e=>h ((dis_iff _ _).2 e))];simp
  ·
   intro o' hn;rw[grpW] at hn
   cases hq:grpW dss n with
   |none=>rw[hq] at hn;cases hn
   |some o=>
    rw[hq] at hn;simp only at hn;obtain⟨hr,hl,hb,hle⟩:=hS o hq;obtain⟨G,hG,hgK,-,-,-,hS2⟩:=clerk_same (i:=n) (own:=o) (T:=T) (ds:=dss.getD n []) hl hb (fun g hg=>by have:=hle g hg;omega) hT0 (dss.getD n []).length hok2;obtain rfl:G=G0:=by rw[hgK0] at hgK;omega
    obtain⟨h1,h2,h3,h4⟩:=hS2 o' hn;refine⟨by rw[rightsW,hr,hR,h1,decide_eq_true ((dis_iff _ _).1 h2)];rfl,h3,fun g hg=>?_,fun g hg=>?_⟩
    ·
     rw[h4 g hg,Nat.testBit_or,Bool.or_eq_true];cases hGg:G.testBit g
     · simp only[Bool.false_eq_true,if_false,or_false];exact hb g hg
     · simp only[if_true,or_true,iff_true];omega
    ·
     rw[h4 g hg];have:=hle g hg;split<;>omega
theorem rights_same {dss:List (List Dd)}(h:dss.all okL=true):rightsW dss dss.length=grpB dss:=by
 obtain⟨T,-,-,-,hN,hS⟩:=work_same (dss:=dss) dss.length (fun i hi=>all_get [] h i hi);rw[grpB]
 cases hq:grpW dss dss.length with
 |none=>rw[hN hq];rfl
 |some o=>rw[(hS o hq).1];rfl
theorem rights_okL {dss:List (List Dd)}(h:rightsW dss dss.length=true):dss.all okL=true:=by
 refine all_of [] (fun i hi=>?_)
 cases hb:rightsW dss (i+1) with
 |false=>rw[rightsW_false hb _ hi] at h;cases h
 |true=>
  rw[rightsW,Bool.and_eq_true] at hb;have:=hb.2;simp only[rightB,Bool.and_eq_true] at this;rw[okL,this.1.1.2,Bool.true_and];exact this.1.1.1
theorem work_rights (dss:List (List Dd)):workB dss=(decide (1≤dss.length∧dss.length≤3)&&rightsW dss dss.length&&decide (lenW dss≤12)&&decide (evW dss dss.length≤6)):=by
 rw[workB]
 cases h:dss.all okL with
 |true=>
  rw[rights_same h];cases grpB dss<;>simp
 |false=>
  cases hr:rightsW dss dss.length with
  |false=>simp
  |true=>rw[rights_okL hr] at h;cases h
section
section
variable {P:Program} {md:Region.Mode} {ops:Array Oper} {Q:Exit→Act→World→Prop} {S:World→Prop}
theorem takeH (i d:Nat){oi:Oper}{v:Value}{fuel:Nat}{listed:Array Bool}{a:Act}{w:World}(hi:ops[i]? = some oi)(hd:oi.dst=some d)
  (hs:Region.noSelect ops=true) (hf:Region.free md ops listed i=true) (hr:(Region.ready md ops listed).contains i=true)
  (hQ:∀c a w,Q (.panic c) (a.put (some d) v) w→Q (.panic c) a w) (hw:Region.wanted oi (yielded ops a.tmps)=true) (hy:∀w,S w→(execOp a.eval oi).run P w = .ok (.value v) w) (hS:S w)
  (h:wpAnyH P md ops Q S fuel (listed.setIfInBounds i true) (a.put (some d) v) w):wpAnyH P md ops Q S (fuel+1) listed a w:=by
 rw[←hd] at hQ h;exact wpAnyH_take hi hs hf hr hQ (Or.inl ⟨hw,hy⟩) hS h
theorem takeQ (i d:Nat){oi:Oper}{v:Value}{fuel:Nat}{listed:Array Bool}{a:Act}{w:World}
  (hy:∀w,S w→(execOp a.eval oi).run P w = .ok (.value v) w) (h:wpAnyH P md ops Q S fuel (listed.setIfInBounds i true) (a.put (some d) v) w)
  (hi:ops[i]? = some oi:=by rfl) (hd:oi.dst=some d:=by rfl)
  (hs:Region.noSelect ops=true:=by kernel_rfl) (hf:Region.free md ops listed i=true:=by kernel_rfl) (hr:(Region.ready md ops listed).contains i=true:=by kernel_rfl)
  (hQ:∀c a w,Q (.panic c) (a.put (some d) v) w→Q (.panic c) a w:=by exact fun _ _ _ h=>h) (hw:Region.wanted oi (yielded ops a.tmps)=true:=by rfl) (hS:S w:=by assumption):wpAnyH P md ops Q S (fuel+1) listed a w:=
 takeH i d hi hd hs hf hr hQ hw hy hS h
theorem skipH (i d:Nat){oi:Oper}{fuel:Nat}{listed:Array Bool}{a:Act}{w:World}(hi:ops[i]? = some oi)(hd:oi.dst=some d)
  (hs:Region.noSelect ops=true) (hf:Region.free md ops listed i=true) (hr:(Region.ready md ops listed).contains i=true)
  (hQ:∀c a w,Q (.panic c) (a.put (some d) undef) w→Q (.panic c) a w) (hw:Region.wanted oi (yielded ops a.tmps)=false) (hS:S w)
  (h:wpAnyH P md ops Q S fuel (listed.setIfInBounds i true) (a.put (some d) undef) w):wpAnyH P md ops Q S (fuel+1) listed a w:=by
 rw[←hd] at hQ h;exact wpAnyH_take hi hs hf hr hQ (Or.inr ⟨hw,rfl⟩) hS h
end
end
structure LP (w0 wr:World)(x:Value)(es:List Ev)(P:List (Nat×Obj)):Prop where
 app:AppE wr w0.heap.size x es
 keep:Keep w0 wr
 held:∀n o,(n,o)∈P→x.ownBlock≠some n∧wr.heap[n]? = some o
theorem LP.more {w0 wr wr':World}{x:Value}{es:List Ev}{P:List (Nat×Obj)}(h:LP w0 wr x es P)(k:Keep wr wr'):LP w0 wr' x es P:=
 ⟨h.app.keep k,h.keep.trans k,fun n o hn=>⟨(h.held n o hn).1,(Below.block k n (Array.getElem?_eq_some_iff.1 (h.held n o hn).2).1).trans (h.held n o hn).2⟩⟩
theorem LP.add {w0 wr:World}{x:Value}{es:List Ev}{P:List (Nat×Obj)}(h:LP w0 wr x es P)(n:Nat)(o:Obj)(hx:x.ownBlock≠some n)(ho:wr.heap[n]? = some o):LP w0 wr x es ((n,o)::P):=
 ⟨h.app,h.keep,fun m q hm=>by
  rcases List.mem_cons.1 hm with e|e
  · injection e with e1 e2;subst e1 e2;exact⟨hx,ho⟩
  · exact h.held m q e⟩
theorem LP.new {w0 wr:World}{x:Value}{es:List Ev}{P:List (Nat×Obj)}(h:LP w0 wr x es P)(o:Obj):LP w0 (wr.alloc o) x es ((wr.heap.size,o)::P):=
 (h.more ((Keep.refl wr).alloc o)).add _ _ (fun e=>by have:=(h.app.lt _ e).2;omega) (heap_alloc_new wr o)
theorem LP.later {w0 wr wr':World}{x:Value}{es:List Ev}{P:List (Nat×Obj)}(h:LP w0 wr x es P)(k:Keep wr wr'){B:Nat}{o:Obj}(hB:wr.heap.size≤B)(ho:wr'.heap[B]? = some o):LP w0 wr' x es ((B,o)::P):=
 (h.more k).add _ _ (fun e=>by have:=(h.app.lt _ e).2;omega) ho
theorem LP.less {w0 wr:World}{x:Value}{es:List Ev}{P Q:List (Nat×Obj)}(h:LP w0 wr x es P)(hs:∀y,y∈Q→y∈P):LP w0 wr x es Q:=
 ⟨h.app,h.keep,fun n o hn=>h.held n o (hs _ hn)⟩
theorem LP.hit {w0 wr w':World}{x v':Value}{es:List Ev}{P:List (Nat×Obj)}(h:LP w0 wr x es P)(e:Ev)
  (ho:w'.ownsRow w0.heap.size 99 6 v' (es.length+1) (es.flatMap cE++cE e)) (hg:wr.grownBy w' x.ownBlock) (hb:v'.ownBlock=x.ownBlock∨v'.ownBlock=some wr.heap.size):LP w0 w' v' (es++[e]) P:=by
 refine⟨appT_hit ho,h.keep.grown hg h.app.ge,fun n o hn=>?_⟩;obtain⟨h1,h2⟩:=h.held n o hn;have hlt:=(Array.getElem?_eq_some_iff.1 h2).1;refine⟨fun e=>?_,(hg.block n hlt (fun e=>h1 e.symm)).trans h2⟩;rcases hb with hb|hb
 · exact h1 (hb ▸ e)
 · rw[hb] at e;have:=Option.some.inj e;omega
theorem LP.lt {w0 wr:World}{x:Value}{es:List Ev}{P:List (Nat×Obj)}(h:LP w0 wr x es P){n:Nat}{o:Obj}(hn:(n,o)∈P):n<wr.heap.size:=(Array.getElem?_eq_some_iff.1 (h.held n o hn).2).1
theorem LP.cell {w0 wr:World}{x:Value}{es:List Ev}{P:List (Nat×Obj)}(h:LP w0 wr x es P){n:Nat}{cs:Array Value}{t:TypeId}(hn:(n,.cells cs t)∈P)(i:Nat):wr.cell? ⟨n,i,none⟩=cs[i]?:=
 cell_of_row wr n i cs t (0,0) (h.held n _ hn).2
theorem app_base {w:World}{base base':Nat}{v:Value}{es:List Ev}(h:AppE w base v es)(hb:base'≤base):AppE w base' v es:=by
 refine⟨h.1,?_⟩;rcases h.2 with h|⟨g,cap,cur,hv,hg,rest⟩
 · exact .inl h
 · exact .inr ⟨g,cap,cur,hv,Nat.le_trans hb hg,rest⟩
abbrev eO (i k:Int)(r:Bool)(p v c:Int):Obj:= .cells #[.int .i64 i,.int .i64 k,.bool r,.int .i64 p,.int .i64 v,.int .i64 c] 99
theorem cE_oneP (e:Ev):∀u∈cE e,u.oneCell'=true:=by
 intro u hu;simp only[cE,List.mem_cons,List.not_mem_nil,or_false] at hu;rcases hu with rfl|rfl|rfl|rfl|rfl|rfl<;>rfl
theorem cE_newP (w:World)(n:Nat)(hn:w.heap.size=n)(i q:Int)(r:Bool)(pl vl c:Int):∀j u,(cE (i,q,r,pl,vl,c))[j]? = some u→(w.alloc (eO i q r pl vl c)).cell? ((⟨n,0,none⟩:Addr).add j)=some u:=by
 subst hn;intro j u hj
 match j,hj with
 | 0,hj=>simp[cE] at hj;subst hj;simp[Addr.add]
 | 1,hj=>simp[cE] at hj;subst hj;simp[Addr.add]
 | 2,hj=>simp[cE] at hj;subst hj;simp[Addr.add]
 | 3,hj=>simp[cE] at hj;subst hj;simp[Addr.add]
 | 4,hj=>simp[cE] at hj;subst hj;simp[Addr.add]
 | 5,hj=>simp[cE] at hj;subst hj;simp[Addr.add]
def goB (ds:List Dd)(k:Nat):Bool:=decide (0<k)&&((ds.getD k zD).2.2.2 != 0)&&((ds.getD k zD).2.2.2==(ds.getD (k-1) zD).2.2.2)
def lastC (out:List Ev):Int:=csE (out.getD (out.length-1) zE)
def ncE (out:List Ev)(go:Bool):Int:=if go=true then lastC out else (out.length:Int)
def clkP (i:Nat)(ds:List Dd)(out:List Ev):Nat→List Ev
 | 0=>out
 |k+1=>clkP i ds out k++oneE i k (ds.getD k zD) (ncE (clkP i ds out k) (goB ds k))
def evsP (dss:List (List Dd)):Nat→List Ev
 | 0=>evBeg
 |i+1=>clkP i (dss.getD i []) (evsP dss i) (dss.getD i []).length
def Tog (ds:List Dd):Prop:=∀k j,k<ds.length→j<k→(ds.getD k zD).2.2.2≠0→(ds.getD j zD).2.2.2=(ds.getD k zD).2.2.2→(ds.getD (k-1) zD).2.2.2=(ds.getD k zD).2.2.2
theorem grpK_own {i:Nat}{own:List Int}{ds:List Dd}(hl:own.length=10):∀(k:Nat) (o:List Int),grpK i own ds k=some o→(∀j,j<k→okD (ds.getD j zD)=true) →
  ∀j,j<k→(ds.getD j zD).2.2.2≠0→o.getD (ds.getD j zD).2.2.2.toNat 0=(i:Int)+1
 | 0,o,h,_,j,hj,_=>by omega
 |k+1,o',h,hok,j,hj,h0=>by
  rw[grpK] at h
  cases hq:grpK i own ds k with
  |none=>rw[hq] at h;cases h
  |some o=>
   rw[hq] at h;have ih:=grpK_own hl k o hq (fun j hj=>hok j (by omega));have hol:=grpK_len hq;simp only at h;have okj:=okD_restE (hok j hj);split at h
   ·
    rename_i hz;simp only[Option.some.injEq] at h;subst h;by_cases e:j=k
    · subst e;exact absurd hz h0
    · exact ih j (by omega) h0
   ·
    rename_i hz;split at h
    · cases h
    ·
     simp only[Option.some.injEq] at h;subst h;have okk:=okD_restE (hok k (by omega));rw[getD_setE o _ _ _ (by omega)];by_cases e:(ds.getD k zD).2.2.2.toNat=(ds.getD j zD).2.2.2.toNat
     · rw[if_pos e]
     ·
      rw[if_neg e];by_cases e2:j=k
      · subst e2;exact absurd rfl e
      · exact ih j (by omega) h0
theorem grpK_tog {i:Nat}{own:List Int}{ds:List Dd}(hl:own.length=10){o:List Int}(h:grpK i own ds ds.length=some o)(hok:∀j,j<ds.length→okD (ds.getD j zD)=true):Tog ds:=by
 intro k j hk hj h0 he
 have step:∃o',grpK i own ds (k+1)=some o':=by
  cases hq:grpK i own ds (k+1) with
  |none=>rw[grpK_none hq ds.length (by omega)] at h;cases h
  |some o'=>exact⟨o',rfl⟩
 obtain⟨o',ho'⟩:=step;rw[grpK] at ho'
 cases hq:grpK i own ds k with
 |none=>rw[hq] at ho';cases ho'
 |some o1=>
  rw[hq] at ho';have hown:=grpK_own hl k o1 hq (fun j hj=>hok j (by omega)) j hj (by rw[he];exact h0);rw[he] at hown;simp only at ho';rw[if_neg h0] at ho';split at ho'
  · cases ho'
  ·
   rename_i hn;apply Classical.byContradiction;intro hc;exact hn ⟨by rw[hown];omega,.inr (.inr hc)⟩
theorem work_tog {dss:List (List Dd)}(hb:workB dss=true):∀i,i<dss.length→Tog (dss.getD i []):=by
 intro i hi;simp only[workB,Bool.and_eq_true,decide_eq_true_eq] at hb;obtain⟨⟨⟨⟨_,h2⟩,_⟩,_⟩,hg⟩:=hb;have hok:=all_get [] h2 i hi;simp only[okL,Bool.and_eq_true,decide_eq_true_eq] at hok
 have hs:∀n,n≤dss.length→∃o,grpW dss n=some o:=by
  intro n hn
  cases hq:grpW dss n with
  |none=>rw[grpB,grpW_none hq dss.length hn] at hg;cases hg
  |some o=>exact⟨o,rfl⟩
 obtain⟨o,ho⟩:=hs i (by omega);obtain⟨o',ho'⟩:=hs (i+1) (by omega);rw[grpW,ho] at ho';exact grpK_tog (grpW_len ho) ho' (fun j hj=>all_get zD hok.1 j hj)
theorem last_snoc (out t:List Ev)(e:Ev):lastC (out++(t++[e]))=csE e:=by
 unfold lastC;rw[←List.append_assoc,List.length_append,List.getD_eq_getElem?_getD];simp
theorem clkP_same {i:Nat}{ds:List Dd}{out:List Ev}(ht:Tog ds)(hok:∀j,j<ds.length→okD (ds.getD j zD)=true)(ho:1≤out.length):
  ∀k:Nat,k≤ds.length→clkP i ds out k=(clkE i ds out k).1∧(clkE i ds out k).2.length=10∧1≤(clkE i ds out k).1.length ∧
   (∀g:Nat,0<g→g<10→(∀j,j<k→(ds.getD j zD).2.2.2≠(g:Int))→(clkE i ds out k).2.getD g 0=0) ∧
   (∀j,j<k→(ds.getD j zD).2.2.2≠0→(clkE i ds out k).2.getD (ds.getD j zD).2.2.2.toNat 0≠0) ∧
   (0<k→(ds.getD (k-1) zD).2.2.2≠0→(clkE i ds out k).2.getD (ds.getD (k-1) zD).2.2.2.toNat 0=lastC (clkE i ds out k).1)
 | 0,_=>⟨rfl,by simp[clkE],ho,fun g _ hg _=>by simp only[clkE];rw[List.getD_eq_getElem?_getD,List.getElem?_replicate,if_pos hg];rfl,fun j hj=>by omega,fun h=>by omega⟩
 |k+1,hk=>by
  obtain⟨h1,h2,h3,h4,h5,h6⟩:=clkP_same ht hok ho k (by omega);have hd:=hok k (by omega);obtain⟨r0,r1,r2,r3,r4⟩:=okD_restE hd;have hkd:=okD_kindE hd;rw[clkP,clkE,h1,Nat.add_sub_cancel];generalize hS:clkE i ds out k=S at h2 h3 h4 h5 h6;obtain⟨L,f⟩:=S;simp only at h2 h3 h4 h5 h6;generalize hdd:ds.getD k zD=d at hd r0 r1 r2 r3 r4 hkd;have hg:goB ds k=(decide (0<k)&&(d.2.2.2 != 0)&&(d.2.2.2==(ds.getD (k-1) zD).2.2.2)):=by rw[goB,hdd]
  have old5:∀j,j<k→(ds.getD j zD).2.2.2≠0→(ds.getD j zD).2.2.2.toNat<10:=fun j hj _=>by
   have:=okD_restE (hok j (by omega));omega
  by_cases h4k:d.1=4
  ·
   have g0:d.2.2.2=0:=r4 (by omega);have e1:oneE i k d (ncE L (goB ds k))=[]:=by unfold oneE;rw[if_pos h4k]
   rw[stepE,if_pos h4k,e1,List.append_nil];refine⟨rfl,h2,h3,fun g hg0 hg10 hn=>h4 g hg0 hg10 (fun j hj=>hn j (by omega)),fun j hj hne=>?_,fun _ hne=>absurd g0 hne⟩;by_cases e:j=k
   · subst e;rw[hdd] at hne;exact absurd g0 hne
   · exact h5 j (by omega) hne
  ·
   rw[stepE,if_neg h4k];by_cases g0:d.2.2.2=0
   ·
    have e1:ncE L (goB ds k)=clsE d.2.2.2 L.length f:=by
     rw[hg,g0];simp[ncE,clsE]
    have e2:fstE d.2.2.2 L.length f=f:=by unfold fstE;rw[if_neg (by rw[g0];omega)]
    rw[e1];simp only;rw[e2];refine⟨by trivial,h2,by rw[List.length_append];omega,fun g hg0 hg10 hn=>h4 g hg0 hg10 (fun j hj=>hn j (by omega)),fun j hj hne=>?_,fun _ hne=>absurd g0 hne⟩;by_cases e:j=k
    · subst e;rw[hdd] at hne;exact absurd g0 hne
    · exact h5 j (by omega) hne
   ·
    have gp:(0:Int)<d.2.2.2:=by omega
    have k2:d.1=1∨d.1=2:=by
     apply Classical.byContradiction;intro hn;exact g0 (r4 (by omega))
    have one:∀c,∃e,oneE i k d c=[e]∧csE e=c:=by
     intro c;unfold oneE;rcases k2 with e|e
     · exact⟨_,by rw[if_neg h4k,if_neg (by omega),if_neg (by omega)],rfl⟩
     · exact⟨_,by rw[if_neg h4k,if_neg (by omega),if_pos e],rfl⟩
    have fin:∀c,lastC (L++oneE i k d c)=c:=fun c=>by
     obtain⟨e,he,hc⟩:=one c;rw[he,←hc];exact last_snoc L [] e
    by_cases hgo:0<k∧(ds.getD (k-1) zD).2.2.2=d.2.2.2
    ·
     obtain⟨k0,hgo⟩:=hgo;have e0:goB ds k=true:=by rw[hg,hgo];simp[k0,g0]
     have f0:f.getD d.2.2.2.toNat 0≠0:=by have:=h5 (k-1) (by omega) (by rw[hgo];exact g0);rw[hgo] at this;exact this
     have f1:f.getD d.2.2.2.toNat 0=lastC L:=by have:=h6 k0 (by rw[hgo];exact g0);rw[hgo] at this;exact this
     have e2:fstE d.2.2.2 L.length f=f:=by unfold fstE;rw[if_neg (fun h=>f0 h.2)]
     have e1:ncE L (goB ds k)=clsE d.2.2.2 L.length f:=by
      rw[e0];unfold ncE clsE;rw[if_pos rfl,if_pos gp,e2,f1]
     have e3:clsE d.2.2.2 L.length f=f.getD d.2.2.2.toNat 0:=by unfold clsE;rw[if_pos gp,e2]
     rw[e1];simp only;rw[e2];refine⟨by trivial,h2,by rw[List.length_append];omega,fun g hg0 hg10 hn=>h4 g hg0 hg10 (fun j hj=>hn j (by omega)),fun j hj hne=>?_,fun _ _=>?_⟩
     ·
      by_cases e:j=k
      · subst e;rw[hdd];exact f0
      · exact h5 j (by omega) hne
     · rw[fin,e3]
    ·
     have none:∀j,j<k→(ds.getD j zD).2.2.2≠d.2.2.2:=by
      intro j hj he;refine hgo ⟨by omega,?_⟩;have:=ht k j (by omega) hj (by rw[hdd];exact g0) (by rw[hdd];exact he);rw[hdd] at this;exact this
     obtain⟨g,hgg⟩:=Int.eq_ofNat_of_zero_le r2;have g10:g<10:=by omega
     have f0:f.getD d.2.2.2.toNat 0=0:=by
      rw[hgg,Int.toNat_natCast];exact h4 g (by omega) g10 (fun j hj=>by rw[←hgg];exact none j hj)
     have e0:goB ds k=false:=by
      rw[hg];by_cases k0:0<k
      ·
       have:¬(d.2.2.2=(ds.getD (k-1) zD).2.2.2):=fun e=>hgo ⟨k0,e.symm⟩
       have e:(d.2.2.2==(ds.getD (k-1) zD).2.2.2)=false:=by simpa using this
       rw[e,Bool.and_false]
      · simp[k0]
     have e2:fstE d.2.2.2 L.length f=f.set d.2.2.2.toNat (L.length:Int):=by unfold fstE;rw[if_pos ⟨gp,f0⟩]
     have e3:clsE d.2.2.2 L.length f=(L.length:Int):=by
      unfold clsE;rw[if_pos gp,e2,getD_setE f _ _ _ (by omega),if_pos rfl]
     have e1:ncE L (goB ds k)=clsE d.2.2.2 L.length f:=by rw[e0,e3];simp[ncE]
     rw[e1];simp only;rw[e2];refine⟨by trivial,by rw[List.length_set];exact h2,by rw[List.length_append];omega,fun q hq0 hq10 hn=>?_,fun j hj hne=>?_,fun _ _=>?_⟩
     ·
      have hqk:=hn k (by omega);rw[hdd] at hqk;rw[getD_setE f _ _ _ (by omega),if_neg (by omega)];exact h4 q hq0 hq10 (fun j hj=>hn j (by omega))
     ·
      by_cases e:j=k
      ·
       subst e;rw[hdd,getD_setE f _ _ _ (by omega),if_pos rfl];omega
      ·
       have nj:=none j (by omega);have okj:=okD_restE (hok j (by omega));rw[getD_setE f _ _ _ (by omega),if_neg (by omega)];exact h5 j (by omega) hne
     · rw[fin,e3,getD_setE f _ _ _ (by omega),if_pos rfl]
theorem evsP_same {dss:List (List Dd)}(hb:workB dss=true):∀n:Nat,n≤dss.length→evsP dss n=evsW dss n∧1≤(evsW dss n).length
 | 0,_=>⟨rfl,by simp[evsW,evBeg]⟩
 |n+1,h=>by
  obtain⟨h1,h2⟩:=evsP_same hb n (by omega);have ht:=work_tog hb n (by omega);simp only[workB,Bool.and_eq_true,decide_eq_true_eq] at hb;obtain⟨⟨⟨⟨_,ha⟩,_⟩,_⟩,_⟩:=hb;have hok:=all_get [] ha n (by omega);simp only[okL,Bool.and_eq_true,decide_eq_true_eq] at hok;obtain⟨q1,_,q3,_⟩:=clkP_same (i:=n) ht (fun j hj=>all_get zD hok.1 j hj) h2 (dss.getD n []).length (Nat.le_refl _);rw[evsP,evsW,h1,q1];exact⟨rfl,q3⟩
def tstE (f:Ev→Bool)(es:List Ev)(k:Nat):Bool:=decide (k<es.length)&&f (es.getD k zE)
def chK (f:Ev→Bool)(es:List Ev):Nat→List Int
 | 0=>[]
 |k+1=>if tstE f es k=true then chK f es k++[(k:Int)] else chK f es k
theorem chK_min (f:Ev→Bool)(es:List Ev):∀k,chK f es k=idxK f es (min k es.length)
 | 0=>by simp[chK,idxK]
 |k+1=>by
  rw[chK,chK_min f es k];by_cases h:k<es.length
  ·
   rw[show min (k+1) es.length=k+1 by omega,show min k es.length=k by omega,idxK];simp[tstE,h]
  ·
   rw[show min (k+1) es.length=min k es.length by omega];simp[tstE,h]
theorem chK_all (f:Ev→Bool)(es:List Ev)(k:Nat)(h:es.length≤k):chK f es k=idxK f es es.length:=by
 rw[chK_min,Nat.min_eq_right h]
theorem chK_len (f:Ev→Bool)(es:List Ev)(k:Nat):(chK f es k).length≤k:=by
 rw[chK_min];have:=idxK_len f es (min k es.length);omega
def RowAt (w:World)(g:Nat)(zs:List Int):Prop:=
 ∃(cur:Array Value) (e:TypeId),w.heap[g]? = some (.cells cur e (0,0))∧cur.toList.take zs.length=zs.map (Value.int .i64)
theorem RowAt.lt {w:World}{g:Nat}{zs:List Int}(h:RowAt w g zs):g<w.heap.size:=by
 obtain⟨cur,e,hh,_⟩:=h;exact (Array.getElem?_eq_some_iff.1 hh).1
theorem RowAt.cell {w:World}{g:Nat}{zs:List Int}(h:RowAt w g zs){j:Nat}(hj:j<zs.length):w.cell? ⟨g,j,none⟩=some (.int .i64 (zs.getD j 0)):=by
 obtain⟨cur,e,hh,ht⟩:=h;rw[cell_of_row w g j cur e (0,0) hh];have h1:(cur.toList.take zs.length)[j]? = (zs.map (Value.int .i64))[j]?:=by rw[ht]
 rw[List.getElem?_take,if_pos hj,List.getElem?_map,List.getElem?_eq_getElem hj] at h1;rw[List.getD_eq_getElem?_getD,List.getElem?_eq_getElem hj]
 simpa using h1
theorem RowAt.free {w:World}{g:Nat}{zs:List Int}(h:RowAt w g zs)(j:Nat):w.frozen? ⟨g,j,none⟩=false:=by
 obtain⟨cur,e,hh,_⟩:=h;exact frozen_of_row w g j _ _ hh
theorem RowAt.kept {w w':World}{g:Nat}{zs:List Int}{row:Option Nat}(h:RowAt w g zs)(hg:w.grownBy w' row)(hne:row≠some g):RowAt w' g zs:=by
 have hlt:=h.lt;obtain⟨cur,e,hh,ht⟩:=h;exact⟨cur,e,by rw[hg.block g hlt (fun e=>hne e.symm)];exact hh,ht⟩
theorem RowAt.keep {w w':World}{g:Nat}{zs:List Int}(h:RowAt w g zs)(k:Keep w w'):RowAt w' g zs:=h.kept k.grownBy (by simp)
theorem grown_set (w:World)(g j:Nat)(v:Value):w.grownBy (w.setCell ⟨g,j,none⟩ v) (some g):=
 ⟨rfl,rfl,rfl,by simp,fun k _ hk=>heap_setCell_other w ⟨g,j,none⟩ k v (fun e=>hk (by simp[e]))⟩
theorem grown_draw (w:World)(n:Nat)(row:Option Nat):w.grownBy (w.drewN n) row:=⟨rfl,rfl,rfl,Nat.le_refl _,fun _ _ _=>rfl⟩
theorem grown_drew (w:World)(row:Option Nat):w.grownBy w.drew row:=⟨rfl,rfl,rfl,Nat.le_refl _,fun _ _ _=>rfl⟩
theorem RowAt.drewN {w:World}{g:Nat}{zs:List Int}(h:RowAt w g zs)(n:Nat):RowAt (w.drewN n) g zs:=h.kept (row:=none) (grown_draw w n none) (by simp)
theorem RowAt.drew {w:World}{g:Nat}{zs:List Int}(h:RowAt w g zs):RowAt w.drew g zs:=h.kept (row:=none) (grown_drew w none) (by simp)
theorem take_set_val (l:List Value)(zs:List Int)(j:Nat)(x:Int)(h:l.take zs.length=zs.map (Value.int .i64)):
  (l.set j (.int .i64 x)).take (zs.set j x).length=(zs.set j x).map (Value.int .i64):=by
 rw[List.length_set,List.take_set,h,List.map_set]
theorem RowAt.set {w:World}{g:Nat}{zs:List Int}(h:RowAt w g zs)(j:Nat)(x:Int):RowAt (w.setCell ⟨g,j,none⟩ (.int .i64 x)) g (zs.set j x):=by
 obtain⟨cur,e,hh,ht⟩:=h;refine⟨cur.setIfInBounds j (.int .i64 x),e,?_,?_⟩
 · rw[heap_setCell_same w g j _ _ _ hh]
 ·
  rw[Array.toList_setIfInBounds];exact take_set_val _ zs j x ht
def Row (w:World)(base:Nat)(v:Value)(zs:List Int):Prop:=
 (v = .slice none 0 0∧zs=[])∨∃g cap,v = .slice (some ⟨g,0,none⟩) zs.length cap∧base≤g∧RowAt w g zs
theorem Own.row {w:World}{base:Nat}{v:Value}{zs:List Int}(h:Own w base v zs):Row w base v zs:=by
 rcases h.2 with ⟨rfl,hn⟩|⟨g,cap,cur,rfl,hb,hg,_,_,_,ht⟩
 · exact .inl ⟨rfl,List.eq_nil_of_length_eq_zero hn⟩
 · exact .inr ⟨g,cap,rfl,hb,cur,_,hg,by rw[Nat.mul_one] at ht;exact ht⟩
theorem Row.lt {w:World}{base:Nat}{v:Value}{zs:List Int}(h:Row w base v zs):∀k,v.ownBlock=some k→base≤k∧k<w.heap.size:=by
 intro k hk;rcases h with ⟨rfl,_⟩|⟨g,cap,rfl,hb,hr⟩
 · simp[Value.ownBlock] at hk
 · simp[Value.ownBlock] at hk;subst hk;exact⟨hb,hr.lt⟩
theorem Row.ge {w:World}{base:Nat}{v:Value}{zs:List Int}(h:Row w base v zs):∀k,v.ownBlock=some k→base≤k:=fun k hk=>(h.lt k hk).1
theorem Row.kept {w w':World}{base:Nat}{v:Value}{zs:List Int}{row:Option Nat}(h:Row w base v zs)(hg:w.grownBy w' row)(hne:v.ownBlock=none∨v.ownBlock≠row):Row w' base v zs:=by
 rcases h with h|⟨g,cap,rfl,hb,hr⟩
 · exact .inl h
 ·
  refine .inr ⟨g,cap,rfl,hb,hr.kept hg ?_⟩;simp[Value.ownBlock] at hne;exact fun e=>hne e.symm
theorem Row.keep {w w':World}{base:Nat}{v:Value}{zs:List Int}(h:Row w base v zs)(k:Keep w w'):Row w' base v zs:=
 h.kept k.grownBy (by cases v.ownBlock<;>simp)
theorem Row.rd {w:World}{base:Nat}{v:Value}{zs:List Int}(h:Row w base v zs):Rd w v zs:=by
 rcases h with ⟨rfl,rfl⟩|⟨g,cap,rfl,hb,hr⟩
 · exact⟨none,0,rfl,.inl rfl⟩
 · exact⟨some ⟨g,0,none⟩,cap,rfl,.inr ⟨g,0,rfl,hr.lt,fun i hi=>by rw[Nat.zero_add];exact hr.cell hi⟩⟩
theorem Row.base_le {w:World}{base base':Nat}{v:Value}{zs:List Int}(h:Row w base v zs)(hb:base'≤base):Row w base' v zs:=by
 rcases h with h|⟨g,cap,hv,hg,hr⟩
 · exact .inl h
 · exact .inr ⟨g,cap,hv,Nat.le_trans hb hg,hr⟩
theorem Row.apart {w w':World}{base:Nat}{v v':Value}{zs zs':List Int}(h:Row w base v zs)(h':Row w' w.heap.size v' zs'):v.ownBlock=none∨v.ownBlock≠v'.ownBlock:=by
 cases hv:v.ownBlock with
 |none=>exact .inl rfl
 |some k=>
  refine .inr fun e=>?_
  have h1:=(h.lt k hv).2;have h2:=h'.ge k e.symm;omega
def webB (zs:List Int):Bool:=zs.all (okB zs.length)
theorem getD_mem {zs:List Int}{i:Nat}(h:i<zs.length):zs.getD i 0∈zs:=by
 rw[List.getD_eq_getElem?_getD,List.getElem?_eq_getElem h];exact List.getElem_mem h
theorem webB_all {zs:List Int}(h:∀i,i<zs.length→okB zs.length (zs.getD i 0)=true):webB zs=true:=by
 unfold webB;rw[List.all_eq_true];intro x hx;obtain⟨i,hi,rfl⟩:=List.getElem_of_mem hx;have:=h i hi
 rwa [List.getD_eq_getElem?_getD,List.getElem?_eq_getElem hi] at this
theorem webB_get {zs:List Int}(h:webB zs=true){i:Nat}(hi:i<zs.length):okB zs.length (zs.getD i 0)=true:=by
 unfold webB at h;rw[List.all_eq_true] at h;exact h _ (getD_mem hi)
theorem okB_iff {n s:Int}:okB n s=true↔(0≤n∧n≤12)∧0≤s∧s<2 ^ n.toNat:=by unfold okB;rw[decide_eq_true_eq]
theorem webB_len {zs:List Int}(h:webB zs=true):zs.length≤12:=by
 by_cases h0:zs.length=0
 · omega
 · have:=okB_iff.1 (webB_get h (i:=0) (by omega));omega
theorem okB_range {n s:Int}(h:okB n s=true):0≤s∧s≤4095:=by
 have h1:=okB_iff.1 h;have:=pow_le12 n.toNat (by omega);omega
theorem okB_nat {n:Nat}{s:Int}(h:okB n s=true):n≤12∧∃a:Nat,s=a∧a<2 ^ n∧a<4096:=by
 have h1:=okB_iff.1 h;have h2:=okB_range h;obtain⟨a,rfl⟩:=Int.eq_ofNat_of_zero_le h2.1;refine⟨by omega,a,rfl,?_,by omega⟩;have:=h1.2.2;simp at this
 exact_mod_cast this
theorem okB_of_nat {n a:Nat}(hn:n≤12)(ha:a<2 ^ n):okB n a=true:=by
 rw[okB_iff];refine⟨by omega,by omega,?_⟩;simp
 exact_mod_cast ha
theorem inSetB_iff {n:Nat}{s:Int}(h:okB n s=true){j:Nat}(hj:inSetB s j=true):j<n:=by
 obtain⟨hn,a,rfl,ha,h12⟩:=okB_nat h
 have hj12:j<12:=by
  have:inB (j:Int) 0 11=true:=by unfold inSetB at hj;simp at hj;exact hj.1.1
  unfold inB at this;simp at this;omega
 rw[inSetB_nat a j h12 hj12] at hj;apply Classical.byContradiction;intro hnj;have hp:(2:Nat) ^ n≤2 ^ j:=Nat.pow_le_pow_right (by omega) (by omega);rw[Nat.testBit_lt_two_pow (by omega)] at hj;cases hj
theorem ok_zero {n:Nat}(hn:n≤12):okB n 0=true:=okB_of_nat (a:=0) hn (Nat.two_pow_pos n)
def Web (n:Nat)(zs:List Int):Prop:=n≤12∧zs.length=n∧∀i,i<n→okB n (zs.getD i 0)=true
theorem web_iff {zs:List Int}:webB zs=true↔Web zs.length zs:=by
 constructor
 · intro h;exact⟨webB_len h,rfl,fun i hi=>webB_get h hi⟩
 · intro h;exact webB_all h.2.2
theorem Web.b {n:Nat}{zs:List Int}(h:Web n zs):webB zs=true:=by
 obtain⟨h1,rfl,h2⟩:=h;exact web_iff.2 ⟨h1,rfl,h2⟩
def line (zs:List Int)(i j:Nat):Bool:=inSetB (zs.getD i 0) j
theorem Web.lt {n:Nat}{a:List Int}(ha:Web n a){i j:Nat}(hi:i<n)(h:line a i j=true):j<n:=inSetB_iff (ha.2.2 i hi) h
theorem getD_set (zs:List Int)(i j:Nat)(x:Int)(hi:i<zs.length):(zs.set i x).getD j 0=if i=j then x else zs.getD j 0:=by
 rw[List.getD_eq_getElem?_getD,List.getD_eq_getElem?_getD,List.getElem?_set];by_cases h:i=j
 · subst h;simp[hi]
 · simp[h]
theorem Web.set {n:Nat}{a:List Int}(ha:Web n a){i:Nat}{x:Int}(hx:okB n x=true):Web n (a.set i x):=by
 obtain⟨h1,h2,h3⟩:=ha;refine⟨h1,by simp[h2],fun j hj=>?_⟩;by_cases hi:i<a.length
 ·
  rw[getD_set a i j x hi];split
  · exact hx
  · exact h3 j hj
 · rw[List.set_eq_of_length_le (by omega)];exact h3 j hj
theorem Web.zero {n:Nat}(hn:n≤12):Web n (List.replicate n 0):=by
 refine⟨hn,by simp,fun i hi=>?_⟩;rw[List.getD_eq_getElem?_getD,List.getElem?_replicate,if_pos hi];exact ok_zero hn
theorem workB_useR {dss:List (List Dd)}(h:workB dss=true):dss.length≤3∧∀i,i<dss.length→okL (dss.getD i [])=true:=by
 simp only[workB,Bool.and_eq_true,decide_eq_true_eq] at h;obtain⟨⟨⟨⟨h1,h2⟩,_⟩,_⟩,_⟩:=h;exact⟨h1.2,fun i hi=>all_get [] h2 i hi⟩
theorem evsW_9 {dss:List (List Dd)}(h:workB dss=true):(evsW dss dss.length).length≤9:=by
 simp only[workB,Bool.and_eq_true,decide_eq_true_eq] at h;obtain⟨⟨⟨⟨_,h2⟩,_⟩,h4⟩,_⟩:=h;have:=evsW_len (fun i hi=>all_get [] h2 i hi) dss.length (Nat.le_refl _);omega
end Go.Proofs.YtflehmepjhikcaaDoor
