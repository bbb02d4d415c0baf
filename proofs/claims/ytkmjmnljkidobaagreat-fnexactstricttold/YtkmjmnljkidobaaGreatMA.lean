/- Gathered texts. -/
import Derived.WalkKit
import Derived.ProofKit
import Derived.Laws.BitsAllLaws
import Derived.Laws.BitsLemmas
import Derived.Test.YtkmjmnljkidobaaGreatRows
import Derived.OpenShut
import Derived.Below
import Derived.WalkSmall
import Derived.Laws.Rows
import Derived.Laws.ResultCell
import Derived.Lib.IndexMore
import Derived.Lib.ParseIntB
import Derived.Lib.ItoaNum
import Derived.Maps.AppendAt
import Derived.Laws.OwnMore
import Derived.OwnWalk
import Derived.RangeFuncBox
import Derived.RangeFuncCalls
import Derived.RangeFuncLeaves
import Derived.OwnWalkIn
import Derived.OrdersIn
set_option maxRecDepth 100000
set_option maxHeartbeats 8000000
namespace Go.Proofs.YtkmjmnljkidobaaGreat
open Go.ChangeShapes Go.WideShapes Go.ChangeAt Go.RowKit
open Go.RowKit
theorem ret_bool {a b:Bool}(h:a=b):Ending.returned (.bool a) = .returned (.bool b):=by rw[h]
theorem ret_int {k:IntKind}{a b:Int}(h:a=b):Ending.returned (.int k a) = .returned (.int k b):=by rw[h]
theorem ofInt_i64 (a:Nat)(ha:a<9223372036854775808):(BitVec.ofInt 64 (a:Int)).toNat=a:=ofInt_u64 a (by omega)
theorem i64_or_nat (a b:Nat)(ha:a<9223372036854775808)(hb:b<9223372036854775808):bits .or .i64 (a:Int) (b:Int)=((a ||| b:Nat):Int):=by
 have hx:a ||| b<2 ^ 63:=Nat.or_lt_two_pow (by omega) (by omega);show IntKind.i64.wrap ((BitVec.ofInt 64 (a:Int) ||| BitVec.ofInt 64 (b:Int)).toNat:Int)=_;rw[BitVec.toNat_or,ofInt_i64 a ha,ofInt_i64 b hb,IntKind.wrap_i64];omega
theorem i64_and_nat (a b:Nat)(ha:a<9223372036854775808)(hb:b<9223372036854775808):bits .and .i64 (a:Int) (b:Int)=((a &&& b:Nat):Int):=by
 have hx:a &&& b<2 ^ 63:=Nat.and_lt_two_pow _ (by omega);show IntKind.i64.wrap ((BitVec.ofInt 64 (a:Int) &&& BitVec.ofInt 64 (b:Int)).toNat:Int)=_;rw[BitVec.toNat_and,ofInt_i64 a ha,ofInt_i64 b hb,IntKind.wrap_i64];omega
theorem pow_le12 (n:Nat)(h:n≤12):(2:Int) ^ n≤4096∧(1:Int)≤2 ^ n:=by
 have:n=0∨n=1∨n=2∨n=3∨n=4∨n=5∨n=6∨n=7∨n=8∨n=9∨n=10∨n=11∨n=12:=by omega
 rcases this with rfl|rfl|rfl|rfl|rfl|rfl|rfl|rfl|rfl|rfl|rfl|rfl|rfl<;>decide
theorem wrap64_small (x:Int)(h1:-9223372036854775808≤x)(h2:x≤9223372036854775807):wrap64 x=x:=by
 simp only[wrap64];omega
theorem wrap64_pow (n:Int)(h0:0≤n)(h:n≤12):wrap64 (2 ^ n.toNat)=2 ^ n.toNat:=by
 have:=pow_le12 n.toNat (by omega);exact wrap64_small _ (by omega) (by omega)
def inB (x lo hi:Int):Bool:=decide (lo≤x∧x≤hi)
def okB (n s:Int):Bool:=decide ((0≤n∧n≤12)∧0≤s∧s<2 ^ n.toNat)
def bitB (s i:Int):Bool:=bits .and .i64 (s / 2 ^ i.toNat) 1==1
def inSetB (s i:Int):Bool:=inB i 0 11&&inB s 0 4095&&bitB s i
def mem (s:Int):Nat→List Int
 | 0=>[]
 |k+1=>mem s k++(if inSetB s k=true then [(k:Int)] else [])
def gAdd (s i:Int):Int:=if s=-1∨inB i 0 11=false then -1 else bits .or .i64 s (wrap64 (2 ^ i.toNat))
theorem mem_len (s:Int)(k:Nat):(mem s k).length≤k:=by
 induction k with
 |zero=>simp[mem]
 |succ k ih=>unfold mem;split<;>simp<;>omega
theorem gAdd_bad (s i:Int)(h:inB i 0 11=false):gAdd s i=-1:=by simp[gAdd,h]
theorem gAdd_none (i:Int):gAdd (-1) i=-1:=by simp[gAdd]
theorem gAdd_ok (s i:Int)(h0:0≤s)(h:inB i 0 11=true):gAdd s i=bits .or .i64 s (wrap64 (2 ^ i.toNat)):=by
 have:¬s=-1:=by omega
 simp[gAdd,h,this]
theorem take_snoc (l:List Int)(k:Nat)(h:k<l.length):l.take (k+1)=l.take k++[l.getD k 0]:=by
 rw[List.take_succ_eq_append_getElem h,List.getD_eq_getElem?_getD,List.getElem?_eq_getElem h];rfl
def Keep (w w':World):Prop:=Below w.heap.size w w'
theorem Keep.refl (w:World):Keep w w:=Below.refl _ _
theorem Keep.size {w w':World}(h:Keep w w'):w.heap.size≤w'.heap.size:=Below.size h
theorem Keep.trans {a b c:World}(h:Keep a b)(k:Keep b c):Keep a c:=Below.trans h (Below.mono k h.size)
theorem Keep.drew {a w:World}(h:Keep a w):Keep a w.drew:=Below.drew h
theorem Keep.drewN {a w:World}(h:Keep a w)(n:Nat):Keep a (w.drewN n):=below_drewN h n
theorem Keep.alloc {a w:World}(h:Keep a w)(o:Obj):Keep a (w.alloc o):=Below.alloc h h.size o
theorem Keep.grown {a w w':World}{row:Option Nat}(h:Keep a w)(hg:w.grownBy w' row)(hr:∀k,row=some k→a.heap.size≤k):Keep a w':=Below.grown h hg h.size hr
theorem Keep.grownBy {w w':World}(h:Keep w w'):w.grownBy w' none:=⟨Below.os h,Below.tape h,Below.output h,Below.size h,fun k hk _=>Below.block h k hk⟩
theorem Keep.cell {w w':World}(h:Keep w w'){b o:Nat}(hb:b<w.heap.size):w'.cell? ⟨b,o,none⟩=w.cell? ⟨b,o,none⟩:=Below.cell h hb
theorem grown_trans {a b c:World}{row:Option Nat}(h:a.grownBy b row)(k:b.grownBy c row):a.grownBy c row:=
 ⟨k.os.trans h.os,k.tape.trans h.tape,k.output.trans h.output,Nat.le_trans h.size k.size,fun i hi hne=>(k.block i (Nat.lt_of_lt_of_le hi h.size) hne).trans (h.block i hi hne)⟩
def Rd (w:World)(v:Value)(zs:List Int):Prop:=
 ∃(a:Option Addr) (cap:Nat),v = .slice a zs.length cap ∧
  (zs=[]∨∃b off,a=some ⟨b,off,none⟩∧b<w.heap.size∧∀i,i<zs.length→w.cell? ⟨b,off+i,none⟩=some (.int .i64 (zs.getD i 0)))
theorem Rd.keep {w w':World}{v:Value}{zs:List Int}(h:Rd w v zs)(k:Keep w w'):Rd w' v zs:=by
 obtain⟨a,cap,hv,h⟩:=h;refine⟨a,cap,hv,?_⟩;rcases h with h|⟨b,off,ha,hb,hc⟩
 · exact .inl h
 · exact .inr ⟨b,off,ha,Nat.lt_of_lt_of_le hb k.size,fun i hi=>(k.cell hb).trans (hc i hi)⟩
def Own (w:World)(base:Nat)(v:Value)(zs:List Int):Prop:=w.ownsRow base 2 1 v zs.length (zs.map (Value.int .i64))
theorem Own.kept {w w':World}{base:Nat}{v:Value}{zs:List Int}{row:Option Nat}(h:Own w base v zs)(hg:w.grownBy w' row)(hne:v.ownBlock=none∨v.ownBlock≠row):Own w' base v zs:=
 World.ownsRow.kept h hg hne
theorem Own.keep {w w':World}{base:Nat}{v:Value}{zs:List Int}(h:Own w base v zs)(k:Keep w w'):Own w' base v zs:=
 Own.kept h k.grownBy (by cases v.ownBlock<;>simp)
theorem Own.rd {w:World}{base:Nat}{v:Value}{zs:List Int}(h:Own w base v zs):Rd w v zs:=by
 have hlt:=World.ownsRow.lt h;rcases h.2 with ⟨rfl,hn⟩|⟨g,cap,cur,rfl,hb,hg,rest⟩
 ·
  have:zs=[]:=List.eq_nil_of_length_eq_zero hn;subst this;exact⟨none,0,rfl,.inl rfl⟩
 ·
  refine⟨some ⟨g,0,none⟩,cap,rfl,.inr ⟨g,0,rfl,(hlt g rfl).2,fun i hi=>?_⟩⟩;have hc:=World.ownsRow.cellAt h i (by simpa using hi);rw[Nat.zero_add,hc,List.getElem?_map,List.getElem?_eq_getElem hi,List.getD_eq_getElem?_getD,List.getElem?_eq_getElem hi];rfl
theorem Own.base_le {w:World}{base base':Nat}{v:Value}{zs:List Int}(h:Own w base v zs)(hb:base'≤base):Own w base' v zs:=by
 refine⟨h.1,?_⟩;rcases h.2 with h|⟨g,cap,cur,hv,hg,rest⟩
 · exact .inl h
 · exact .inr ⟨g,cap,cur,hv,Nat.le_trans hb hg,rest⟩
theorem Own.ge {w:World}{base:Nat}{v:Value}{zs:List Int}(h:Own w base v zs):∀k,v.ownBlock=some k→base≤k:=fun k hk=>(World.ownsRow.lt h k hk).1
theorem Own.apart {w w':World}{base:Nat}{v v':Value}{zs zs':List Int}(h:Own w base v zs)(h':Own w' w.heap.size v' zs'):v.ownBlock=none∨v.ownBlock≠v'.ownBlock:=by
 cases hv:v.ownBlock with
 |none=>exact .inl rfl
 |some k=>
  refine .inr fun e=>?_
  have h1:=(World.ownsRow.lt h k hv).2;have h2:=h'.ge k e.symm;omega
theorem own_hit {w:World}{base:Nat}{v:Value}{zs:List Int}{x:Int}(h:w.ownsRow base 2 1 v (zs.length+1) (zs.map (Value.int .i64)++[.int .i64 x])):Own w base v (zs++[x]):=by
 unfold Own;simpa using h
theorem Tryz.infoI:(Tryz.prog.info? 2).map (fun i=>(i.zero,i.size,i.bytes))=some (some (.int .i64 0),1,8):=by kernel_rfl
theorem range_getD {α:Type}(f:Nat→α)(n i:Nat)(z:α)(h:i<n):((List.range n).map f).getD i z=f i:=by
 rw[List.getD_eq_getElem?_getD,List.getElem?_map,List.getElem?_range h];rfl
theorem plain_add {b o i:Nat}:(⟨b,o,none⟩:Addr).add i=⟨b,o+i,none⟩:=by unfold Addr.add;split<;>simp_all
theorem block_lt {w:World}{b o:Nat}{v:Value}(h:w.cell? ⟨b,o,none⟩=some v):b<w.heap.size:=by
 apply Classical.byContradiction;intro hn;have h3:w.heap[b]? = none:=by simp;omega
 simp[World.cell?,h3] at h
theorem heap_at (w:World)(A:Obj)(i:Nat):(w.alloc A).heap[i]? = if i=w.heap.size then some A else w.heap[i]?:=Array.getElem?_push
theorem heap_size (w:World)(A:Obj):(w.alloc A).heap.size=w.heap.size+1:=Array.size_push _
theorem heap_drew (w:World):w.drew.heap=w.heap:=rfl
theorem box_size {w w1:World}{o:Obj}(k:Keep (w.alloc o) w1):w.heap.size<w1.heap.size:=by
 have:=k.size;rw[heap_size] at this;omega
theorem box_cell {w w1:World}{cs:Array Value}{t:TypeId}(k:Keep (w.alloc (.cells cs t)) w1)(i:Nat):w1.cell? ⟨w.heap.size,i,none⟩=cs[i]?:=by
 rw[k.cell (by rw[heap_size];omega),cell_of_row (w.alloc (.cells cs t)) w.heap.size i cs t (0,0) (heap_alloc_new w _)]
theorem box_heap {w w1:World}{o:Obj}(k:Keep (w.alloc o) w1):w1.heap[w.heap.size]? = some o:=
 (Below.block k w.heap.size (by rw[heap_size];omega)).trans (heap_alloc_new w o)
theorem results_row {P:Program}{fn:Func}{p:Tmp}{ty:TypeId}(h:fn.results=#[.cell p ty])(tmps:Array Value)(w:World)(g:Nat)(t:TypeId)(cs:Array Value)(fr:Nat×Nat)(d:TypeDesc)
  (hp:tmps.getD p undef = .pointer (some ⟨g,0,none⟩)) (hg:w.heap[g]? = some (.cells cs t fr))
  (hu:P.underlying ty=some d) (hd:(match d with | .struct _ | .array _ _=>true|_=>false)=true) (hi:(P.info? ty).map (·.size)=some cs.size):
  (results fn tmps).run P w = .ok (.agg cs) w:=results_cell_row h tmps w g t cs fr d hp hg hu hd hi
theorem results_row_tmp {P:Program}{fn:Func}{p u:Tmp}{ty:TypeId}(h:fn.results=#[.cell p ty,.tmp u])(tmps:Array Value)(w:World)(g:Nat)(t:TypeId)(cs:Array Value)(fr:Nat×Nat)(d:TypeDesc)(v:Value)
  (hp:tmps.getD p undef = .pointer (some ⟨g,0,none⟩)) (hg:w.heap[g]? = some (.cells cs t fr)) (hv:tmps.getD u undef=v)
  (hu:P.underlying ty=some d) (hd:(match d with | .struct _ | .array _ _=>true|_=>false)=true) (hi:(P.info? ty).map (·.size)=some cs.size):
  (results fn tmps).run P w = .ok (.tuple #[.agg cs,v]) w:=by
 rw[results_cell_tmp h,hp,hv];simp[asAddr,run_loadVar_row w g t ty cs fr d hg hu hd hi,Result.andThen]
theorem results_row2 {P:Program}{fn:Func}{p q:Tmp}{ty:TypeId}(h:fn.results=#[.cell p ty,.cell q ty])(tmps:Array Value)(w:World)(g g':Nat)(t t':TypeId)(cs cs':Array Value)(fr fr':Nat×Nat)(d:TypeDesc)
  (hp:tmps.getD p undef = .pointer (some ⟨g,0,none⟩)) (hg:w.heap[g]? = some (.cells cs t fr))
  (hq:tmps.getD q undef = .pointer (some ⟨g',0,none⟩)) (hg':w.heap[g']? = some (.cells cs' t' fr'))
  (hu:P.underlying ty=some d) (hd:(match d with | .struct _ | .array _ _=>true|_=>false)=true) (hi:(P.info? ty).map (·.size)=some cs.size) (hi':(P.info? ty).map (·.size)=some cs'.size):
  (results fn tmps).run P w = .ok (.tuple #[.agg cs,.agg cs']) w:=by
 have hp':tmps[p]?.getD undef = .pointer (some ⟨g,0,none⟩):=by simpa using hp
 have hq':tmps[q]?.getD undef = .pointer (some ⟨g',0,none⟩):=by simpa using hq
 simp[results,h,hp',hq',asAddr,run_loadVar_row w g t ty cs fr d hg hu hd hi,run_loadVar_row w g' t' ty cs' fr' d hg' hu hd hi']
def deedB (k p v g:Int):Bool:=
 decide ((1≤k∧k≤4)∧(0≤p∧p≤2)∧(0≤g∧g≤9)∧(k=4→p=0)∧(2<k→g=0)∧((k=2∨k=3)→1≤v∧v≤9)∧(¬(k=2∨k=3)→v=0))
abbrev Dd:=Int×Int×Int×Int
def zD:Dd:=(0,0,0,0)
def okD (d:Dd):Bool:=deedB d.1 d.2.1 d.2.2.1 d.2.2.2
def evD (d:Dd):Int:=if d.1=1 then 1 else if d.1=2 then 1 else if d.1=3 then 2 else 0
def evK (ds:List Dd):Nat→Int
 | 0=>0
 |k+1=>evK ds k+evD (ds.getD k zD)
def evW (dss:List (List Dd)):Nat→Int
 | 0=>0
 |i+1=>evW dss i+evK (dss.getD i []) (dss.getD i []).length
theorem evD_in (d:Dd):0≤evD d∧evD d≤2:=by
 unfold evD
 repeat' split
 all_goals omega
theorem evK_in (ds:List Dd):∀k:Nat,0≤evK ds k∧evK ds k≤2*k
 | 0=>by simp[evK]
 |k+1=>by have:=evK_in ds k;have:=evD_in (ds.getD k zD);rw[evK];omega
def grpK (i:Nat)(own:List Int)(ds:List Dd):Nat→Option (List Int)
 | 0=>some own
 |k+1=>match grpK i own ds k with
  |none=>none
  |some o=>
   if (ds.getD k zD).2.2.2=0 then some o
   else if o.getD (ds.getD k zD).2.2.2.toNat 0≠0∧(o.getD (ds.getD k zD).2.2.2.toNat 0≠(i:Int)+1∨k=0∨(ds.getD (k-1) zD).2.2.2≠(ds.getD k zD).2.2.2) then none
   else some (o.set (ds.getD k zD).2.2.2.toNat ((i:Int)+1))
def grpW (dss:List (List Dd)):Nat→Option (List Int)
 | 0=>some (List.replicate 10 0)
 |i+1=>match grpW dss i with
  |none=>none
  |some o=>grpK i o (dss.getD i []) (dss.getD i []).length
def grpB (dss:List (List Dd)):Bool:=(grpW dss dss.length).isSome
def lenW:List (List Dd)→Nat
 | []=>0
 |d::r=>d.length+lenW r
def okL (ds:List Dd):Bool:=ds.all okD&&decide (ds.length≤5)
def workB (dss:List (List Dd)):Bool:=
 decide (1≤dss.length∧dss.length≤3)&&dss.all okL&&decide (lenW dss≤12)&&decide (evW dss dss.length≤6)&&grpB dss
theorem grpK_none {i:Nat}{own:List Int}{ds:List Dd}{k:Nat}(h:grpK i own ds k=none):∀n:Nat,k≤n→grpK i own ds n=none
 | 0,hn=>by
  obtain rfl:k=0:=by omega
  exact h
 |n+1,hn=>by
  by_cases e:k=n+1
  · rw[←e];exact h
  · rw[grpK,grpK_none h n (by omega)]
theorem grpW_none {dss:List (List Dd)}{i:Nat}(h:grpW dss i=none):∀n:Nat,i≤n→grpW dss n=none
 | 0,hn=>by
  obtain rfl:i=0:=by omega
  exact h
 |n+1,hn=>by
  by_cases e:i=n+1
  · rw[←e];exact h
  · rw[grpW,grpW_none h n (by omega)]
theorem grpK_len {i:Nat}{own:List Int}{ds:List Dd}:∀ {k:Nat} {o:List Int},grpK i own ds k=some o→o.length=own.length
 | 0,o,h=>by simp only[grpK,Option.some.injEq] at h;rw[←h]
 |k+1,o,h=>by
  rw[grpK] at h;split at h
  · cases h
  ·
   rename_i o' ho';have ih:=grpK_len ho';split at h
   · simp only[Option.some.injEq] at h;rw[←h];exact ih
   ·
    split at h
    · cases h
    · simp only[Option.some.injEq] at h;rw[←h,List.length_set];exact ih
theorem grpW_len {dss:List (List Dd)}:∀ {i:Nat} {o:List Int},grpW dss i=some o→o.length=10
 | 0,o,h=>by simp only[grpW,Option.some.injEq] at h;rw[←h];simp
 |i+1,o,h=>by
  rw[grpW] at h;split at h
  · cases h
  ·
   rename_i o' ho';rw[grpK_len h];exact grpW_len ho'
theorem all_get {α:Type}{f:α→Bool}{l:List α}(z:α)(h:l.all f=true)(i:Nat)(hi:i<l.length):f (l.getD i z)=true:=by
 rw[List.getD_eq_getElem?_getD,List.getElem?_eq_getElem hi];exact List.all_eq_true.1 h _ (List.getElem_mem hi)
theorem all_of {α:Type}{f:α→Bool}{l:List α}(z:α)(h:∀i,i<l.length→f (l.getD i z)=true):l.all f=true:=by
 rw[List.all_eq_true];intro x hx;obtain⟨i,hi,rfl⟩:=List.getElem_of_mem hx;have:=h i hi
 rwa [List.getD_eq_getElem?_getD,List.getElem?_eq_getElem hi] at this
theorem all_not {α:Type}{f:α→Bool}{l:List α}(z:α)(i:Nat)(hi:i<l.length)(h:f (l.getD i z)=false):l.all f=false:=by
 cases hb:l.all f
 · rfl
 · rw[all_get z hb i hi] at h;cases h
def RdL (w:World)(v:Value)(zss:List (List Int)):Prop:=
 ∃(a:Option Addr) (cap:Nat),v = .slice a zss.length cap ∧
  (zss=[]∨∃b off,a=some ⟨b,off,none⟩∧b<w.heap.size∧∀i,i<zss.length→∃vi,w.cell? ⟨b,off+i,none⟩=some vi∧Rd w vi (zss.getD i []))
theorem RdL.keep {w w':World}{v:Value}{zss:List (List Int)}(h:RdL w v zss)(k:Keep w w'):RdL w' v zss:=by
 obtain⟨a,cap,hv,h⟩:=h;refine⟨a,cap,hv,?_⟩;rcases h with h|⟨b,off,ha,hb,hc⟩
 · exact .inl h
 ·
  refine .inr ⟨b,off,ha,Nat.lt_of_lt_of_le hb k.size,fun i hi=>?_⟩;obtain⟨vi,h1,h2⟩:=hc i hi;exact⟨vi,(k.cell hb).trans h1,h2.keep k⟩
theorem Rd.keptR {w w':World}{v:Value}{zs:List Int}{row:Option Nat}(h:Rd w v zs)(hg:w.grownBy w' row)(hne:v.ownBlock=none∨v.ownBlock≠row):Rd w' v zs:=by
 obtain⟨a,cap,rfl,h⟩:=h;refine⟨a,cap,rfl,?_⟩;rcases h with h|⟨b,off,rfl,hb,hc⟩
 · exact .inl h
 ·
  refine .inr ⟨b,off,rfl,Nat.lt_of_lt_of_le hb hg.size,fun i hi=>?_⟩;rw[World.cell?_of_block (w:=w) (hg.block b hb (fun e=>by rcases hne with h|h<;>simp[Value.ownBlock] at h;exact h e))];exact hc i hi
def capZ:Value→Nat
 | .slice _ _ c=>c
 |_=>0
theorem Own.capz {w:World}{base:Nat}{v:Value}{zs:List Int}(h:Own w base v zs):zs.length≤capZ v:=by
 rcases h.2 with ⟨rfl,hz⟩|⟨g,cap,cur,rfl,hb,hg,hc,_⟩
 · rw[hz];exact Nat.zero_le _
 · exact hc
structure Beside (w:World)(x u:Value)(zs:List Int):Prop where
 rd:Rd w u zs
 ne:u.ownBlock=none∨u.ownBlock≠x.ownBlock
 lt:∀k,u.ownBlock=some k→k<w.heap.size
 cap:zs.length≤capZ u
theorem Beside.keep {w w':World}{x u:Value}{zs:List Int}(h:Beside w x u zs)(k:Keep w w'):Beside w' x u zs:=
 ⟨h.rd.keep k,h.ne,fun j hj=>Nat.lt_of_lt_of_le (h.lt j hj) k.size,h.cap⟩
theorem Beside.grow {w w':World}{x x' u:Value}{zs:List Int}(h:Beside w x u zs)(hg:w.grownBy w' x.ownBlock)(hb:x'.ownBlock=x.ownBlock∨x'.ownBlock=some w.heap.size):Beside w' x' u zs:=by
 refine⟨h.rd.keptR hg h.ne,?_,fun j hj=>Nat.lt_of_lt_of_le (h.lt j hj) hg.size,h.cap⟩;rcases hb with hb|hb
 · rw[hb];exact h.ne
 ·
  cases hu:u.ownBlock with
  |none=>exact .inl rfl
  |some k=>exact .inr (fun e=>by rw[hb] at e;have:=h.lt k hu;have:=Option.some.inj e;omega)
theorem Own.beside {w':World}{x u:Value}{zs:List Int}{base:Nat}(h:Own w' base u zs)(hx:∀k,x.ownBlock=some k→k<base):Beside w' x u zs:=
 ⟨h.rd,by
  cases hu:u.ownBlock with
  |none=>exact .inl rfl
  |some k=>exact .inr (fun e=>by have:=hx k e.symm;have:=h.ge k hu;omega),fun k hk=>(World.ownsRow.lt h k hk).2,h.capz⟩
structure AppL (w:World)(base:Nat)(x:Value)(vs:List Value)(zss:List (List Int)):Prop where
 row:w.ownsRow base 50 1 x zss.length vs
 each:∀i u,vs[i]? = some u→Beside w x u (zss.getD i [])
theorem AppL.keep {w w':World}{base:Nat}{x:Value}{vs:List Value}{zss:List (List Int)}(h:AppL w base x vs zss)(k:Keep w w'):AppL w' base x vs zss:=
 ⟨World.ownsRow.kept h.row k.grownBy (by cases x.ownBlock<;>simp),fun i u hu=>(h.each i u hu).keep k⟩
theorem AppL.lt {w:World}{base:Nat}{x:Value}{vs:List Value}{zss:List (List Int)}(h:AppL w base x vs zss):∀k,x.ownBlock=some k→base≤k∧k<w.heap.size:=World.ownsRow.lt h.row
theorem AppL.rd {w:World}{base:Nat}{x:Value}{vs:List Value}{zss:List (List Int)}(h:AppL w base x vs zss):RdL w x zss:=by
 have hl:=h.row.1;have hlt:=h.lt;have h2:=h.row;rcases h.row.2 with ⟨rfl,hz⟩|⟨g,cap,cur,rfl,hb,hg,_⟩
 · exact⟨none,0,by rw[hz],.inl (List.eq_nil_of_length_eq_zero hz)⟩
 ·
  refine⟨_,_,rfl,.inr ⟨g,0,rfl,(hlt g rfl).2,fun i hi=>?_⟩⟩;have hi':i<vs.length:=by omega
  refine⟨vs[i],?_,(h.each i _ (List.getElem?_eq_getElem hi')).rd⟩;rw[Nat.zero_add,World.ownsRow.cellAt h2 i (by omega),List.getElem?_eq_getElem hi']
def RdLC (w:World)(v:Value)(zss:List (List Int)):Prop:=
 ∃(a:Option Addr) (cap:Nat),v = .slice a zss.length cap ∧
  (zss=[]∨∃b off,a=some ⟨b,off,none⟩∧b<w.heap.size∧∀i,i<zss.length→∃vi,w.cell? ⟨b,off+i,none⟩=some vi∧Rd w vi (zss.getD i [])∧(zss.getD i []).length≤capZ vi)
theorem RdLC.rd {w:World}{v:Value}{zss:List (List Int)}(h:RdLC w v zss):RdL w v zss:=by
 obtain⟨a,cap,hv,h⟩:=h;refine⟨a,cap,hv,?_⟩;rcases h with h|⟨b,off,ha,hb,hc⟩
 · exact .inl h
 ·
  refine .inr ⟨b,off,ha,hb,fun i hi=>?_⟩;obtain⟨vi,h1,h2,_⟩:=hc i hi;exact⟨vi,h1,h2⟩
theorem AppL.rdc {w:World}{base:Nat}{x:Value}{vs:List Value}{zss:List (List Int)}(h:AppL w base x vs zss):RdLC w x zss:=by
 have hl:=h.row.1;have hlt:=h.lt;have h2:=h.row;rcases h.row.2 with ⟨rfl,hz⟩|⟨g,cap,cur,rfl,hb,hg,_⟩
 · exact⟨none,0,by rw[hz],.inl (List.eq_nil_of_length_eq_zero hz)⟩
 ·
  refine⟨_,_,rfl,.inr ⟨g,0,rfl,(hlt g rfl).2,fun i hi=>?_⟩⟩;have hi':i<vs.length:=by omega
  have hE:=h.each i _ (List.getElem?_eq_getElem hi');refine⟨vs[i],?_,hE.rd,hE.cap⟩;rw[Nat.zero_add,World.ownsRow.cellAt h2 i (by omega),List.getElem?_eq_getElem hi']
theorem appL_empty (w:World):AppL (w.alloc (.cells #[] 50)) w.heap.size (.slice (some ⟨w.heap.size,0,none⟩) 0 0) [] []:=
 ⟨World.ownsRow_lit w #[] 0 (Nat.le_refl _) (by decide) (by simp),by simp⟩
theorem AppL.push {w w':World}{base:Nat}{x x' u:Value}{vs:List Value}{zss:List (List Int)}{zs:List Int}(h:AppL w base x vs zss)(hu:Beside w x u zs)
  (ho:w'.ownsRow base 50 1 x' (zss.length+1) (vs++[u])) (hg:w.grownBy w' x.ownBlock) (hb:x'.ownBlock=x.ownBlock∨x'.ownBlock=some w.heap.size):AppL w' base x' (vs++[u]) (zss++[zs]):=by
 have hl:=h.row.1;refine⟨by rw[List.length_append];exact ho,fun i y hy=>?_⟩;by_cases hi:i<vs.length
 ·
  rw[List.getElem?_append_left hi] at hy;have:=(h.each i y hy).grow hg hb;rw[List.getD_eq_getElem?_getD,List.getElem?_append_left (by omega),←List.getD_eq_getElem?_getD];exact this
 ·
  have hi2:i=vs.length:=by
   have:=(List.getElem?_eq_some_iff.1 hy).1;simp at this;omega
  subst hi2;rw[List.getElem?_append_right (Nat.le_refl _),Nat.sub_self] at hy;simp only[List.getElem?_cons_zero,Option.some.injEq] at hy;subst hy;rw[List.getD_eq_getElem?_getD,List.getElem?_append_right (by omega),show vs.length-zss.length=0 by omega];exact hu.grow hg hb
theorem Tryz.infoL:(Tryz.prog.info? 50).map (fun i=>(i.zero,i.size,i.bytes))=some (some (.slice none 0 0),1,24):=by kernel_rfl
structure But (C:Nat→Prop)(w w':World):Prop where
 os:w'.os=w.os
 tape:w'.tape=w.tape
 output:w'.output=w.output
 size:w.heap.size≤w'.heap.size
 block:∀k,k<w.heap.size→¬C k→w'.heap[k]? = w.heap[k]?
theorem But.refl (C:Nat→Prop)(w:World):But C w w:=⟨rfl,rfl,rfl,Nat.le_refl _,fun _ _ _=>rfl⟩
theorem But.trans {C:Nat→Prop}{a b c:World}(h:But C a b)(k:But C b c):But C a c:=
 ⟨k.os.trans h.os,k.tape.trans h.tape,k.output.trans h.output,Nat.le_trans h.size k.size,fun i hi hn=>(k.block i (Nat.lt_of_lt_of_le hi h.size) hn).trans (h.block i hi hn)⟩
theorem But.mono {C C':Nat→Prop}{a b:World}(h:But C a b)(hc:∀k,k<a.heap.size→C k→C' k):But C' a b:=
 ⟨h.os,h.tape,h.output,h.size,fun i hi hn=>h.block i hi (fun e=>hn (hc i hi e))⟩
theorem But.of_below {C:Nat→Prop}{a b:World}(h:Below a.heap.size a b):But C a b:=⟨h.os,h.tape,h.output,h.size,fun i hi _=>h.block i hi⟩
theorem But.of_grown {C:Nat→Prop}{a b:World}{row:Option Nat}(h:a.grownBy b row)(hr:∀k,row=some k→C k):But C a b:=
 ⟨h.os,h.tape,h.output,h.size,fun i hi hn=>h.block i hi (fun e=>hn (hr i e.symm))⟩
theorem But.alloc {C:Nat→Prop}{a b:World}(h:But C a b)(o:Obj):But C a (b.alloc o):=h.trans (But.of_grown (World.grownBy_alloc b o none) (by simp))
theorem But.put {C:Nat→Prop}{a b:World}(h:But C a b){l:Nat}(hl:C l)(o:Obj):But C a (b.putObj l o):=h.trans (But.of_grown (grownBy_putObj' b l o) (fun k e=>by cases e;exact hl))
theorem But.setCell {C:Nat→Prop}{a b:World}(h:But C a b){l:Nat}(hl:C l)(o:Nat)(v:Value):But C a (b.setCell ⟨l,o,none⟩ v):=
 h.trans ⟨rfl,rfl,rfl,by simp[World.setCell],fun k _ hn=>Below.heap_setCell _ _ _ _ (fun e=>hn (by rw[e];exact hl))⟩
theorem But.drew {C:Nat→Prop}{a b:World}(h:But C a b):But C a b.drew:=h.trans ⟨rfl,rfl,rfl,Nat.le_refl _,fun _ _ _=>rfl⟩
def NC (s:Nat)(A:World)(b:Nat):Prop:=s≤b∧∃o:Obj,A.heap[b]? = some o∧o.isCells=false
theorem NC.le {s s':Nat}{A:World}{b:Nat}(h:NC s A b)(hs:s'≤s):NC s' A b:=⟨Nat.le_trans hs h.1,h.2⟩
def Stays (s:Nat)(J:World→Prop):Prop:=∀A B,J A→But (NC s A) A B→J B
def SeqM (P:Program)(gf:Nat)(lb:Array Value)(Pr:Nat→Prop)(N:Nat)(Lie:Nat→Nat→Value→World→Prop)(w0:World):Prop:=
 ∀(C:Nat→Prop) (l:Nat) (J Jx:Nat→World→Prop) (W:World),But (fun b=>¬Pr b) w0 W→(∀b,C b→b<W.heap.size∧¬Pr b) →
  (∀k,Stays W.heap.size (J k))→(∀k,Stays W.heap.size (Jx k)) →
  (∀(m k:Nat) (v:Value) (W1:World),k<N→J k W1→Lie W.heap.size k v W1→YieldAt Fence.wide m P l #[v] W1 fun e W'=>
   ∃b:Bool,e = .returned (.bool b)∧But C W1 W'∧(b=true→J (k+1) W')∧(b=false→Jx k W')) →
  J 0 W →
  Calls P gf (#[.func (.yield l) #[] #[]]++lb) W fun e W'=>(∃v,e = .returned v)∧(J N W'∨∃k,k<N∧Jx k W')
def postM (C:Nat→Prop)(I:Nat→World→Prop)(Ix:Code→Nat→World→Prop)(k:Nat)(W:World):Exit→Act→World→Prop
 | .normal,_,W'=>But C W W'∧I (k+1) W'
 | .ret,_,W'=>But C W W'∧Ix .ret k W'
 | .exit id,_,W'=>But C W W'∧Ix (.exit id) k W'
 | .goto t,_,W'=>But C W W'∧Ix (.goto t) k W'
 | .panic _,_,_=>False
 | .outgrown,_,_=>False
theorem wp_rangeM {n:Nat}{P:Program}{g:Operand}{ps:Array Tmp}{assign body:Code}{Q:Exit→Act→World→Prop}{a:Act}{w:World}{gf:Nat}{lb:Array Value}{Pr:Nat→Prop}{N:Nat}{Lie:Nat→Nat→Value→World→Prop}{w0:World}
  (hg:a.eval g = .func (.func gf) #[] lb) (eg:∀args w,(callFunc gf args).run P w = .ok (.enter gf args) w) (hps:ps.size=1)
  (hseq:SeqM P gf lb Pr N Lie w0) (hk0:But (fun b=>¬Pr b) w0 w) (hPr:∀b,Pr b→b<w0.heap.size)
  (C:Nat→Prop) (hC:∀b,C b→b<w.heap.size∧¬Pr b)
  (I:Nat→World→Prop) (Ix:Code→Nat→World→Prop) (hI:∀k,Stays w.heap.size (I k)) (hIx:∀c k,Stays w.heap.size (Ix c k))
  (hL:∀s k v A B,Lie s k v A→But (fun b=>b<s) A B→Lie s k v B) (h0:I 0 w) (a₁:Value→Act)
  (hassign:∀(m:Nat) (v:Value) (W:World) (K:Act→World→Prop),K (a₁ v) W →
   assign.wpIn (Fence.wide.inRound (w.heap.size+1)) m P (Exit.then K (fun _ _ _=>False)) { tmps:=(ps.zip #[v]).foldl (fun t (p,v)=>t.setIfInBounds p v) a.tmps,defers:=[] } W)
  (hbody:∀(m k:Nat) (v:Value) (W:World),k<N→I k W→Lie (w.heap.size+2) k v W→body.wpIn (Fence.wide.inRound (w.heap.size+1)) m P (postM C I Ix k W) (a₁ v) W)
  (hdone:∀W,I N W→W.heap[w.heap.size]? = some (.deferred (some []))→Q .normal { a with defers:={ target:= .collected w.heap.size,args:=#[] }::a.defers } W)
  (hstop:∀c k W,k<N→Ix c k W→W.heap[w.heap.size]? = some (.deferred (some []))→c.wpIn Fence.wide n P Q { a with defers:={ target:= .collected w.heap.size,args:=#[] }::a.defers } W):
  (Code.rangeFunc g ps assign body).wpIn Fence.wide n P Q a w:=by
 have hs0:=hk0.size;refine wpIn_rangeFunc ?_;intro fn hfn;obtain⟨rc,hrc⟩:∃rc:LoopState→Option Code→Loop,rc=fun st pe=>{ state:=st,pending:=pe,fn,tmps:=a.tmps,params:=ps,assign,body,defers:=w.heap.size }:=⟨_,rfl⟩
 obtain⟨W1,hW1⟩:∃W1,W1=(w.alloc (.deferred (some []))).alloc (.loop (rc .ready none)):=⟨_,rfl⟩;have hz:W1.heap.size=w.heap.size+2:=by rw[hW1];simp
 have hB1:Below w.heap.size w W1:=by rw[hW1];exact ((Below.refl _ w).alloc (Nat.le_refl _) _).alloc (by simp) _
 have hl1:W1.heap[w.heap.size+1]? = some (.loop (rc .ready none)):=by
  rw[hW1];have:=World.alloc_heap_new (w.alloc (.deferred (some []))) (.loop (rc .ready none))
  rwa [World.size_alloc] at this
 have hd1:W1.heap[w.heap.size]? = some (.deferred (some [])):=by
  rw[hW1];exact (Below.heap_alloc _ _ _ (by simp)).trans (World.alloc_heap_new w _)
 refine⟨w.heap.size+1,[{ target:= .collected w.heap.size,args:=#[] }],W1,{ target:= .fn (.func gf) lb,args:=#[.func (.yield (w.heap.size+1)) #[] #[]] },W1,gf,#[.func (.yield (w.heap.size+1)) #[] #[]]++lb,W1,?_,?_,?_,?_,?_,?_⟩
 · rw[hW1,hrc];exact run_enterLoop_outer _ _ _ _ _
 ·
  simp only[resolve,hg];simp[go_sem]
 · intro f' _;exact trivial
 · simp[invoke,go_sem,eg]
 · intro h;cases h
 refine callsIn_wide.2 ((hseq (fun b=>C b∨b=w.heap.size+1) (w.heap.size+1)
  (fun k A=>I k A∧A.heap[w.heap.size+1]? = some (.loop (rc .ready none))∧A.heap[w.heap.size]? = some (.deferred (some [])))
  (fun k A=>∃c,Ix c k A∧A.heap[w.heap.size+1]? = some (.loop (rc .done (some c)))∧A.heap[w.heap.size]? = some (.deferred (some [])))
  W1 (hk0.trans (But.of_below hB1)) ?_ ?_ ?_ ?_ ⟨hI 0 _ _ h0 (But.of_below hB1),hl1,hd1⟩).mono ?_)
 ·
  rintro b (hb|rfl)
  · exact⟨by have:=(hC b hb).1;omega,(hC b hb).2⟩
  · exact⟨by omega,fun hp=>by have:=hPr _ hp;omega⟩
 ·
  rintro k A B ⟨h1,h2,h3⟩ hB;have e1:w.heap.size+1<A.heap.size:=(Array.getElem?_eq_some_iff.1 h2).1;have nl:∀b,b<w.heap.size+2→¬NC W1.heap.size A b:=fun b hb h=>by have:=h.1;omega
  exact⟨hI k _ _ h1 (hB.mono (fun b _ hb=>hb.le (by omega))),(hB.block _ e1 (nl _ (by omega))).trans h2,(hB.block _ (by omega) (nl _ (by omega))).trans h3⟩
 ·
  rintro k A B ⟨c,h1,h2,h3⟩ hB;have e1:w.heap.size+1<A.heap.size:=(Array.getElem?_eq_some_iff.1 h2).1;have nl:∀b,b<w.heap.size+2→¬NC W1.heap.size A b:=fun b hb h=>by have:=h.1;omega
  exact⟨c,hIx c k _ _ h1 (hB.mono (fun b _ hb=>hb.le (by omega))),(hB.block _ e1 (nl _ (by omega))).trans h2,(hB.block _ (by omega) (nl _ (by omega))).trans h3⟩
 ·
  rintro m k v W hk ⟨hi,hl,hd⟩ hv;rw[hz] at hv;have hlt:w.heap.size+1<W.heap.size:=(Array.getElem?_eq_some_iff.1 hl).1;have hy:=run_yield (P:=P) (args:=#[v]) hl (by rw[hrc];exact hps.symm);rw[hrc] at hy;refine⟨fn,_,assign,body,hy,roundIn_of_wpIn hfn (hassign m v W _ ⟨_,run_beginRound hl (by rw[hrc]),?_⟩)⟩;clear hy;obtain⟨W2,hW2⟩:∃W2,W2=W.putObj (w.heap.size+1) (.loop { rc .ready none with state:= .busy }):=⟨_,rfl⟩;rw[←hW2];have hl2:W2.heap[w.heap.size+1]? = some (.loop { rc .ready none with state:= .busy }):=by rw[hW2];exact World.putObj_heap_same hlt
  have hd2:W2.heap[w.heap.size]? = some (.deferred (some [])):=by rw[hW2];exact (World.putObj_heap_other (by omega)).trans hd
  have hb2:∀X:Nat→Prop,X (w.heap.size+1)→But X W W2:=fun X hX=>by rw[hW2];exact (But.refl X W).put hX _
  refine wpIn_mono (hbody m k v W2 hk (hI k _ _ hi (hb2 _ ⟨by omega,_,hl,rfl⟩)) (hL _ _ _ _ _ hv (hb2 _ (by omega)))) ?_
  have fin:∀(jump:Option Code) (W3:World),But C W2 W3→∃W4,(Instr.endRound (w.heap.size+1) jump).run P W3 = .ok (.bool jump.isNone) W4∧(∀X:Nat→Prop,X (w.heap.size+1)→But X W3 W4)∧NC w.heap.size W3 (w.heap.size+1) ∧
    W4.heap[w.heap.size+1]? = some (.loop (rc (if jump.isNone then .ready else .done) jump))∧W4.heap[w.heap.size]? = some (.deferred (some [])):=by
   intro jump W3 h3;have e1:w.heap.size+1<W2.heap.size:=(Array.getElem?_eq_some_iff.1 hl2).1;have hl3:W3.heap[w.heap.size+1]? = some (.loop { rc .ready none with state:= .busy }):=(h3.block _ e1 (fun e=>by have:=(hC _ e).1;omega)).trans hl2;have hd3:W3.heap[w.heap.size]? = some (.deferred (some [])):=(h3.block _ (by omega) (fun e=>by have:=(hC _ e).1;omega)).trans hd2;have e3:w.heap.size+1<W3.heap.size:=(Array.getElem?_eq_some_iff.1 hl3).1;have:=run_endRound (P:=P) jump hl3;refine⟨_,this,fun X hX=>(But.refl X W3).put hX _,⟨by omega,_,hl3,rfl⟩,?_,(World.putObj_heap_other (by omega)).trans hd3⟩;rw[World.putObj_heap_same e3,hrc]
  have bu:∀ {W3 W4:World},But C W2 W3→(∀X:Nat→Prop,X (w.heap.size+1)→But X W3 W4)→But (fun b=>C b∨b=w.heap.size+1) W W4:=fun h3 h4=>
   ((hb2 _ (.inr rfl)).trans (h3.mono (fun _ _ hc => .inl hc))).trans (h4 _ (.inr rfl))
  rintro e a3 W3 hp
  cases e with
  |normal=>
   obtain⟨h3,hi3⟩:=hp;obtain⟨W4,hr,h4,hn4,hl4,hd4⟩:=fin none W3 h3;exact⟨_,W4,hr,true,rfl,bu h3 h4,fun _=>⟨hI _ _ _ hi3 (h4 _ hn4),hl4,hd4⟩,fun e=>by cases e⟩
  |ret=>
   obtain⟨h3,hi3⟩:=hp;obtain⟨W4,hr,h4,hn4,hl4,hd4⟩:=fin (some .ret) W3 h3;exact⟨_,W4,hr,false,rfl,bu h3 h4,fun e=>(by cases e),fun _=>⟨.ret,hIx _ _ _ _ hi3 (h4 _ hn4),hl4,hd4⟩⟩
  |exit id=>
   obtain⟨h3,hi3⟩:=hp;obtain⟨W4,hr,h4,hn4,hl4,hd4⟩:=fin (some (.exit id)) W3 h3;exact⟨_,W4,hr,false,rfl,bu h3 h4,fun e=>(by cases e),fun _=>⟨.exit id,hIx _ _ _ _ hi3 (h4 _ hn4),hl4,hd4⟩⟩
  |goto t=>
   obtain⟨h3,hi3⟩:=hp;obtain⟨W4,hr,h4,hn4,hl4,hd4⟩:=fin (some (.goto t)) W3 h3;exact⟨_,W4,hr,false,rfl,bu h3 h4,fun e=>(by cases e),fun _=>⟨.goto t,hIx _ _ _ _ hi3 (h4 _ hn4),hl4,hd4⟩⟩
  |panic ch=>exact hp.elim
  |outgrown=>exact hp.elim
 ·
  rintro e W2 ⟨⟨v,rfl⟩,(⟨hi,hl,hd⟩|⟨k,hk,c,hi,hl,hd⟩)⟩
  ·
   have hr:=run_endLoop (P:=P) hl (by rw[hrc];simp);exact⟨none,_,by rw[hr,hrc],hdone _ (hI _ _ _ hi ((But.refl (NC w.heap.size W2) W2).put ⟨by omega,_,hl,rfl⟩ _)) ((World.putObj_heap_other (by omega)).trans hd)⟩
  ·
   have hr:=run_endLoop (P:=P) hl (by rw[hrc];simp);exact⟨some c,_,by rw[hr,hrc],hstop c k _ hk (hIx _ _ _ _ hi ((But.refl (NC w.heap.size W2) W2).put ⟨by omega,_,hl,rfl⟩ _)) ((World.putObj_heap_other (by omega)).trans hd)⟩
def RowAt (w:World)(g:Nat)(zs:List Int):Prop:=
 ∃(cur:Array Value) (e:TypeId),w.heap[g]? = some (.cells cur e (0,0))∧cur.toList.take zs.length=zs.map (Value.int .i64)
theorem RowAt.lt {w:World}{g:Nat}{zs:List Int}(h:RowAt w g zs):g<w.heap.size:=by
 obtain⟨cur,e,hh,_⟩:=h;exact (Array.getElem?_eq_some_iff.1 hh).1
theorem RowAt.cell {w:World}{g:Nat}{zs:List Int}(h:RowAt w g zs){j:Nat}(hj:j<zs.length):w.cell? ⟨g,j,none⟩=some (.int .i64 (zs.getD j 0)):=by
 obtain⟨cur,e,hh,ht⟩:=h;rw[cell_of_row w g j cur e (0,0) hh];have h1:(cur.toList.take zs.length)[j]? = (zs.map (Value.int .i64))[j]?:=by rw[ht]
 rw[List.getElem?_take,if_pos hj,List.getElem?_map,List.getElem?_eq_getElem hj] at h1;rw[List.getD_eq_getElem?_getD,List.getElem?_eq_getElem hj]
 simpa using h1
theorem RowAt.free {w:World}{g:Nat}{zs:List Int}(h:RowAt w g zs)(j:Nat):w.frozen? ⟨g,j,none⟩=false:=by
 obtain⟨cur,e,hh,_⟩:=h;exact frozen_of_row w g j _ _ hh
theorem RowAt.kept {w w':World}{g:Nat}{zs:List Int}{row:Option Nat}(h:RowAt w g zs)(hg:w.grownBy w' row)(hne:row≠some g):RowAt w' g zs:=by
 have hlt:=h.lt;obtain⟨cur,e,hh,ht⟩:=h;exact⟨cur,e,by rw[hg.block g hlt (fun e=>hne e.symm)];exact hh,ht⟩
theorem RowAt.keep {w w':World}{g:Nat}{zs:List Int}(h:RowAt w g zs)(k:Keep w w'):RowAt w' g zs:=h.kept k.grownBy (by simp)
theorem grown_set (w:World)(g j:Nat)(v:Value):w.grownBy (w.setCell ⟨g,j,none⟩ v) (some g):=
 ⟨rfl,rfl,rfl,by simp,fun k _ hk=>heap_setCell_other w ⟨g,j,none⟩ k v (fun e=>hk (by simp[e]))⟩
theorem grown_draw (w:World)(n:Nat)(row:Option Nat):w.grownBy (w.drewN n) row:=⟨rfl,rfl,rfl,Nat.le_refl _,fun _ _ _=>rfl⟩
theorem grown_drew (w:World)(row:Option Nat):w.grownBy w.drew row:=⟨rfl,rfl,rfl,Nat.le_refl _,fun _ _ _=>rfl⟩
theorem RowAt.drewN {w:World}{g:Nat}{zs:List Int}(h:RowAt w g zs)(n:Nat):RowAt (w.drewN n) g zs:=h.kept (row:=none) (grown_draw w n none) (by simp)
theorem RowAt.drew {w:World}{g:Nat}{zs:List Int}(h:RowAt w g zs):RowAt w.drew g zs:=h.kept (row:=none) (grown_drew w none) (by simp)
theorem take_set_val (l:List Value)(zs:List Int)(j:Nat)(x:Int)(h:l.take zs.length=zs.map (Value.int .i64)):
  (l.set j (.int .i64 x)).take (zs.set j x).length=(zs.set j x).map (Value.int .i64):=by
 rw[List.length_set,List.take_set,h,List.map_set]
theorem RowAt.set {w:World}{g:Nat}{zs:List Int}(h:RowAt w g zs)(j:Nat)(x:Int):RowAt (w.setCell ⟨g,j,none⟩ (.int .i64 x)) g (zs.set j x):=by
 obtain⟨cur,e,hh,ht⟩:=h;refine⟨cur.setIfInBounds j (.int .i64 x),e,?_,?_⟩
 · rw[heap_setCell_same w g j _ _ _ hh]
 ·
  rw[Array.toList_setIfInBounds];exact take_set_val _ zs j x ht
def Row (w:World)(base:Nat)(v:Value)(zs:List Int):Prop:=
 (v = .slice none 0 0∧zs=[])∨∃g cap,v = .slice (some ⟨g,0,none⟩) zs.length cap∧base≤g∧RowAt w g zs
theorem Own.row {w:World}{base:Nat}{v:Value}{zs:List Int}(h:Own w base v zs):Row w base v zs:=by
 rcases h.2 with ⟨rfl,hn⟩|⟨g,cap,cur,rfl,hb,hg,_,_,_,ht⟩
 · exact .inl ⟨rfl,List.eq_nil_of_length_eq_zero hn⟩
 · exact .inr ⟨g,cap,rfl,hb,cur,_,hg,by rw[Nat.mul_one] at ht;exact ht⟩
theorem Row.lt {w:World}{base:Nat}{v:Value}{zs:List Int}(h:Row w base v zs):∀k,v.ownBlock=some k→base≤k∧k<w.heap.size:=by
 intro k hk;rcases h with ⟨rfl,_⟩|⟨g,cap,rfl,hb,hr⟩
 · simp[Value.ownBlock] at hk
 · simp[Value.ownBlock] at hk;subst hk;exact⟨hb,hr.lt⟩
theorem Row.ge {w:World}{base:Nat}{v:Value}{zs:List Int}(h:Row w base v zs):∀k,v.ownBlock=some k→base≤k:=fun k hk=>(h.lt k hk).1
theorem Row.kept {w w':World}{base:Nat}{v:Value}{zs:List Int}{row:Option Nat}(h:Row w base v zs)(hg:w.grownBy w' row)(hne:v.ownBlock=none∨v.ownBlock≠row):Row w' base v zs:=by
 rcases h with h|⟨g,cap,rfl,hb,hr⟩
 · exact .inl h
 ·
  refine .inr ⟨g,cap,rfl,hb,hr.kept hg ?_⟩;simp[Value.ownBlock] at hne;exact fun e=>hne e.symm
theorem Row.rd {w:World}{base:Nat}{v:Value}{zs:List Int}(h:Row w base v zs):Rd w v zs:=by
 rcases h with ⟨rfl,rfl⟩|⟨g,cap,rfl,hb,hr⟩
 · exact⟨none,0,rfl,.inl rfl⟩
 · exact⟨some ⟨g,0,none⟩,cap,rfl,.inr ⟨g,0,rfl,hr.lt,fun i hi=>by rw[Nat.zero_add];exact hr.cell hi⟩⟩
theorem Row.base_le {w:World}{base base':Nat}{v:Value}{zs:List Int}(h:Row w base v zs)(hb:base'≤base):Row w base' v zs:=by
 rcases h with h|⟨g,cap,hv,hg,hr⟩
 · exact .inl h
 · exact .inr ⟨g,cap,hv,Nat.le_trans hb hg,hr⟩
theorem row_new {w:World}{g n cap base:Nat}{zs:List Int}(h:RowAt w g zs)(hb:base≤g)(hn:zs.length=n):Row w base (.slice (some ⟨g,0,none⟩) n cap) zs:=by
 subst hn;exact .inr ⟨g,cap,rfl,hb,h⟩
theorem row_empty (w:World)(e:TypeId):Row (w.alloc (.cells #[] e)) w.heap.size (.slice (some ⟨w.heap.size,0,none⟩) 0 0) []:=
 .inr ⟨w.heap.size,0,rfl,Nat.le_refl _,#[],e,heap_alloc_new w _,rfl⟩
theorem But.cell {C:Nat→Prop}{w w':World}(h:But C w w'){b o:Nat}(hb:b<w.heap.size)(hn:¬C b):w'.cell? ⟨b,o,none⟩=w.cell? ⟨b,o,none⟩:=World.cell?_of_block (w:=w) (h.block b hb hn)
theorem But.keep {C:Nat→Prop}{a b c:World}(h:But C a b)(k:Keep b c):But C a c:=h.trans (But.of_below k)
theorem Own.but {C:Nat→Prop}{w w':World}{s:Nat}{v:Value}{zs:List Int}(h:Own w s v zs)(k:But C w w')(hc:∀b,s≤b→(∃o:Obj,w.heap[b]? = some o∧o.isCells=true)→¬C b):Own w' s v zs:=by
 have hlt:=World.ownsRow.lt h;obtain⟨h1,h2⟩:=h;refine⟨h1,?_⟩;rcases h2 with h2|⟨g,cap,cur,rfl,hb,hg,rest⟩
 · exact .inl h2
 ·
  have:=(hlt g rfl).2;exact .inr ⟨g,cap,cur,rfl,hb,(k.block g this (hc g hb ⟨_,hg,rfl⟩)).trans hg,rest⟩
theorem Own.turn {s t:Nat}{w w':World}{v:Value}{zs:List Int}(h:Own w s v zs)(k:But (NC t w) w w'):Own w' s v zs:=
 h.but k (fun b _ ⟨o,h1,h2⟩ ⟨_,o',h3,h4⟩=>by rw[h1] at h3;cases h3;rw[h2] at h4;cases h4)
def RdR (s1 s2:Nat)(w:World)(v:Value)(zs:List Int):Prop:=
 ∃(a:Option Addr) (cap:Nat),v = .slice a zs.length cap ∧
  (zs=[]∨∃b off,a=some ⟨b,off,none⟩∧s1≤b∧b<s2∧∀i,i<zs.length→w.cell? ⟨b,off+i,none⟩=some (.int .i64 (zs.getD i 0)))
theorem RdR.rd {s1 s2:Nat}{w:World}{v:Value}{zs:List Int}(h:RdR s1 s2 w v zs)(hs:s2≤w.heap.size):Rd w v zs:=by
 obtain⟨a,cap,rfl,h⟩:=h;refine⟨a,cap,rfl,?_⟩;rcases h with h|⟨b,off,rfl,h1,h2,hc⟩
 · exact .inl h
 · exact .inr ⟨b,off,rfl,by omega,hc⟩
theorem RdR.but {C:Nat→Prop}{s1 s2:Nat}{w w':World}{v:Value}{zs:List Int}(h:RdR s1 s2 w v zs)(hs:s2≤w.heap.size)(k:But C w w')(hc:∀b,s1≤b→b<s2→¬C b):RdR s1 s2 w' v zs:=by
 obtain⟨a,cap,rfl,h⟩:=h;refine⟨a,cap,rfl,?_⟩;rcases h with h|⟨b,off,rfl,h1,h2,h3⟩
 · exact .inl h
 · exact .inr ⟨b,off,rfl,h1,h2,fun i hi=>(k.cell (by omega) (hc b h1 h2)).trans (h3 i hi)⟩
def RdP (s1 s2:Nat)(w:World)(v:Value)(n:Nat)(css:List (List Int)):Prop:=
 n≤css.length∧∃(a:Option Addr) (cap:Nat),v = .slice a n cap∧n≤cap ∧
  (n=0∨∃b off,a=some ⟨b,off,none⟩∧s1≤b∧b<s2∧∀i,i<n→∃vi,w.cell? ⟨b,off+i,none⟩=some vi∧RdR s1 s2 w vi (css.getD i []))
theorem RdP.but {C:Nat→Prop}{s1 s2:Nat}{w w':World}{v:Value}{n:Nat}{css:List (List Int)}(h:RdP s1 s2 w v n css)(hs:s2≤w.heap.size)(k:But C w w')(hc:∀b,s1≤b→b<s2→¬C b):RdP s1 s2 w' v n css:=by
 obtain⟨h0,a,cap,rfl,hn,h⟩:=h;refine⟨h0,a,cap,rfl,hn,?_⟩;rcases h with h|⟨b,off,rfl,h1,h2,h3⟩
 · exact .inl h
 ·
  refine .inr ⟨b,off,rfl,h1,h2,fun i hi=>?_⟩;obtain⟨vi,e1,e2⟩:=h3 i hi;exact⟨vi,(k.cell (by omega) (hc b h1 h2)).trans e1,e2.but hs k hc⟩
theorem AppL.rdp {w:World}{base:Nat}{x:Value}{vs:List Value}{zss:List (List Int)}(h:AppL w base x vs zss)(hge:∀(i:Nat) u,vs[i]? = some u→∀k,u.ownBlock=some k→base≤k):RdP base w.heap.size w x zss.length zss:=by
 have hl:=h.row.1;have hlt:=h.lt;have h2:=h.row;refine⟨Nat.le_refl _,?_⟩;rcases h.row.2 with ⟨rfl,hz⟩|⟨g,cap,cur,rfl,hb,hg,hcap,_⟩
 · exact⟨none,0,by rw[hz],by omega,.inl hz⟩
 ·
  refine⟨_,_,rfl,hcap,.inr ⟨g,0,rfl,hb,(hlt g rfl).2,fun i hi=>?_⟩⟩;have hi':i<vs.length:=by omega
  have hE:=h.each i _ (List.getElem?_eq_getElem hi');refine⟨vs[i],?_,?_⟩
  · rw[Nat.zero_add,World.ownsRow.cellAt h2 i (by omega),List.getElem?_eq_getElem hi']
  ·
   have hG:=hge i _ (List.getElem?_eq_getElem hi');obtain⟨a,c,e,hr⟩:=hE.rd;refine⟨a,c,e,?_⟩;rcases hr with hr|⟨b,off,rfl,hb2,hc2⟩
   · exact .inl hr
   · exact .inr ⟨b,off,rfl,hG b (by rw[e];rfl),hb2,hc2⟩
theorem RdP.rdl {s1 s2:Nat}{w:World}{v:Value}{css:List (List Int)}(h:RdP s1 s2 w v css.length css)(hs:s2≤w.heap.size):RdL w v css:=by
 obtain⟨_,a,cap,rfl,_,h⟩:=h;refine⟨a,cap,rfl,?_⟩;rcases h with h|⟨b,off,rfl,h1,h2,h3⟩
 · exact .inl (List.eq_nil_of_length_eq_zero h)
 ·
  refine .inr ⟨b,off,rfl,by omega,fun i hi=>?_⟩;obtain⟨vi,e1,e2⟩:=h3 i hi;exact⟨vi,e1,e2.rd hs⟩
abbrev Ev:=Int×Int×Bool×Int×Int×Int
def zE:Ev:=(0,0,false,0,0,0)
def csE (e:Ev):Int:=e.2.2.2.2.2
def evBeg:List Ev:=[(-1,-1,false,0,0,0),(-1,-1,false,1,0,1),(-1,-1,false,2,0,2)]
def oneE (i k:Nat)(d:Dd)(c:Int):List Ev:=
 if d.1=4 then [] else if d.1=3 then [((i:Int),(k:Int),true,d.2.1,0,c),((i:Int),(k:Int),false,d.2.1,d.2.2.1,c)]
 else if d.1=2 then [((i:Int),(k:Int),false,d.2.1,d.2.2.1,c)] else [((i:Int),(k:Int),true,d.2.1,0,c)]
def fstE (g:Int)(at0:Nat)(f:List Int):List Int:=if 0<g∧f.getD g.toNat 0=0 then f.set g.toNat (at0:Int) else f
def clsE (g:Int)(at0:Nat)(f:List Int):Int:=if 0<g then (fstE g at0 f).getD g.toNat 0 else (at0:Int)
def stepE (i k:Nat)(d:Dd)(s:List Ev×List Int):List Ev×List Int:=
 if d.1=4 then s else (s.1++oneE i k d (clsE d.2.2.2 s.1.length s.2),fstE d.2.2.2 s.1.length s.2)
def clkE (i:Nat)(ds:List Dd)(out:List Ev):Nat→List Ev×List Int
 | 0=>(out,List.replicate 10 0)
 |k+1=>stepE i k (ds.getD k zD) (clkE i ds out k)
def evsW (dss:List (List Dd)):Nat→List Ev
 | 0=>evBeg
 |i+1=>(clkE i (dss.getD i []) (evsW dss i) (dss.getD i []).length).1
def eventsB (dss:List (List Dd)):List Ev:=if workB dss=true then evsW dss dss.length else []
theorem oneE_len (i k:Nat)(d:Dd)(c:Int)(h:d.1=1∨d.1=2∨d.1=3∨d.1=4):((oneE i k d c).length:Int)=evD d:=by
 unfold oneE evD;rcases h with h|h|h|h<;>simp[h]
theorem okD_kindE {d:Dd}(h:okD d=true):d.1=1∨d.1=2∨d.1=3∨d.1=4:=by
 simp[okD,deedB] at h;omega
theorem okD_restE {d:Dd}(h:okD d=true):0≤d.2.1∧d.2.1≤2∧0≤d.2.2.2∧d.2.2.2≤9∧(2<d.1→d.2.2.2=0):=by
 simp[okD,deedB] at h;omega
theorem clkE_len {i:Nat}{ds:List Dd}{out:List Ev}(hok:∀j,j<ds.length→okD (ds.getD j zD)=true):∀k:Nat,k≤ds.length→((clkE i ds out k).1.length:Int)=out.length+evK ds k
 | 0,_=>by simp[clkE,evK]
 |k+1,h=>by
  have ih:=clkE_len (i:=i) (out:=out) hok k (by omega);have hk:=okD_kindE (hok k (by omega));rw[clkE,stepE,evK];split
  ·
   rename_i h4;rw[ih];unfold evD;rw[h4];simp
  ·
   have:=oneE_len i k (ds.getD k zD) (clsE (ds.getD k zD).2.2.2 (clkE i ds out k).1.length (clkE i ds out k).2) hk;rw[List.length_append];omega
theorem evsW_len {dss:List (List Dd)}(hok:∀i,i<dss.length→okL (dss.getD i [])=true):∀n:Nat,n≤dss.length→((evsW dss n).length:Int)=3+evW dss n
 | 0,_=>by simp[evsW,evBeg,evW]
 |n+1,h=>by
  have ih:=evsW_len hok n (by omega);have hn:=hok n (by omega);simp only[okL,Bool.and_eq_true,decide_eq_true_eq] at hn;rw[evsW,clkE_len (fun j hj=>all_get zD hn.1 j hj) _ (Nat.le_refl _),ih,evW];omega
def GoodE (dss:List (List Dd))(out:List Ev)(j:Nat):Prop:=
 ∃(i k c:Nat) (rd:Bool) (vl:Int),out[j]? = some ((i:Int),(k:Int),rd,((dss.getD i []).getD k zD).2.1,vl,(c:Int))∧i<dss.length∧k<(dss.getD i []).length ∧
  (rd=true→vl=0)∧(rd=false→vl=((dss.getD i []).getD k zD).2.2.1)∧c≤j ∧
  ∃(k':Nat) (rd':Bool) (pl' vl':Int),out[c]? = some ((i:Int),(k':Int),rd',pl',vl',(c:Int))∧k'<(dss.getD i []).length ∧
   (c≠j→((dss.getD i []).getD k zD).1≠3→((dss.getD i []).getD k zD).2.2.2≠0∧((dss.getD i []).getD k' zD).2.2.2=((dss.getD i []).getD k zD).2.2.2)
theorem at_left {α:Type}{l:List α}{j:Nat}{x:α}(t:List α)(h:l[j]? = some x):(l++t)[j]? = some x:=by
 rw[List.getElem?_append_left (List.getElem?_eq_some_iff.1 h).1];exact h
theorem GoodE.more {dss:List (List Dd)}{out:List Ev}{j:Nat}(h:GoodE dss out j)(t:List Ev):GoodE dss (out++t) j:=by
 obtain⟨i,k,c,rd,vl,h1,h2,h3,h4,h5,h6,k',rd',pl',vl',g1,g2,g3⟩:=h;exact⟨i,k,c,rd,vl,at_left t h1,h2,h3,h4,h5,h6,k',rd',pl',vl',at_left t g1,g2,g3⟩
def FstOk (dss:List (List Dd))(i:Nat)(out:List Ev)(f:List Int):Prop:=
 f.length=10∧∀g:Nat,0<g→g<10→f.getD g 0=0∨∃(c k':Nat) (rd':Bool) (pl' vl':Int),f.getD g 0=(c:Int)∧out[c]? = some ((i:Int),(k':Int),rd',pl',vl',(c:Int))∧k'<(dss.getD i []).length∧((dss.getD i []).getD k' zD).2.2.2=(g:Int)
theorem getD_setE (o:List Int)(g:Nat)(x:Int)(j:Nat)(hg:g<o.length):(o.set g x).getD j 0=if g=j then x else o.getD j 0:=by
 rw[List.getD_eq_getElem?_getD,List.getElem?_set];by_cases e:g=j
 · subst e;rw[if_pos rfl,if_pos hg,if_pos rfl];rfl
 · rw[if_neg e,if_neg e,List.getD_eq_getElem?_getD]
theorem oneE_first (i k:Nat)(d:Dd)(c:Int)(h4:d.1≠4):∃rd vl,(oneE i k d c)[0]? = some ((i:Int),(k:Int),rd,d.2.1,vl,c)∧(rd=true→vl=0)∧(rd=false→vl=d.2.2.1):=by
 unfold oneE;rw[if_neg h4];split
 · exact⟨true,0,rfl,by simp,by simp⟩
 ·
  split
  · exact⟨false,d.2.2.1,rfl,by simp,by simp⟩
  · exact⟨true,0,rfl,by simp,by simp⟩
theorem step_good {dss:List (List Dd)}{i k:Nat}{out:List Ev}{f:List Int}(hi:i<dss.length)(hk:k<(dss.getD i []).length)(hok:okD ((dss.getD i []).getD k zD)=true)
  (hG:∀j,3≤j→j<out.length→GoodE dss out j) (hF:FstOk dss i out f):
  (∀j,3≤j→j<(stepE i k ((dss.getD i []).getD k zD) (out,f)).1.length→GoodE dss (stepE i k ((dss.getD i []).getD k zD) (out,f)).1 j)∧FstOk dss i (stepE i k ((dss.getD i []).getD k zD) (out,f)).1 (stepE i k ((dss.getD i []).getD k zD) (out,f)).2:=by
 obtain⟨d,hd⟩:∃d,d=(dss.getD i []).getD k zD:=⟨_,rfl⟩;rw[←hd] at hok ⊢;by_cases h4:d.1=4
 · rw[stepE,if_pos h4];exact⟨hG,hF⟩
 rw[stepE,if_neg h4];dsimp only;obtain⟨r0,r1,r2,r3,r4⟩:=okD_restE hok;obtain⟨g,hg⟩:=Int.eq_ofNat_of_zero_le r2;obtain⟨hl,hf⟩:=hF
 have hcls:∃(c k':Nat) (rd':Bool) (pl' vl':Int),clsE d.2.2.2 out.length f=(c:Int)∧c≤out.length∧(out++oneE i k d (clsE d.2.2.2 out.length f))[c]? = some ((i:Int),(k':Int),rd',pl',vl',(c:Int))∧k'<(dss.getD i []).length ∧
   (c≠out.length→d.2.2.2≠0∧((dss.getD i []).getD k' zD).2.2.2=d.2.2.2)∧(c=out.length→k'=k):=by
  obtain⟨rd,vl,ho,_,_⟩:=oneE_first i k d (clsE d.2.2.2 out.length f) h4
  have new:clsE d.2.2.2 out.length f=(out.length:Int)→(out++oneE i k d (clsE d.2.2.2 out.length f))[out.length]? = some ((i:Int),(k:Int),rd,d.2.1,vl,((out.length:Nat):Int)):=fun e=>by
   rw[List.getElem?_append_right (Nat.le_refl _),Nat.sub_self,ho,e]
  by_cases hg0:g=0
  ·
   have e:clsE d.2.2.2 out.length f=(out.length:Int):=by unfold clsE;rw[hg,if_neg (by omega)]
   exact⟨out.length,k,rd,d.2.1,vl,e,Nat.le_refl _,new e,hk,fun h=>absurd rfl h,fun _=>rfl⟩
  ·
   have gp:(0:Int)<d.2.2.2:=by rw[hg];omega
   have g10:g<10:=by rw[hg] at r3;omega
   rcases hf g (by omega) g10 with h0|⟨c,k',rd',pl',vl',e1,e2,e3,e4⟩
   ·
    have e:clsE d.2.2.2 out.length f=(out.length:Int):=by
     unfold clsE fstE;rw[if_pos gp,hg,Int.toNat_natCast,if_pos ⟨by omega,h0⟩,getD_setE f g _ g (by omega),if_pos rfl]
    exact⟨out.length,k,rd,d.2.1,vl,e,Nat.le_refl _,new e,hk,fun h=>absurd rfl h,fun _=>rfl⟩
   ·
    have cl:c<out.length:=(List.getElem?_eq_some_iff.1 e2).1;by_cases hc0:(c:Int)=0
    ·
     have e:clsE d.2.2.2 out.length f=(out.length:Int):=by
      unfold clsE fstE;rw[if_pos gp,hg,Int.toNat_natCast,if_pos ⟨by omega,by rw[e1];exact hc0⟩,getD_setE f g _ g (by omega),if_pos rfl]
     exact⟨out.length,k,rd,d.2.1,vl,e,Nat.le_refl _,new e,hk,fun h=>absurd rfl h,fun _=>rfl⟩
    ·
     have e:clsE d.2.2.2 out.length f=(c:Int):=by
      unfold clsE fstE;rw[if_pos gp,hg,Int.toNat_natCast,if_neg (by rw[e1];omega),e1]
     exact⟨c,k',rd',pl',vl',e,by omega,at_left _ e2,e3,fun _=>⟨by omega,by rw[e4,hg]⟩,fun h=>by omega⟩
 obtain⟨c,k',rd',pl',vl',hc,hcl,hce,hk',hcg,hcn⟩:=hcls;rw[hc] at hce ⊢;refine⟨fun j hj3 hj=>?_,?_⟩
 ·
  by_cases hold:j<out.length
  · exact (hG j hj3 hold).more _
  ·
   have e1:(out++oneE i k d (c:Int))[j]? = (oneE i k d (c:Int))[j-out.length]?:=List.getElem?_append_right (by omega);have hjl:j-out.length<(oneE i k d (c:Int)).length:=by rw[List.length_append] at hj;omega
   have form:∃rd vl,(oneE i k d (c:Int))[j-out.length]? = some ((i:Int),(k:Int),rd,d.2.1,vl,(c:Int))∧(rd=true→vl=0)∧(rd=false→vl=d.2.2.1)∧(j≠out.length→d.1=3):=by
    by_cases hz:j-out.length=0
    ·
     obtain⟨rd,vl,ho,h5,h6⟩:=oneE_first i k d (c:Int) h4;exact⟨rd,vl,by rw[hz];exact ho,h5,h6,fun h=>by omega⟩
    ·
     unfold oneE at hjl ⊢;rw[if_neg h4] at hjl ⊢;split at hjl
     ·
      rename_i h3;rw[if_pos h3];have:j-out.length=1:=by simp at hjl;omega
      rw[this];exact⟨false,d.2.2.1,rfl,by simp,by simp,fun _=>h3⟩
     ·
      split at hjl
      · simp at hjl;omega
      · simp at hjl;omega
   obtain⟨rd,vl,h1,h5,h6,h7⟩:=form;refine⟨i,k,c,rd,vl,by rw[e1,←hd];exact h1,hi,hk,h5,by rw[←hd];exact h6,by omega,k',rd',pl',vl',hce,hk',fun hcj h3=>?_⟩;rw[←hd] at h3 ⊢
   have:j=out.length:=by
    apply Classical.byContradiction;intro hne;exact h3 (h7 hne)
   exact hcg (by omega)
 ·
  refine⟨by unfold fstE;split<;>simp[hl],fun q hq0 hq=>?_⟩
  have keepOld:f.getD q 0=0∨∃(c' k'':Nat) (rd'':Bool) (pl'' vl'':Int),f.getD q 0=(c':Int)∧(out++oneE i k d (c:Int))[c']? = some ((i:Int),(k'':Int),rd'',pl'',vl'',(c':Int))∧k''<(dss.getD i []).length∧((dss.getD i []).getD k'' zD).2.2.2=(q:Int):=by
   rcases hf q hq0 hq with h0|⟨c',k'',rd'',pl'',vl'',e1,e2,e3,e4⟩
   · exact .inl h0
   · exact .inr ⟨c',k'',rd'',pl'',vl'',e1,at_left _ e2,e3,e4⟩
  unfold fstE;split
  ·
   rename_i hcond;rw[hg,Int.toNat_natCast] at hcond ⊢;rw[getD_setE f g _ q (by rw[hg] at r3;omega)];by_cases e:g=q
   ·
    subst e;rw[if_pos rfl];right
    have ec:c=out.length:=by
     have:clsE d.2.2.2 out.length f=(out.length:Int):=by
      unfold clsE fstE;rw[if_pos (by rw[hg];exact hcond.1),hg,Int.toNat_natCast,if_pos hcond,getD_setE f g _ g (by rw[hg] at r3;omega),if_pos rfl]
     omega
    have ek:=hcn ec;subst ek;refine⟨out.length,k',rd',pl',vl',rfl,?_,hk',by rw[←hd,hg]⟩;rw[ec] at hce;rw[ec];exact hce
   · rw[if_neg e];exact keepOld
  · exact keepOld
theorem clk_good {dss:List (List Dd)}{i:Nat}{out:List Ev}(hi:i<dss.length)(hok:∀j,j<(dss.getD i []).length→okD ((dss.getD i []).getD j zD)=true)(hG:∀j,3≤j→j<out.length→GoodE dss out j):
  ∀k:Nat,k≤(dss.getD i []).length→(∃t,(clkE i (dss.getD i []) out k).1=out++t)∧(∀j,3≤j→j<(clkE i (dss.getD i []) out k).1.length→GoodE dss (clkE i (dss.getD i []) out k).1 j)∧FstOk dss i (clkE i (dss.getD i []) out k).1 (clkE i (dss.getD i []) out k).2
 | 0,_=>⟨⟨[],by simp[clkE]⟩,hG,by simp[clkE],fun g _ hg => .inl (by simp only[clkE];rw[List.getD_eq_getElem?_getD,List.getElem?_replicate,if_pos hg];rfl)⟩
 |k+1,h=>by
  obtain⟨⟨t,ht⟩,h2,h3⟩:=clk_good hi hok hG k (by omega);have:=step_good (k:=k) hi (by omega) (hok k (by omega)) h2 h3;refine⟨?_,this⟩;rw[clkE,stepE];split
  · exact⟨t,ht⟩
  · exact⟨t++oneE i k ((dss.getD i []).getD k zD) (clsE ((dss.getD i []).getD k zD).2.2.2 (clkE i (dss.getD i []) out k).1.length (clkE i (dss.getD i []) out k).2),by simp only;rw[ht,List.append_assoc]⟩
theorem evs_good {dss:List (List Dd)}(hok:∀i,i<dss.length→okL (dss.getD i [])=true):∀n:Nat,n≤dss.length→(∃t,evsW dss n=evBeg++t)∧∀j,3≤j→j<(evsW dss n).length→GoodE dss (evsW dss n) j
 | 0,_=>⟨⟨[],by simp[evsW]⟩,fun j h1 h2=>by simp[evsW,evBeg] at h2;omega⟩
 |n+1,h=>by
  obtain⟨⟨t,ht⟩,h2⟩:=evs_good hok n (by omega);have hn:=hok n (by omega);simp only[okL,Bool.and_eq_true,decide_eq_true_eq] at hn;obtain⟨⟨t2,ht2⟩,h3,_⟩:=clk_good (i:=n) (out:=evsW dss n) (by omega) (fun j hj=>all_get zD hn.1 j hj) h2 (dss.getD n []).length (Nat.le_refl _);rw[evsW];exact⟨⟨t++t2,by rw[ht2,ht,List.append_assoc]⟩,h3⟩
def rdE (e:Ev):Bool:=e.2.2.1
def toE (p:Int)(e:Ev):Bool:=!e.2.2.1&&(e.2.2.2.1==p)
def idxK (f:Ev→Bool)(l:List Ev):Nat→List Int
 | 0=>[]
 |k+1=>if f (l.getD k zE)=true then idxK f l k++[(k:Int)] else idxK f l k
def idxB (f:Ev→Bool)(l:List Ev):List Int:=if l.length≤12 then idxK f l l.length else []
def clsB (l:List Ev):List Int:=if l.length≤12 then l.map csE else []
theorem idxK_len (f:Ev→Bool)(l:List Ev):∀k:Nat,(idxK f l k).length≤k
 | 0=>by simp[idxK]
 |k+1=>by
  have ih:=idxK_len f l k;rw[idxK];split
  · simp;omega
  · omega
theorem idxK_lt (f:Ev→Bool)(l:List Ev):∀(k:Nat) (x:Int),x∈idxK f l k→0≤x∧x<(k:Int)
 | 0,x,h=>by simp[idxK] at h
 |k+1,x,h=>by
  rw[idxK] at h;split at h
  ·
   rcases List.mem_append.1 h with h|h
   · have:=idxK_lt f l k x h;omega
   · simp at h;omega
  · have:=idxK_lt f l k x h;omega
theorem idxK_rises (f:Ev→Bool)(l:List Ev):∀k:Nat,(idxK f l k).Pairwise (·<·)
 | 0=>by simp[idxK]
 |k+1=>by
  have ih:=idxK_rises f l k;rw[idxK];split
  ·
   rw[List.pairwise_append];refine⟨ih,by simp,fun a ha b hb=>?_⟩;simp at hb;have:=idxK_lt f l k a ha;omega
  · exact ih
theorem idxK_pre (f:Ev→Bool)(l:List Ev)(k:Nat):∀n:Nat,k≤n→∃t,idxK f l n=idxK f l k++t
 | 0,h=>by
  obtain rfl:k=0:=by omega
  exact⟨[],by simp⟩
 |n+1,h=>by
  by_cases e:k=n+1
  · subst e;exact⟨[],by simp⟩
  ·
   obtain⟨t,ht⟩:=idxK_pre f l k n (by omega);rw[idxK];split
   · exact⟨t++[(n:Int)],by rw[ht,List.append_assoc]⟩
   · exact⟨t,ht⟩
theorem idx_sum {l:List Ev}:∀k:Nat,(∀j,j<k→0≤(l.getD j zE).2.2.2.1∧(l.getD j zE).2.2.2.1≤2)→(idxK rdE l k).length+(idxK (toE 0) l k).length+(idxK (toE 1) l k).length+(idxK (toE 2) l k).length=k
 | 0,_=>by simp[idxK]
 |k+1,h=>by
  have ih:=idx_sum (l:=l) k (fun j hj=>h j (by omega));have hp:=h k (by omega);obtain⟨e,he⟩:∃e,e=l.getD k zE:=⟨_,rfl⟩;rw[←he] at hp;simp only[idxK,←he];clear he;obtain⟨a,b,r,p,v,c⟩:=e;simp only at hp;cases r
  ·
   have hr:rdE (a,b,false,p,v,c)=false:=rfl;have:p=0∨p=1∨p=2:=by omega
   rcases this with rfl|rfl|rfl
   ·
    have t0:toE 0 (a,b,false,0,v,c)=true:=rfl;have t1:toE 1 (a,b,false,0,v,c)=false:=rfl;have t2:toE 2 (a,b,false,0,v,c)=false:=rfl;simp only[hr,t0,t1,t2,if_true,Bool.false_eq_true,if_false,List.length_append,List.length_cons,List.length_nil];omega
   ·
    have t0:toE 0 (a,b,false,1,v,c)=false:=rfl;have t1:toE 1 (a,b,false,1,v,c)=true:=rfl;have t2:toE 2 (a,b,false,1,v,c)=false:=rfl;simp only[hr,t0,t1,t2,if_true,Bool.false_eq_true,if_false,List.length_append,List.length_cons,List.length_nil];omega
   ·
    have t0:toE 0 (a,b,false,2,v,c)=false:=rfl;have t1:toE 1 (a,b,false,2,v,c)=false:=rfl;have t2:toE 2 (a,b,false,2,v,c)=true:=rfl;simp only[hr,t0,t1,t2,if_true,Bool.false_eq_true,if_false,List.length_append,List.length_cons,List.length_nil];omega
  ·
   have hr:rdE (a,b,true,p,v,c)=true:=rfl;have t:∀q,toE q (a,b,true,p,v,c)=false:=fun _=>rfl
   simp only[hr,t,if_true,Bool.false_eq_true,if_false,List.length_append,List.length_cons,List.length_nil];omega
theorem beg_get {l t:List Ev}(h:l=evBeg++t):l.getD 0 zE=(-1,-1,false,0,0,0)∧l.getD 1 zE=(-1,-1,false,1,0,1)∧l.getD 2 zE=(-1,-1,false,2,0,2):=by
 subst h;exact⟨rfl,rfl,rfl⟩
theorem idx_first {l t:List Ev}(h:l=evBeg++t)(p:Nat)(hp:p<3):∃r,idxK (toE (p:Int)) l l.length=(p:Int)::r:=by
 obtain⟨h0,h1,h2⟩:=beg_get h;have hl:3≤l.length:=by rw[h];simp[evBeg]
 obtain⟨r,hr⟩:=idxK_pre (toE (p:Int)) l 3 l.length hl
 have e:∃q,idxK (toE (p:Int)) l 3=(p:Int)::q:=by
  have:p=0∨p=1∨p=2:=by omega
  simp only[idxK,h0,h1,h2,toE];rcases this with rfl|rfl|rfl
  · exact⟨[],by simp⟩
  · exact⟨[],by simp⟩
  · exact⟨[],by simp⟩
 obtain⟨q,hq⟩:=e;exact⟨q++r,by rw[hr,hq];rfl⟩
theorem good_place {dss:List (List Dd)}{out:List Ev}{j:Nat}(hok:∀i,i<dss.length→okL (dss.getD i [])=true)(h:GoodE dss out j):0≤(out.getD j zE).2.2.2.1∧(out.getD j zE).2.2.2.1≤2:=by
 obtain⟨i,k,c,rd,vl,h1,h2,h3,_⟩:=h;have hi:=hok i h2;simp only[okL,Bool.and_eq_true,decide_eq_true_eq] at hi;have:=okD_restE (all_get zD hi.1 k h3);rw[List.getD_eq_getElem?_getD,h1];exact⟨this.1,this.2.1⟩
theorem events_law {dss:List (List Dd)}(h:workB dss=true):(evsW dss dss.length).length≤12∧((evsW dss dss.length).length:Int)=3+evW dss dss.length ∧
  (idxK rdE (evsW dss dss.length) (evsW dss dss.length).length).length+(idxK (toE 0) (evsW dss dss.length) (evsW dss dss.length).length).length+(idxK (toE 1) (evsW dss dss.length) (evsW dss dss.length).length).length+(idxK (toE 2) (evsW dss dss.length) (evsW dss dss.length).length).length=(evsW dss dss.length).length ∧
  (∀p:Nat,p<3→∃r,idxK (toE (p:Int)) (evsW dss dss.length) (evsW dss dss.length).length=(p:Int)::r)∧∀j,3≤j→j<(evsW dss dss.length).length→GoodE dss (evsW dss dss.length) j:=by
 simp only[workB,Bool.and_eq_true,decide_eq_true_eq] at h;obtain⟨⟨⟨⟨h1,h2⟩,h3⟩,h4⟩,_⟩:=h;have hok:∀i,i<dss.length→okL (dss.getD i [])=true:=fun i hi=>all_get [] h2 i hi
 have hl:=evsW_len hok dss.length (Nat.le_refl _);obtain⟨⟨t,ht⟩,hg⟩:=evs_good hok dss.length (Nat.le_refl _);refine⟨by omega,hl,idx_sum _ (fun j hj=>?_),fun p hp=>idx_first ht p hp,hg⟩;by_cases hj3:3≤j
 · exact good_place hok (hg j hj3 hj)
 ·
  obtain⟨b0,b1,b2⟩:=beg_get ht;have:j=0∨j=1∨j=2:=by omega
  rcases this with rfl|rfl|rfl
  · rw[b0];decide
  · rw[b1];decide
  · rw[b2];decide
def plE (es:List Ev)(r:Int):Int:=(es.getD r.toNat zE).2.2.2.1
def chcK (es:List Ev)(rs:List Int):Nat→List (List Int)
 | 0=>[]
 |k+1=>chcK es rs k++[idxB (toE (plE es (rs.getD k 0))) es]
def chcL (es:List Ev):List (List Int):=chcK es (idxB rdE es) (idxB rdE es).length
theorem chcK_len (es:List Ev)(rs:List Int):∀k:Nat,(chcK es rs k).length=k
 | 0=>rfl
 |k+1=>by rw[chcK,List.length_append,chcK_len es rs k];rfl
theorem chcK_get (es:List Ev)(rs:List Int):∀(k i:Nat),i<k→(chcK es rs k).getD i []=idxB (toE (plE es (rs.getD i 0))) es
 | 0,i,h=>by omega
 |k+1,i,h=>by
  rw[chcK];by_cases hi:i<k
  · rw[List.getD_eq_getElem?_getD,List.getElem?_append_left (by rw[chcK_len];exact hi),←List.getD_eq_getElem?_getD,chcK_get es rs k i hi]
  ·
   obtain rfl:i=k:=by omega
   rw[List.getD_eq_getElem?_getD,List.getElem?_append_right (by rw[chcK_len];exact Nat.le_refl _),chcK_len];simp
def isB (l:List Int)(n:Int):Bool:=l.any (·==n)
def srcK (c:List (List Int))(from':List Int):Nat→Bool
 | 0=>true
 |k+1=>srcK c from' k&&isB (c.getD k []) (from'.getD k 0)
def srcB (c:List (List Int))(from':List Int):Bool:=decide (c.length=from'.length)&&srcK c from' c.length
def sourceB (dss:List (List Dd))(from':List Int):Bool:=workB dss&&srcB (chcL (eventsB dss)) from'
theorem srcK_false {c:List (List Int)}{f:List Int}{k:Nat}(h:srcK c f k=false):∀n:Nat,k≤n→srcK c f n=false
 | 0,hn=>by
  obtain rfl:k=0:=by omega
  exact h
 |n+1,hn=>by
  by_cases e:k=n+1
  · rw[←e];exact h
  · rw[srcK,srcK_false h n (by omega)];rfl
theorem srcK_iff {c:List (List Int)}{f:List Int}:∀k:Nat,srcK c f k=true↔∀i,i<k→isB (c.getD i []) (f.getD i 0)=true
 | 0=>by simp[srcK]
 |k+1=>by
  rw[srcK,Bool.and_eq_true,srcK_iff k];constructor
  ·
   rintro⟨h1,h2⟩ i hi;by_cases e:i=k
   · subst e;exact h2
   · exact h1 i (by omega)
  ·
   intro h;exact⟨fun i hi=>h i (by omega),h k (by omega)⟩
def cntK (c:List (List Int)):Nat→Int
 | 0=>1
 |k+1=>cntK c k*(c.getD k []).length
def atK (c:List (List Int))(n:Int):Nat→Int×List Int
 | 0=>(n,[])
 |k+1=>
  let s:=atK c n k
  let l:=c.getD (c.length-1-k) []
  (s.1 / l.length,(l.getD (s.1 % l.length).toNat 0)::s.2)
def atL (c:List (List Int))(n:Int):List Int:=(atK c n c.length).2
theorem atK_len (c:List (List Int))(n:Int):∀k:Nat,(atK c n k).2.length=k
 | 0=>rfl
 |k+1=>by simp only[atK,List.length_cons,atK_len c n k]
theorem cnt_bound {c:List (List Int)}(hb:∀i,i<c.length→(c.getD i []).length≤12):∀k:Nat,k≤c.length→0≤cntK c k∧cntK c k≤12 ^ k
 | 0,_=>by simp[cntK]
 |k+1,h=>by
  obtain⟨h1,h2⟩:=cnt_bound hb k (by omega);have h3:=hb k (by omega);rw[cntK];refine⟨Int.mul_nonneg h1 (Int.natCast_nonneg _),?_⟩;rw[Int.pow_succ];exact Int.mul_le_mul h2 (by omega) (Int.natCast_nonneg _) (Int.le_trans h1 h2)
theorem pow_top {k:Nat}(h:k≤12):(12:Int) ^ k≤8916100448256:=by
 have:∀j:Nat,j≤12→(12:Int) ^ j≤8916100448256:=by decide +kernel
 exact this k h
theorem cnt_top {c:List (List Int)}(hl:c.length≤12)(hb:∀i,i<c.length→(c.getD i []).length≤12)(k:Nat)(hk:k≤c.length):0≤cntK c k∧cntK c k≤8916100448256:=by
 have h1:=cnt_bound hb k hk;exact⟨h1.1,Int.le_trans h1.2 (pow_top (by omega))⟩
def atF (c:List (List Int))(n:Int)(k:Nat):List Int:=List.replicate (c.length-k) 0++(atK c n k).2
theorem atF_len (c:List (List Int))(n:Int)(k:Nat)(h:k≤c.length):(atF c n k).length=c.length:=by
 unfold atF;rw[List.length_append,List.length_replicate,atK_len];omega
theorem set_rep (m:Nat)(x:Int)(s:List Int):(List.replicate (m+1) 0++s).set m x=List.replicate m 0++x::s:=by
 rw[List.replicate_succ',List.append_assoc,List.set_append_right _ _ (by simp)];simp
theorem atF_step (c:List (List Int))(n:Int)(k:Nat)(h:k<c.length):
  atF c n (k+1)=(atF c n k).set (c.length-1-k) ((c.getD (c.length-1-k) []).getD (((atK c n k).1 % (c.getD (c.length-1-k) []).length).toNat) 0):=by
 unfold atF;rw[show c.length-k=(c.length-1-k)+1 by omega,set_rep,show c.length-(k+1)=c.length-1-k by omega];rfl
theorem atF_all (c:List (List Int))(n:Int):atF c n c.length=atL c n:=by
 unfold atF atL;rw[Nat.sub_self];rfl
def cntB (dss:List (List Dd)):Int:=if workB dss=true then cntK (chcL (eventsB dss)) (chcL (eventsB dss)).length else -1
def atB (dss:List (List Dd))(n:Int):List Int:=if 0≤n∧n<cntB dss then atL (chcL (eventsB dss)) n else []
theorem atL_len (c:List (List Int))(n:Int):(atL c n).length=c.length:=atK_len c n c.length
def srcN (c:List (List Int))(n:Nat):Nat:=(cntK c n).toNat
def atP (c:List (List Int))(n k:Nat):List Int:=atL (c.take n) k
theorem cntK_pos (c:List (List Int)):∀n:Nat,0≤cntK c n
 | 0=>by simp[cntK]
 |n+1=>by rw[cntK];exact Int.mul_nonneg (cntK_pos c n) (Int.natCast_nonneg _)
theorem srcN_int (c:List (List Int))(n:Nat):((srcN c n:Nat):Int)=cntK c n:=Int.toNat_of_nonneg (cntK_pos c n)
theorem srcN_zero (c:List (List Int)):srcN c 0=1:=rfl
theorem srcN_succ (c:List (List Int))(n:Nat):srcN c (n+1)=srcN c n*(c.getD n []).length:=by
 have h:((srcN c (n+1):Nat):Int)=((srcN c n*(c.getD n []).length:Nat):Int):=by
  rw[srcN_int,cntK,Int.natCast_mul,srcN_int]
 exact Int.ofNat.inj h
theorem atK_snoc (cs:List (List Int))(c:List Int)(n:Int):∀j:Nat,j≤cs.length →
  atK (cs++[c]) n (j+1)=((atK cs (n / c.length) j).1,(atK cs (n / c.length) j).2++[c.getD (n % c.length).toNat 0])
 | 0,_=>by
  have e:(cs++[c]).getD ((cs++[c]).length-1-0) []=c:=by simp
  simp only[atK,e,List.nil_append]
 |j+1,h=>by
  have ih:=atK_snoc cs c n j (by omega)
  have e:(cs++[c]).getD ((cs++[c]).length-1-(j+1)) []=cs.getD (cs.length-1-j) []:=by
   have e1:(cs++[c]).length-1-(j+1)=cs.length-1-j:=by simp;omega
   rw[e1,List.getD_eq_getElem?_getD,List.getElem?_append_left (by omega),←List.getD_eq_getElem?_getD]
  rw[atK,ih,e];simp only[atK,List.cons_append]
theorem atL_snoc (cs:List (List Int))(c:List Int)(n:Int):atL (cs++[c]) n=atL cs (n / c.length)++[c.getD (n % c.length).toNat 0]:=by
 unfold atL;rw[List.length_append,List.length_singleton,atK_snoc cs c n cs.length (Nat.le_refl _)]
theorem atP_zero (c:List (List Int))(k:Nat):atP c 0 k=[]:=by simp[atP,atL,atK]
theorem atP_succ (c:List (List Int))(n k i:Nat)(hn:n<c.length)(hi:i<(c.getD n []).length):atP c (n+1) (k*(c.getD n []).length+i)=atP c n k++[(c.getD n []).getD i 0]:=by
 unfold atP
 have e:c.take (n+1)=c.take n++[c.getD n []]:=by
  rw[List.take_add_one,List.getD_eq_getElem?_getD,List.getElem?_eq_getElem hn];simp
 generalize c.getD n []=l at e hi;rw[e,atL_snoc]
 have h1:(((k*l.length+i:Nat):Int) / (l.length:Int))=(k:Int):=by
  rw[←Int.natCast_ediv,Nat.add_comm,Nat.add_mul_div_right _ _ (by omega),Nat.div_eq_of_lt hi,Nat.zero_add]
 have h2:((((k*l.length+i:Nat):Int) % (l.length:Int))).toNat=i:=by
  rw[←Int.natCast_emod,Int.toNat_natCast,Nat.add_comm,Nat.add_mul_mod_self_right,Nat.mod_eq_of_lt hi]
 rw[h1,h2]
theorem atP_all (c:List (List Int))(k:Nat):atP c c.length k=atL c k:=by unfold atP;rw[List.take_length]
theorem atP_len (c:List (List Int))(n k:Nat)(hn:n≤c.length):(atP c n k).length=n:=by
 unfold atP;rw[atL_len,List.length_take];omega
theorem src_lt {a b k i:Nat}(hk:k<a)(hi:i<b):k*b+i<a*b:=by
 have h1:(k+1)*b≤a*b:=Nat.mul_le_mul_right b hk;rw[Nat.add_mul,Nat.one_mul] at h1;omega
theorem rd_cells {w:World}{b off:Nat}{zs:List Int}(hc:∀i,i<zs.length→w.cell? ⟨b,off+i,none⟩=some (.int .i64 (zs.getD i 0))):
  ∀j u,(zs.map (Value.int .i64))[j]? = some u→w.cell? ((⟨b,off,none⟩:Addr).add j)=some u:=by
 intro j u hj;rw[List.getElem?_map] at hj
 have hjl:j<zs.length:=by
  apply Classical.byContradiction;intro hno;rw[List.getElem?_eq_none (by omega)] at hj;cases hj
 have e1:(⟨b,off,none⟩:Addr).add j=⟨b,off+j,none⟩:=by unfold Addr.add;split<;>simp_all
 rw[e1,hc j hjl,List.getD_eq_getElem?_getD];rw[List.getElem?_eq_getElem hjl] at hj ⊢
 simpa using hj
theorem ints_one (zs:List Int):∀u∈zs.map (Value.int .i64),u.oneCell'=true:=by
 intro u hu;obtain⟨y,_,rfl⟩:=List.mem_map.1 hu;rfl
theorem oper_round {F:Fence}{n:Nat}{P:Program}{o:Oper}{a:Act}{w:World}{K:Act→World→Prop}{Q:Exit→Act→World→Prop}(l:Nat)(hnd:∀c,o.op≠.defer c)(h:o.wpIn F n P a w K Q):o.wpIn (F.inRound l) n P a w K Q:=by
 unfold Oper.wpIn at *;refine⟨h.1,?_⟩;have h2:=h.2;rw[Oper.semAt_eq _ _ _ hnd] at h2 ⊢;generalize (execOp a.eval o).run P w=r at h2
 cases r with
 |ok x w'=>cases x<;>exact h2
 |halt x w'=>cases x<;>exact h2
theorem any_round {F:Fence}{n:Nat}{P:Program}{md:Region.Mode}{ops:Array Oper}{Q:Exit→Act→World→Prop}(l:Nat)(hnd:∀(i:Nat) o,ops[i]? = some o→∀c,o.op≠.defer c):
  ∀(fuel:Nat) (listed:Array Bool) (a:Act) (w:World),wpAnyIn F n P md ops Q fuel listed a w→wpAnyIn (F.inRound l) n P md ops Q fuel listed a w
 | 0,_,_,_,h=>h
 |fuel+1,listed,a,w,h=>by
  refine⟨h.1,fun i hi=>?_⟩;have h2:=wpOpIn_mono (any_round l hnd fuel _) (h.2 i hi);unfold wpOpIn at *;split
  ·
   rename_i ho
   simpa [ho] using h2
  ·
   rename_i o ho;simp only[ho] at h2;split
   ·
    rename_i hw;simp only[hw,if_true] at h2;exact oper_round l (hnd i o ho) h2
   ·
    rename_i hw;simp only[hw] at h2;exact h2
theorem region_round {F:Fence}{n:Nat}{P:Program}{ops:Array Oper}{Q:Exit→Act→World→Prop}{id l:Nat}{a:Act}{w:World}(hm:P.follows .mixedOrders=true)(hnd:∀(i:Nat) o,ops[i]? = some o→∀c,o.op≠.defer c)
  (h:wpAnyIn F n P .any ops Q ops.size (Array.replicate ops.size false) a w.drew):(Code.region id ops true).wpIn (F.inRound l) n P Q a w:=
 wpIn_region_any hm (any_round l hnd _ _ _ _ h)
theorem takeIn {F:Fence}{n:Nat}{P:Program}{md:Region.Mode}{ops:Array Oper}{Q:Exit→Act→World→Prop}(i d:Nat){oi:Oper}(v:Value){fuel:Nat}{listed:Array Bool}{a:Act}{w:World}(hro:F.round=none)(hi:ops[i]? = some oi)(hd:oi.dst=some d)
  (hs:Region.noSelect ops=true) (hf:Region.free md ops listed i=true) (hr:(Region.ready md ops listed).contains i=true)
  (hQ:∀c a w,Q (.panic c) (a.put (some d) v) w→Q (.panic c) a w) (hy:YieldsFenced P ops oi v a)
  (h:wpAnyIn F n P md ops Q fuel (listed.setIfInBounds i true) (a.put (some d) v) w):wpAnyIn F n P md ops Q (fuel+1) listed a w:=by
 rw[←hd] at hQ h;exact wpAnyIn_take hro hi hs hf hr hQ hy h
theorem stepIn_append_own {F:Fence}{n:Nat}{P:Program}{w:World}{ops:Array Oper}{o:Oper}{a:Act}{K:Act→World→Prop}{Q:Exit→Act→World→Prop}{E:Prop}(hgd:o.guard=none)(s x:Operand)(t:TypeId)
  (ho:o.op = .call { callee:= .builtin .append,args:=#[s,x],argTypes:=#[t,t] })
  (base:Nat) (e:TypeId) (i:TypeInfo) (z:Value) (size bytes:Nat) (ht:P.underlying t=some (.slice e)) (hi:P.info? e=some i) (hz:i.zero=some z)
  (hsize:i.size=size) (hby:i.bytes=bytes) (hzs:z.cells.size=size) (hsz:0<size)
  (v:Value) (k:Nat) (xs:List Value) (hs:a.eval s=v) (hown:w.ownsRow base e size v k xs)
  (ad:Addr) (m c:Nat) (news:List Value) (hx:a.eval x = .slice (some ad) m c) (hl:news.length=m*size) (hnews:∀j u,news[j]? = some u→w.cell? (ad.add j)=some u) (h1:∀u∈news,u.oneCell'=true)
  (h63:k+m≤maxLen) (hbytes:(k+m)*bytes≤140737488355328) (hbase:base≤w.heap.size)
  (h:∀v' w',w'.ownsRow base e size v' (k+m) (xs++news)→w.grownBy w' v.ownBlock→K (a.put o.dst v') w'):
  if Region.wanted o (yielded ops a.tmps)=true then Oper.wpIn F n P o a w K Q else E:=by
 have hw:Region.wanted o (yielded ops a.tmps)=true:=by simp[Region.wanted,hgd]
 rw[if_pos hw];obtain⟨v',w',hrun,r1,r2,_⟩:=run_append_own (P:=P) w base t o.type e i z size bytes ht hi hz hsize hby hzs hsz v k xs hown ad m c news hl hnews h1 h63 hbytes hbase;unfold Oper.wpIn;refine⟨?_,?_⟩
 · simp[Oper.about,ho,resolve,Target.leads,Sem.run_pure]
 ·
  rw[Oper.semAt_plain F _ _ (by rw[ho];intro c hc';cases hc')];simp[execOp,ho,resolve,invoke,builtin,hs,hx,hrun,Result.andThen];exact h v' w' r1 r2
section
section
variable {α:Type} {cf:α→List Value} {n:Nat}
def AtT (cf:α→List Value)(w:World)(b o:Nat)(x:α):Prop:=∀m u,(cf x)[m]? = some u→w.cell? ⟨b,o+m,none⟩=some u
def RdT (cf:α→List Value)(n:Nat)(w:World)(v:Value)(xs:List α):Prop:=
 ∃(a:Option Addr) (cap:Nat),v = .slice a xs.length (xs.length+cap) ∧
  (xs=[]∨∃b off,a=some ⟨b,off,none⟩∧b<w.heap.size∧∀i x,xs[i]? = some x→AtT cf w b (off+i*n) x)
theorem AtT.same {w w':World}{b o:Nat}{x:α}(h:AtT cf w b o x)(hh:w'.heap[b]? = w.heap[b]?):AtT cf w' b o x:=
 fun m u hm=>by
  have:=h m u hm;simp only[World.cell?,hh] at this ⊢;exact this
theorem AtT.keep {w w':World}{b o:Nat}{x:α}(h:AtT cf w b o x)(hb:b<w.heap.size)(k:Keep w w'):AtT cf w' b o x:=h.same (Below.block k b hb)
theorem RdT.keep {w w':World}{v:Value}{xs:List α}(h:RdT cf n w v xs)(k:Keep w w'):RdT cf n w' v xs:=by
 obtain⟨a,cap,hv,h⟩:=h;refine⟨a,cap,hv,?_⟩;rcases h with h|⟨b,off,ha,hb,hc⟩
 · exact .inl h
 · exact .inr ⟨b,off,ha,Nat.lt_of_lt_of_le hb k.size,fun i x hx=>(hc i x hx).keep hb k⟩
def AppT (cf:α→List Value)(e:TypeId)(n:Nat)(w:World)(base:Nat)(v:Value)(xs:List α):Prop:=w.ownsRow base e n v xs.length (xs.flatMap cf)
variable {e:TypeId}
theorem AppT.keep {w w':World}{base:Nat}{v:Value}{xs:List α}(h:AppT cf e n w base v xs)(k:Keep w w'):AppT cf e n w' base v xs:=
 World.ownsRow.kept h k.grownBy (by cases v.ownBlock<;>simp)
theorem AppT.kept {w w':World}{base:Nat}{v:Value}{xs:List α}{row:Option Nat}(h:AppT cf e n w base v xs)(hg:w.grownBy w' row)(hne:v.ownBlock=none∨v.ownBlock≠row):AppT cf e n w' base v xs:=
 World.ownsRow.kept h hg hne
theorem AppT.lt {w:World}{base:Nat}{v:Value}{xs:List α}(h:AppT cf e n w base v xs):∀k,v.ownBlock=some k→base≤k∧k<w.heap.size:=World.ownsRow.lt h
theorem AppT.ge {w:World}{base:Nat}{v:Value}{xs:List α}(h:AppT cf e n w base v xs):∀k,v.ownBlock=some k→base≤k:=fun k hk=>(h.lt k hk).1
theorem appT_hit {w:World}{base:Nat}{v:Value}{xs:List α}{x:α}(h:w.ownsRow base e n v (xs.length+1) (xs.flatMap cf++cf x)):AppT cf e n w base v (xs++[x]):=by
 unfold AppT;rw[List.flatMap_append];simpa using h
theorem appT_empty (w:World):AppT cf e n (w.alloc (.cells #[] e)) w.heap.size (.slice (some ⟨w.heap.size,0,none⟩) 0 0) []:=
 World.ownsRow_lit w #[] 0 (Nat.le_refl _) (by decide) (by simp)
theorem flat_at (hn:∀x,(cf x).length=n):∀(xs:List α) (i:Nat) (x:α) (m:Nat),xs[i]? = some x→m<n→(xs.flatMap cf)[i*n+m]? = (cf x)[m]?
 | [],i,x,m,h,_=>by simp at h
 |y::r,0,x,m,h,hm=>by
  simp at h;subst h;rw[List.flatMap_cons,List.getElem?_append_left (by rw[hn];omega)];simp
 |y::r,i+1,x,m,h,hm=>by
  have ih:=flat_at hn r i x m (by simpa using h) hm;have e1:(i+1)*n+m=n+(i*n+m):=by rw[Nat.add_mul];omega
  rw[List.flatMap_cons,List.getElem?_append_right (by rw[hn];omega),hn,e1,Nat.add_sub_cancel_left,ih]
theorem AppT.shape {w:World}{base:Nat}{v:Value}{xs:List α}(h:AppT cf e n w base v xs):∃a c,v = .slice a xs.length c:=by
 rcases h.2 with ⟨rfl,hz⟩|⟨g,cap,cur,rfl,_⟩
 · exact⟨none,0,by rw[hz]⟩
 · exact⟨_,_,rfl⟩
theorem AppT.rd (hn:∀x,(cf x).length=n){w:World}{base:Nat}{v:Value}{xs:List α}(h:AppT cf e n w base v xs):RdT cf n w v xs:=by
 have h2:=h;have hlt:=h.lt;rcases h.2 with ⟨rfl,hz⟩|⟨g,cap,cur,rfl,hb,hg,hcap,_,hs,_⟩
 ·
  have:xs=[]:=List.eq_nil_of_length_eq_zero hz;subst this;exact⟨none,0,rfl,.inl rfl⟩
 ·
  obtain⟨x,rfl⟩:∃x,cap=xs.length+x:=⟨cap-xs.length,by omega⟩;refine⟨_,x,rfl,.inr ⟨g,0,rfl,(hlt g rfl).2,fun i y hy m u hm=>?_⟩⟩;have hi:i<xs.length:=(List.getElem?_eq_some_iff.1 hy).1;have hmn:m<n:=by have:=(List.getElem?_eq_some_iff.1 hm).1;rw[hn] at this;exact this
  have hb2:i*n+m<xs.length*n:=by
   have h3:(i+1)*n≤xs.length*n:=Nat.mul_le_mul_right n hi;rw[Nat.add_mul] at h3;omega
  rw[Nat.zero_add,World.ownsRow.cellAt h2 (i*n+m) hb2,flat_at hn xs i y m hy hmn];exact hm
end
end
def cE (e:Ev):List Value:=[.int .i64 e.1,.int .i64 e.2.1,.bool e.2.2.1,.int .i64 e.2.2.2.1,.int .i64 e.2.2.2.2.1,.int .i64 e.2.2.2.2.2]
theorem cE_len (e:Ev):(cE e).length=6:=rfl
theorem Tryz.infoE:(Tryz.prog.info? 85).map (fun i=>(i.zero,i.size,i.bytes))=some (some (.agg #[.int .i64 0,.int .i64 0,.bool false,.int .i64 0,.int .i64 0,.int .i64 0]),6,48):=by kernel_rfl
abbrev RdE (w:World)(v:Value)(es:List Ev):Prop:=RdT cE 6 w v es
abbrev AppE (w:World)(base:Nat)(v:Value)(es:List Ev):Prop:=AppT cE 85 6 w base v es
theorem atE {w:World}{b o:Nat}{x0 x1:Int}{r:Bool}{x3 x4 x5:Int}(h:AtT cE w b o (x0,x1,r,x3,x4,x5)):
  w.cell? ⟨b,o,none⟩=some (.int .i64 x0)∧w.cell? ⟨b,o+1,none⟩=some (.int .i64 x1)∧w.cell? ⟨b,o+2,none⟩=some (.bool r)∧w.cell? ⟨b,o+3,none⟩=some (.int .i64 x3)∧w.cell? ⟨b,o+4,none⟩=some (.int .i64 x4)∧w.cell? ⟨b,o+5,none⟩=some (.int .i64 x5):=
 ⟨h 0 _ rfl,h 1 _ rfl,h 2 _ rfl,h 3 _ rfl,h 4 _ rfl,h 5 _ rfl⟩
theorem AppE.rd {w:World}{base:Nat}{v:Value}{es:List Ev}(h:AppE w base v es):RdE w v es:=AppT.rd cE_len h
theorem evs_get {es:List Ev}{i:Nat}(h:i<es.length):es[i]? = some (es.getD i zE):=by
 rw[List.getD_eq_getElem?_getD,List.getElem?_eq_getElem h];rfl
def tstE (f:Ev→Bool)(es:List Ev)(k:Nat):Bool:=decide (k<es.length)&&f (es.getD k zE)
def chK (f:Ev→Bool)(es:List Ev):Nat→List Int
 | 0=>[]
 |k+1=>if tstE f es k=true then chK f es k++[(k:Int)] else chK f es k
theorem chK_min (f:Ev→Bool)(es:List Ev):∀k,chK f es k=idxK f es (min k es.length)
 | 0=>by simp[chK,idxK]
 |k+1=>by
  rw[chK,chK_min f es k];by_cases h:k<es.length
  ·
   rw[show min (k+1) es.length=k+1 by omega,show min k es.length=k by omega,idxK];simp[tstE,h]
  ·
   rw[show min (k+1) es.length=min k es.length by omega];simp[tstE,h]
theorem chK_all (f:Ev→Bool)(es:List Ev)(k:Nat)(h:es.length≤k):chK f es k=idxK f es es.length:=by
 rw[chK_min,Nat.min_eq_right h]
theorem chK_len (f:Ev→Bool)(es:List Ev)(k:Nat):(chK f es k).length≤k:=by
 rw[chK_min];have:=idxK_len f es (min k es.length);omega
end Go.Proofs.YtkmjmnljkidobaaGreat
