/- Gathered texts. -/
import Derived.WalkKit
import Derived.ProofKit
import Derived.Laws.BitsAllLaws
import Derived.Laws.BitsLemmas
import Derived.Test.YtgakfkjjkobpiaaRows
import Derived.OpenShut
import Derived.Below
import Derived.WalkSmall
import Derived.Laws.Rows
import Derived.Laws.ResultCell
import Derived.Maps.AppendAt
import Derived.Laws.OwnMore
import Derived.OwnWalk
import Derived.Lib.IndexMore
import Derived.Lib.ParseIntB
import Derived.Lib.ItoaNum
set_option maxRecDepth 100000
set_option maxHeartbeats 8000000
namespace Go.Proofs.Ytgakfkjjkobpiaa
open Go.ChangeShapes Go.WideShapes Go.ChangeAt Go.RowKit
open Go.RowKit
theorem ret_bool {a b:Bool}(h:a=b):Ending.returned (.bool a) = .returned (.bool b):=by rw[h]
theorem ret_int {k:IntKind}{a b:Int}(h:a=b):Ending.returned (.int k a) = .returned (.int k b):=by rw[h]
theorem ofInt_i64 (a:Nat)(ha:a<9223372036854775808):(BitVec.ofInt 64 (a:Int)).toNat=a:=ofInt_u64 a (by omega)
theorem i64_or_nat (a b:Nat)(ha:a<9223372036854775808)(hb:b<9223372036854775808):bits .or .i64 (a:Int) (b:Int)=((a ||| b:Nat):Int):=by
 have hx:a ||| b<2 ^ 63:=Nat.or_lt_two_pow (by omega) (by omega);show IntKind.i64.wrap ((BitVec.ofInt 64 (a:Int) ||| BitVec.ofInt 64 (b:Int)).toNat:Int)=_;rw[BitVec.toNat_or,ofInt_i64 a ha,ofInt_i64 b hb,IntKind.wrap_i64];omega
theorem i64_and_nat (a b:Nat)(ha:a<9223372036854775808)(hb:b<9223372036854775808):bits .and .i64 (a:Int) (b:Int)=((a &&& b:Nat):Int):=by
 have hx:a &&& b<2 ^ 63:=Nat.and_lt_two_pow _ (by omega);show IntKind.i64.wrap ((BitVec.ofInt 64 (a:Int) &&& BitVec.ofInt 64 (b:Int)).toNat:Int)=_;rw[BitVec.toNat_and,ofInt_i64 a ha,ofInt_i64 b hb,IntKind.wrap_i64];omega
theorem pow_le12 (n:Nat)(h:n≤12):(2:Int) ^ n≤4096∧(1:Int)≤2 ^ n:=by
 have:n=0∨n=1∨n=2∨n=3∨n=4∨n=5∨n=6∨n=7∨n=8∨n=9∨n=10∨n=11∨n=12:=by omega
 rcases this with rfl|rfl|rfl|rfl|rfl|rfl|rfl|rfl|rfl|rfl|rfl|rfl|rfl<;>decide
theorem wrap64_small (x:Int)(h1:-9223372036854775808≤x)(h2:x≤9223372036854775807):wrap64 x=x:=by
 simp only[wrap64];omega
theorem wrap64_pow (n:Int)(h0:0≤n)(h:n≤12):wrap64 (2 ^ n.toNat)=2 ^ n.toNat:=by
 have:=pow_le12 n.toNat (by omega);exact wrap64_small _ (by omega) (by omega)
def inB (x lo hi:Int):Bool:=decide (lo≤x∧x≤hi)
def okB (n s:Int):Bool:=decide ((0≤n∧n≤12)∧0≤s∧s<2 ^ n.toNat)
def bitB (s i:Int):Bool:=bits .and .i64 (s / 2 ^ i.toNat) 1==1
def inSetB (s i:Int):Bool:=inB i 0 11&&inB s 0 4095&&bitB s i
def mem (s:Int):Nat→List Int
 | 0=>[]
 |k+1=>mem s k++(if inSetB s k=true then [(k:Int)] else [])
def gAdd (s i:Int):Int:=if s=-1∨inB i 0 11=false then -1 else bits .or .i64 s (wrap64 (2 ^ i.toNat))
theorem gAdd_bad (s i:Int)(h:inB i 0 11=false):gAdd s i=-1:=by simp[gAdd,h]
theorem gAdd_none (i:Int):gAdd (-1) i=-1:=by simp[gAdd]
theorem gAdd_ok (s i:Int)(h0:0≤s)(h:inB i 0 11=true):gAdd s i=bits .or .i64 s (wrap64 (2 ^ i.toNat)):=by
 have:¬s=-1:=by omega
 simp[gAdd,h,this]
theorem take_snoc (l:List Int)(k:Nat)(h:k<l.length):l.take (k+1)=l.take k++[l.getD k 0]:=by
 rw[List.take_succ_eq_append_getElem h,List.getD_eq_getElem?_getD,List.getElem?_eq_getElem h];rfl
def Keep (w w':World):Prop:=Below w.heap.size w w'
theorem Keep.refl (w:World):Keep w w:=Below.refl _ _
theorem Keep.size {w w':World}(h:Keep w w'):w.heap.size≤w'.heap.size:=Below.size h
theorem Keep.trans {a b c:World}(h:Keep a b)(k:Keep b c):Keep a c:=Below.trans h (Below.mono k h.size)
theorem Keep.drew {a w:World}(h:Keep a w):Keep a w.drew:=Below.drew h
theorem Keep.drewN {a w:World}(h:Keep a w)(n:Nat):Keep a (w.drewN n):=below_drewN h n
theorem Keep.alloc {a w:World}(h:Keep a w)(o:Obj):Keep a (w.alloc o):=Below.alloc h h.size o
theorem Keep.grown {a w w':World}{row:Option Nat}(h:Keep a w)(hg:w.grownBy w' row)(hr:∀k,row=some k→a.heap.size≤k):Keep a w':=Below.grown h hg h.size hr
theorem Keep.grownBy {w w':World}(h:Keep w w'):w.grownBy w' none:=⟨Below.os h,Below.tape h,Below.output h,Below.size h,fun k hk _=>Below.block h k hk⟩
theorem Keep.cell {w w':World}(h:Keep w w'){b o:Nat}(hb:b<w.heap.size):w'.cell? ⟨b,o,none⟩=w.cell? ⟨b,o,none⟩:=Below.cell h hb
theorem grown_trans {a b c:World}{row:Option Nat}(h:a.grownBy b row)(k:b.grownBy c row):a.grownBy c row:=
 ⟨k.os.trans h.os,k.tape.trans h.tape,k.output.trans h.output,Nat.le_trans h.size k.size,fun i hi hne=>(k.block i (Nat.lt_of_lt_of_le hi h.size) hne).trans (h.block i hi hne)⟩
def Rd (w:World)(v:Value)(zs:List Int):Prop:=
 ∃(a:Option Addr) (cap:Nat),v = .slice a zs.length cap ∧
  (zs=[]∨∃b off,a=some ⟨b,off,none⟩∧b<w.heap.size∧∀i,i<zs.length→w.cell? ⟨b,off+i,none⟩=some (.int .i64 (zs.getD i 0)))
theorem Rd.keep {w w':World}{v:Value}{zs:List Int}(h:Rd w v zs)(k:Keep w w'):Rd w' v zs:=by
 obtain⟨a,cap,hv,h⟩:=h;refine⟨a,cap,hv,?_⟩;rcases h with h|⟨b,off,ha,hb,hc⟩
 · exact .inl h
 · exact .inr ⟨b,off,ha,Nat.lt_of_lt_of_le hb k.size,fun i hi=>(k.cell hb).trans (hc i hi)⟩
def Own (w:World)(base:Nat)(v:Value)(zs:List Int):Prop:=w.ownsRow base 2 1 v zs.length (zs.map (Value.int .i64))
theorem Own.kept {w w':World}{base:Nat}{v:Value}{zs:List Int}{row:Option Nat}(h:Own w base v zs)(hg:w.grownBy w' row)(hne:v.ownBlock=none∨v.ownBlock≠row):Own w' base v zs:=
 World.ownsRow.kept h hg hne
theorem Own.keep {w w':World}{base:Nat}{v:Value}{zs:List Int}(h:Own w base v zs)(k:Keep w w'):Own w' base v zs:=
 Own.kept h k.grownBy (by cases v.ownBlock<;>simp)
theorem Own.rd {w:World}{base:Nat}{v:Value}{zs:List Int}(h:Own w base v zs):Rd w v zs:=by
 have hlt:=World.ownsRow.lt h;rcases h.2 with ⟨rfl,hn⟩|⟨g,cap,cur,rfl,hb,hg,rest⟩
 ·
  have:zs=[]:=List.eq_nil_of_length_eq_zero hn;subst this;exact⟨none,0,rfl,.inl rfl⟩
 ·
  refine⟨some ⟨g,0,none⟩,cap,rfl,.inr ⟨g,0,rfl,(hlt g rfl).2,fun i hi=>?_⟩⟩;have hc:=World.ownsRow.cellAt h i (by simpa using hi);rw[Nat.zero_add,hc,List.getElem?_map,List.getElem?_eq_getElem hi,List.getD_eq_getElem?_getD,List.getElem?_eq_getElem hi];rfl
theorem Own.base_le {w:World}{base base':Nat}{v:Value}{zs:List Int}(h:Own w base v zs)(hb:base'≤base):Own w base' v zs:=by
 refine⟨h.1,?_⟩;rcases h.2 with h|⟨g,cap,cur,hv,hg,rest⟩
 · exact .inl h
 · exact .inr ⟨g,cap,cur,hv,Nat.le_trans hb hg,rest⟩
theorem Own.ge {w:World}{base:Nat}{v:Value}{zs:List Int}(h:Own w base v zs):∀k,v.ownBlock=some k→base≤k:=fun k hk=>(World.ownsRow.lt h k hk).1
theorem Own.apart {w w':World}{base:Nat}{v v':Value}{zs zs':List Int}(h:Own w base v zs)(h':Own w' w.heap.size v' zs'):v.ownBlock=none∨v.ownBlock≠v'.ownBlock:=by
 cases hv:v.ownBlock with
 |none=>exact .inl rfl
 |some k=>
  refine .inr fun e=>?_
  have h1:=(World.ownsRow.lt h k hv).2;have h2:=h'.ge k e.symm;omega
theorem own_hit {w:World}{base:Nat}{v:Value}{zs:List Int}{x:Int}(h:w.ownsRow base 2 1 v (zs.length+1) (zs.map (Value.int .i64)++[.int .i64 x])):Own w base v (zs++[x]):=by
 unfold Own;simpa using h
theorem Try.infoI:(Try.prog.info? 2).map (fun i=>(i.zero,i.size,i.bytes))=some (some (.int .i64 0),1,8):=by kernel_rfl
theorem heap_at (w:World)(A:Obj)(i:Nat):(w.alloc A).heap[i]? = if i=w.heap.size then some A else w.heap[i]?:=Array.getElem?_push
theorem heap_size (w:World)(A:Obj):(w.alloc A).heap.size=w.heap.size+1:=Array.size_push _
theorem heap_drew (w:World):w.drew.heap=w.heap:=rfl
theorem box_size {w w1:World}{o:Obj}(k:Keep (w.alloc o) w1):w.heap.size<w1.heap.size:=by
 have:=k.size;rw[heap_size] at this;omega
theorem box_cell {w w1:World}{cs:Array Value}{t:TypeId}(k:Keep (w.alloc (.cells cs t)) w1)(i:Nat):w1.cell? ⟨w.heap.size,i,none⟩=cs[i]?:=by
 rw[k.cell (by rw[heap_size];omega),cell_of_row (w.alloc (.cells cs t)) w.heap.size i cs t (0,0) (heap_alloc_new w _)]
theorem box_heap {w w1:World}{o:Obj}(k:Keep (w.alloc o) w1):w1.heap[w.heap.size]? = some o:=
 (Below.block k w.heap.size (by rw[heap_size];omega)).trans (heap_alloc_new w o)
abbrev strV (l:List UInt8):Value:= .string ⟨l.toArray⟩
theorem results_row {P:Program}{fn:Func}{p:Tmp}{ty:TypeId}(h:fn.results=#[.cell p ty])(tmps:Array Value)(w:World)(g:Nat)(t:TypeId)(cs:Array Value)(fr:Nat×Nat)(d:TypeDesc)
  (hp:tmps.getD p undef = .pointer (some ⟨g,0,none⟩)) (hg:w.heap[g]? = some (.cells cs t fr))
  (hu:P.underlying ty=some d) (hd:(match d with | .struct _ | .array _ _=>true|_=>false)=true) (hi:(P.info? ty).map (·.size)=some cs.size):
  (results fn tmps).run P w = .ok (.agg cs) w:=results_cell_row h tmps w g t cs fr d hp hg hu hd hi
theorem results_row_tmp {P:Program}{fn:Func}{p u:Tmp}{ty:TypeId}(h:fn.results=#[.cell p ty,.tmp u])(tmps:Array Value)(w:World)(g:Nat)(t:TypeId)(cs:Array Value)(fr:Nat×Nat)(d:TypeDesc)(v:Value)
  (hp:tmps.getD p undef = .pointer (some ⟨g,0,none⟩)) (hg:w.heap[g]? = some (.cells cs t fr)) (hv:tmps.getD u undef=v)
  (hu:P.underlying ty=some d) (hd:(match d with | .struct _ | .array _ _=>true|_=>false)=true) (hi:(P.info? ty).map (·.size)=some cs.size):
  (results fn tmps).run P w = .ok (.tuple #[.agg cs,v]) w:=by
 rw[results_cell_tmp h,hp,hv];simp[asAddr,run_loadVar_row w g t ty cs fr d hg hu hd hi,Result.andThen]
theorem results_row2 {P:Program}{fn:Func}{p q:Tmp}{ty:TypeId}(h:fn.results=#[.cell p ty,.cell q ty])(tmps:Array Value)(w:World)(g g':Nat)(t t':TypeId)(cs cs':Array Value)(fr fr':Nat×Nat)(d:TypeDesc)
  (hp:tmps.getD p undef = .pointer (some ⟨g,0,none⟩)) (hg:w.heap[g]? = some (.cells cs t fr))
  (hq:tmps.getD q undef = .pointer (some ⟨g',0,none⟩)) (hg':w.heap[g']? = some (.cells cs' t' fr'))
  (hu:P.underlying ty=some d) (hd:(match d with | .struct _ | .array _ _=>true|_=>false)=true) (hi:(P.info? ty).map (·.size)=some cs.size) (hi':(P.info? ty).map (·.size)=some cs'.size):
  (results fn tmps).run P w = .ok (.tuple #[.agg cs,.agg cs']) w:=by
 have hp':tmps[p]?.getD undef = .pointer (some ⟨g,0,none⟩):=by simpa using hp
 have hq':tmps[q]?.getD undef = .pointer (some ⟨g',0,none⟩):=by simpa using hq
 simp[results,h,hp',hq',asAddr,run_loadVar_row w g t ty cs fr d hg hu hd hi,run_loadVar_row w g' t' ty cs' fr' d hg' hu hd hi']
section
section
variable {α:Type} {cf:α→List Value} {n:Nat}
def AtT (cf:α→List Value)(w:World)(b o:Nat)(x:α):Prop:=∀m u,(cf x)[m]? = some u→w.cell? ⟨b,o+m,none⟩=some u
def RdT (cf:α→List Value)(n:Nat)(w:World)(v:Value)(xs:List α):Prop:=
 ∃(a:Option Addr) (cap:Nat),v = .slice a xs.length (xs.length+cap) ∧
  (xs=[]∨∃b off,a=some ⟨b,off,none⟩∧b<w.heap.size∧∀i x,xs[i]? = some x→AtT cf w b (off+i*n) x)
theorem AtT.same {w w':World}{b o:Nat}{x:α}(h:AtT cf w b o x)(hh:w'.heap[b]? = w.heap[b]?):AtT cf w' b o x:=
 fun m u hm=>by
  have:=h m u hm;simp only[World.cell?,hh] at this ⊢;exact this
theorem AtT.keep {w w':World}{b o:Nat}{x:α}(h:AtT cf w b o x)(hb:b<w.heap.size)(k:Keep w w'):AtT cf w' b o x:=h.same (Below.block k b hb)
theorem RdT.keep {w w':World}{v:Value}{xs:List α}(h:RdT cf n w v xs)(k:Keep w w'):RdT cf n w' v xs:=by
 obtain⟨a,cap,hv,h⟩:=h;refine⟨a,cap,hv,?_⟩;rcases h with h|⟨b,off,ha,hb,hc⟩
 · exact .inl h
 · exact .inr ⟨b,off,ha,Nat.lt_of_lt_of_le hb k.size,fun i x hx=>(hc i x hx).keep hb k⟩
def AppT (cf:α→List Value)(e:TypeId)(n:Nat)(w:World)(base:Nat)(v:Value)(xs:List α):Prop:=w.ownsRow base e n v xs.length (xs.flatMap cf)
variable {e:TypeId}
theorem AppT.keep {w w':World}{base:Nat}{v:Value}{xs:List α}(h:AppT cf e n w base v xs)(k:Keep w w'):AppT cf e n w' base v xs:=
 World.ownsRow.kept h k.grownBy (by cases v.ownBlock<;>simp)
theorem AppT.kept {w w':World}{base:Nat}{v:Value}{xs:List α}{row:Option Nat}(h:AppT cf e n w base v xs)(hg:w.grownBy w' row)(hne:v.ownBlock=none∨v.ownBlock≠row):AppT cf e n w' base v xs:=
 World.ownsRow.kept h hg hne
theorem AppT.lt {w:World}{base:Nat}{v:Value}{xs:List α}(h:AppT cf e n w base v xs):∀k,v.ownBlock=some k→base≤k∧k<w.heap.size:=World.ownsRow.lt h
theorem AppT.ge {w:World}{base:Nat}{v:Value}{xs:List α}(h:AppT cf e n w base v xs):∀k,v.ownBlock=some k→base≤k:=fun k hk=>(h.lt k hk).1
theorem appT_hit {w:World}{base:Nat}{v:Value}{xs:List α}{x:α}(h:w.ownsRow base e n v (xs.length+1) (xs.flatMap cf++cf x)):AppT cf e n w base v (xs++[x]):=by
 unfold AppT;rw[List.flatMap_append];simpa using h
theorem appT_empty (w:World):AppT cf e n (w.alloc (.cells #[] e)) w.heap.size (.slice (some ⟨w.heap.size,0,none⟩) 0 0) []:=
 World.ownsRow_lit w #[] 0 (Nat.le_refl _) (by decide) (by simp)
theorem flat_at (hn:∀x,(cf x).length=n):∀(xs:List α) (i:Nat) (x:α) (m:Nat),xs[i]? = some x→m<n→(xs.flatMap cf)[i*n+m]? = (cf x)[m]?
 | [],i,x,m,h,_=>by simp at h
 |y::r,0,x,m,h,hm=>by
  simp at h;subst h;rw[List.flatMap_cons,List.getElem?_append_left (by rw[hn];omega)];simp
 |y::r,i+1,x,m,h,hm=>by
  have ih:=flat_at hn r i x m (by simpa using h) hm;have e1:(i+1)*n+m=n+(i*n+m):=by rw[Nat.add_mul];omega
  rw[List.flatMap_cons,List.getElem?_append_right (by rw[hn];omega),hn,e1,Nat.add_sub_cancel_left,ih]
theorem AppT.shape {w:World}{base:Nat}{v:Value}{xs:List α}(h:AppT cf e n w base v xs):∃a c,v = .slice a xs.length c:=by
 rcases h.2 with ⟨rfl,hz⟩|⟨g,cap,cur,rfl,_⟩
 · exact⟨none,0,by rw[hz]⟩
 · exact⟨_,_,rfl⟩
theorem AppT.rd (hn:∀x,(cf x).length=n){w:World}{base:Nat}{v:Value}{xs:List α}(h:AppT cf e n w base v xs):RdT cf n w v xs:=by
 have h2:=h;have hlt:=h.lt;rcases h.2 with ⟨rfl,hz⟩|⟨g,cap,cur,rfl,hb,hg,hcap,_,hs,_⟩
 ·
  have:xs=[]:=List.eq_nil_of_length_eq_zero hz;subst this;exact⟨none,0,rfl,.inl rfl⟩
 ·
  obtain⟨x,rfl⟩:∃x,cap=xs.length+x:=⟨cap-xs.length,by omega⟩;refine⟨_,x,rfl,.inr ⟨g,0,rfl,(hlt g rfl).2,fun i y hy m u hm=>?_⟩⟩;have hi:i<xs.length:=(List.getElem?_eq_some_iff.1 hy).1;have hmn:m<n:=by have:=(List.getElem?_eq_some_iff.1 hm).1;rw[hn] at this;exact this
  have hb2:i*n+m<xs.length*n:=by
   have h3:(i+1)*n≤xs.length*n:=Nat.mul_le_mul_right n hi;rw[Nat.add_mul] at h3;omega
  rw[Nat.zero_add,World.ownsRow.cellAt h2 (i*n+m) hb2,flat_at hn xs i y m hy hmn];exact hm
end
end
def RdL (w:World)(v:Value)(zss:List (List Int)):Prop:=
 ∃(a:Option Addr) (cap:Nat),v = .slice a zss.length cap ∧
  (zss=[]∨∃b off,a=some ⟨b,off,none⟩∧b<w.heap.size∧∀i,i<zss.length→∃vi,w.cell? ⟨b,off+i,none⟩=some vi∧Rd w vi (zss.getD i []))
theorem RdL.keep {w w':World}{v:Value}{zss:List (List Int)}(h:RdL w v zss)(k:Keep w w'):RdL w' v zss:=by
 obtain⟨a,cap,hv,h⟩:=h;refine⟨a,cap,hv,?_⟩;rcases h with h|⟨b,off,ha,hb,hc⟩
 · exact .inl h
 ·
  refine .inr ⟨b,off,ha,Nat.lt_of_lt_of_le hb k.size,fun i hi=>?_⟩;obtain⟨vi,h1,h2⟩:=hc i hi;exact⟨vi,(k.cell hb).trans h1,h2.keep k⟩
theorem Rd.keptR {w w':World}{v:Value}{zs:List Int}{row:Option Nat}(h:Rd w v zs)(hg:w.grownBy w' row)(hne:v.ownBlock=none∨v.ownBlock≠row):Rd w' v zs:=by
 obtain⟨a,cap,rfl,h⟩:=h;refine⟨a,cap,rfl,?_⟩;rcases h with h|⟨b,off,rfl,hb,hc⟩
 · exact .inl h
 ·
  refine .inr ⟨b,off,rfl,Nat.lt_of_lt_of_le hb hg.size,fun i hi=>?_⟩;rw[World.cell?_of_block (w:=w) (hg.block b hb (fun e=>by rcases hne with h|h<;>simp[Value.ownBlock] at h;exact h e))];exact hc i hi
def capZ:Value→Nat
 | .slice _ _ c=>c
 |_=>0
structure Beside (w:World)(x u:Value)(zs:List Int):Prop where
 rd:Rd w u zs
 ne:u.ownBlock=none∨u.ownBlock≠x.ownBlock
 lt:∀k,u.ownBlock=some k→k<w.heap.size
 cap:zs.length≤capZ u
theorem Beside.keep {w w':World}{x u:Value}{zs:List Int}(h:Beside w x u zs)(k:Keep w w'):Beside w' x u zs:=
 ⟨h.rd.keep k,h.ne,fun j hj=>Nat.lt_of_lt_of_le (h.lt j hj) k.size,h.cap⟩
theorem Beside.grow {w w':World}{x x' u:Value}{zs:List Int}(h:Beside w x u zs)(hg:w.grownBy w' x.ownBlock)(hb:x'.ownBlock=x.ownBlock∨x'.ownBlock=some w.heap.size):Beside w' x' u zs:=by
 refine⟨h.rd.keptR hg h.ne,?_,fun j hj=>Nat.lt_of_lt_of_le (h.lt j hj) hg.size,h.cap⟩;rcases hb with hb|hb
 · rw[hb];exact h.ne
 ·
  cases hu:u.ownBlock with
  |none=>exact .inl rfl
  |some k=>exact .inr (fun e=>by rw[hb] at e;have:=h.lt k hu;have:=Option.some.inj e;omega)
structure AppL (w:World)(base:Nat)(x:Value)(vs:List Value)(zss:List (List Int)):Prop where
 row:w.ownsRow base 25 1 x zss.length vs
 each:∀i u,vs[i]? = some u→Beside w x u (zss.getD i [])
theorem AppL.keep {w w':World}{base:Nat}{x:Value}{vs:List Value}{zss:List (List Int)}(h:AppL w base x vs zss)(k:Keep w w'):AppL w' base x vs zss:=
 ⟨World.ownsRow.kept h.row k.grownBy (by cases x.ownBlock<;>simp),fun i u hu=>(h.each i u hu).keep k⟩
theorem AppL.lt {w:World}{base:Nat}{x:Value}{vs:List Value}{zss:List (List Int)}(h:AppL w base x vs zss):∀k,x.ownBlock=some k→base≤k∧k<w.heap.size:=World.ownsRow.lt h.row
theorem AppL.rd {w:World}{base:Nat}{x:Value}{vs:List Value}{zss:List (List Int)}(h:AppL w base x vs zss):RdL w x zss:=by
 have hl:=h.row.1;have hlt:=h.lt;have h2:=h.row;rcases h.row.2 with ⟨rfl,hz⟩|⟨g,cap,cur,rfl,hb,hg,_⟩
 · exact⟨none,0,by rw[hz],.inl (List.eq_nil_of_length_eq_zero hz)⟩
 ·
  refine⟨_,_,rfl,.inr ⟨g,0,rfl,(hlt g rfl).2,fun i hi=>?_⟩⟩;have hi':i<vs.length:=by omega
  refine⟨vs[i],?_,(h.each i _ (List.getElem?_eq_getElem hi')).rd⟩;rw[Nat.zero_add,World.ownsRow.cellAt h2 i (by omega),List.getElem?_eq_getElem hi']
def RdLC (w:World)(v:Value)(zss:List (List Int)):Prop:=
 ∃(a:Option Addr) (cap:Nat),v = .slice a zss.length cap ∧
  (zss=[]∨∃b off,a=some ⟨b,off,none⟩∧b<w.heap.size∧∀i,i<zss.length→∃vi,w.cell? ⟨b,off+i,none⟩=some vi∧Rd w vi (zss.getD i [])∧(zss.getD i []).length≤capZ vi)
theorem RdLC.rd {w:World}{v:Value}{zss:List (List Int)}(h:RdLC w v zss):RdL w v zss:=by
 obtain⟨a,cap,hv,h⟩:=h;refine⟨a,cap,hv,?_⟩;rcases h with h|⟨b,off,ha,hb,hc⟩
 · exact .inl h
 ·
  refine .inr ⟨b,off,ha,hb,fun i hi=>?_⟩;obtain⟨vi,h1,h2,_⟩:=hc i hi;exact⟨vi,h1,h2⟩
theorem AppL.push {w w':World}{base:Nat}{x x' u:Value}{vs:List Value}{zss:List (List Int)}{zs:List Int}(h:AppL w base x vs zss)(hu:Beside w x u zs)
  (ho:w'.ownsRow base 25 1 x' (zss.length+1) (vs++[u])) (hg:w.grownBy w' x.ownBlock) (hb:x'.ownBlock=x.ownBlock∨x'.ownBlock=some w.heap.size):AppL w' base x' (vs++[u]) (zss++[zs]):=by
 have hl:=h.row.1;refine⟨by rw[List.length_append];exact ho,fun i y hy=>?_⟩;by_cases hi:i<vs.length
 ·
  rw[List.getElem?_append_left hi] at hy;have:=(h.each i y hy).grow hg hb;rw[List.getD_eq_getElem?_getD,List.getElem?_append_left (by omega),←List.getD_eq_getElem?_getD];exact this
 ·
  have hi2:i=vs.length:=by
   have:=(List.getElem?_eq_some_iff.1 hy).1;simp at this;omega
  subst hi2;rw[List.getElem?_append_right (Nat.le_refl _),Nat.sub_self] at hy;simp only[List.getElem?_cons_zero,Option.some.injEq] at hy;subst hy;rw[List.getD_eq_getElem?_getD,List.getElem?_append_right (by omega),show vs.length-zss.length=0 by omega];exact hu.grow hg hb
def deedB (k p v g:Int):Bool:=
 decide ((1≤k∧k≤4)∧(0≤p∧p≤2)∧(0≤g∧g≤9)∧(k=4→p=0)∧(2<k→g=0)∧((k=2∨k=3)→1≤v∧v≤9)∧(¬(k=2∨k=3)→v=0))
abbrev Dd:=Int×Int×Int×Int
def zD:Dd:=(0,0,0,0)
def okD (d:Dd):Bool:=deedB d.1 d.2.1 d.2.2.1 d.2.2.2
def evD (d:Dd):Int:=if d.1=1 then 1 else if d.1=2 then 1 else if d.1=3 then 2 else 0
def evK (ds:List Dd):Nat→Int
 | 0=>0
 |k+1=>evK ds k+evD (ds.getD k zD)
def evW (dss:List (List Dd)):Nat→Int
 | 0=>0
 |i+1=>evW dss i+evK (dss.getD i []) (dss.getD i []).length
theorem evD_in (d:Dd):0≤evD d∧evD d≤2:=by
 unfold evD
 repeat' split
 all_goals omega
theorem evK_in (ds:List Dd):∀k:Nat,0≤evK ds k∧evK ds k≤2*k
 | 0=>by simp[evK]
 |k+1=>by have:=evK_in ds k;have:=evD_in (ds.getD k zD);rw[evK];omega
def grpK (i:Nat)(own:List Int)(ds:List Dd):Nat→Option (List Int)
 | 0=>some own
 |k+1=>match grpK i own ds k with
  |none=>none
  |some o=>
   if (ds.getD k zD).2.2.2=0 then some o
   else if o.getD (ds.getD k zD).2.2.2.toNat 0≠0∧(o.getD (ds.getD k zD).2.2.2.toNat 0≠(i:Int)+1∨k=0∨(ds.getD (k-1) zD).2.2.2≠(ds.getD k zD).2.2.2) then none
   else some (o.set (ds.getD k zD).2.2.2.toNat ((i:Int)+1))
def grpW (dss:List (List Dd)):Nat→Option (List Int)
 | 0=>some (List.replicate 10 0)
 |i+1=>match grpW dss i with
  |none=>none
  |some o=>grpK i o (dss.getD i []) (dss.getD i []).length
def grpB (dss:List (List Dd)):Bool:=(grpW dss dss.length).isSome
def lenW:List (List Dd)→Nat
 | []=>0
 |d::r=>d.length+lenW r
def okL (ds:List Dd):Bool:=ds.all okD&&decide (ds.length≤5)
def workB (dss:List (List Dd)):Bool:=
 decide (1≤dss.length∧dss.length≤3)&&dss.all okL&&decide (lenW dss≤12)&&decide (evW dss dss.length≤6)&&grpB dss
theorem grpK_none {i:Nat}{own:List Int}{ds:List Dd}{k:Nat}(h:grpK i own ds k=none):∀n:Nat,k≤n→grpK i own ds n=none
 | 0,hn=>by
  obtain rfl:k=0:=by omega
  exact h
 |n+1,hn=>by
  by_cases e:k=n+1
  · rw[←e];exact h
  · rw[grpK,grpK_none h n (by omega)]
theorem grpW_none {dss:List (List Dd)}{i:Nat}(h:grpW dss i=none):∀n:Nat,i≤n→grpW dss n=none
 | 0,hn=>by
  obtain rfl:i=0:=by omega
  exact h
 |n+1,hn=>by
  by_cases e:i=n+1
  · rw[←e];exact h
  · rw[grpW,grpW_none h n (by omega)]
theorem grpK_len {i:Nat}{own:List Int}{ds:List Dd}:∀ {k:Nat} {o:List Int},grpK i own ds k=some o→o.length=own.length
 | 0,o,h=>by simp only[grpK,Option.some.injEq] at h;rw[←h]
 |k+1,o,h=>by
  rw[grpK] at h;split at h
  · cases h
  ·
   rename_i o' ho';have ih:=grpK_len ho';split at h
   · simp only[Option.some.injEq] at h;rw[←h];exact ih
   ·
    split at h
    · cases h
    · simp only[Option.some.injEq] at h;rw[←h,List.length_set];exact ih
theorem grpW_len {dss:List (List Dd)}:∀ {i:Nat} {o:List Int},grpW dss i=some o→o.length=10
 | 0,o,h=>by simp only[grpW,Option.some.injEq] at h;rw[←h];simp
 |i+1,o,h=>by
  rw[grpW] at h;split at h
  · cases h
  ·
   rename_i o' ho';rw[grpK_len h];exact grpW_len ho'
theorem all_get {α:Type}{f:α→Bool}{l:List α}(z:α)(h:l.all f=true)(i:Nat)(hi:i<l.length):f (l.getD i z)=true:=by
 rw[List.getD_eq_getElem?_getD,List.getElem?_eq_getElem hi];exact List.all_eq_true.1 h _ (List.getElem_mem hi)
theorem all_of {α:Type}{f:α→Bool}{l:List α}(z:α)(h:∀i,i<l.length→f (l.getD i z)=true):l.all f=true:=by
 rw[List.all_eq_true];intro x hx;obtain⟨i,hi,rfl⟩:=List.getElem_of_mem hx;have:=h i hi
 rwa [List.getD_eq_getElem?_getD,List.getElem?_eq_getElem hi] at this
theorem all_not {α:Type}{f:α→Bool}{l:List α}(z:α)(i:Nat)(hi:i<l.length)(h:f (l.getD i z)=false):l.all f=false:=by
 cases hb:l.all f
 · rfl
 · rw[all_get z hb i hi] at h;cases h
abbrev Ev:=Int×Int×Bool×Int×Int×Int
def zE:Ev:=(0,0,false,0,0,0)
def csE (e:Ev):Int:=e.2.2.2.2.2
def evBeg:List Ev:=[(-1,-1,false,0,0,0),(-1,-1,false,1,0,1),(-1,-1,false,2,0,2)]
def oneE (i k:Nat)(d:Dd)(c:Int):List Ev:=
 if d.1=4 then [] else if d.1=3 then [((i:Int),(k:Int),true,d.2.1,0,c),((i:Int),(k:Int),false,d.2.1,d.2.2.1,c)]
 else if d.1=2 then [((i:Int),(k:Int),false,d.2.1,d.2.2.1,c)] else [((i:Int),(k:Int),true,d.2.1,0,c)]
def fstE (g:Int)(at0:Nat)(f:List Int):List Int:=if 0<g∧f.getD g.toNat 0=0 then f.set g.toNat (at0:Int) else f
def clsE (g:Int)(at0:Nat)(f:List Int):Int:=if 0<g then (fstE g at0 f).getD g.toNat 0 else (at0:Int)
def stepE (i k:Nat)(d:Dd)(s:List Ev×List Int):List Ev×List Int:=
 if d.1=4 then s else (s.1++oneE i k d (clsE d.2.2.2 s.1.length s.2),fstE d.2.2.2 s.1.length s.2)
def clkE (i:Nat)(ds:List Dd)(out:List Ev):Nat→List Ev×List Int
 | 0=>(out,List.replicate 10 0)
 |k+1=>stepE i k (ds.getD k zD) (clkE i ds out k)
def evsW (dss:List (List Dd)):Nat→List Ev
 | 0=>evBeg
 |i+1=>(clkE i (dss.getD i []) (evsW dss i) (dss.getD i []).length).1
def eventsB (dss:List (List Dd)):List Ev:=if workB dss=true then evsW dss dss.length else []
theorem oneE_len (i k:Nat)(d:Dd)(c:Int)(h:d.1=1∨d.1=2∨d.1=3∨d.1=4):((oneE i k d c).length:Int)=evD d:=by
 unfold oneE evD;rcases h with h|h|h|h<;>simp[h]
theorem okD_kindE {d:Dd}(h:okD d=true):d.1=1∨d.1=2∨d.1=3∨d.1=4:=by
 simp[okD,deedB] at h;omega
theorem okD_restE {d:Dd}(h:okD d=true):0≤d.2.1∧d.2.1≤2∧0≤d.2.2.2∧d.2.2.2≤9∧(2<d.1→d.2.2.2=0):=by
 simp[okD,deedB] at h;omega
theorem clkE_len {i:Nat}{ds:List Dd}{out:List Ev}(hok:∀j,j<ds.length→okD (ds.getD j zD)=true):∀k:Nat,k≤ds.length→((clkE i ds out k).1.length:Int)=out.length+evK ds k
 | 0,_=>by simp[clkE,evK]
 |k+1,h=>by
  have ih:=clkE_len (i:=i) (out:=out) hok k (by omega);have hk:=okD_kindE (hok k (by omega));rw[clkE,stepE,evK];split
  ·
   rename_i h4;rw[ih];unfold evD;rw[h4];simp
  ·
   have:=oneE_len i k (ds.getD k zD) (clsE (ds.getD k zD).2.2.2 (clkE i ds out k).1.length (clkE i ds out k).2) hk;rw[List.length_append];omega
theorem evsW_len {dss:List (List Dd)}(hok:∀i,i<dss.length→okL (dss.getD i [])=true):∀n:Nat,n≤dss.length→((evsW dss n).length:Int)=3+evW dss n
 | 0,_=>by simp[evsW,evBeg,evW]
 |n+1,h=>by
  have ih:=evsW_len hok n (by omega);have hn:=hok n (by omega);simp only[okL,Bool.and_eq_true,decide_eq_true_eq] at hn;rw[evsW,clkE_len (fun j hj=>all_get zD hn.1 j hj) _ (Nat.le_refl _),ih,evW];omega
def GoodE (dss:List (List Dd))(out:List Ev)(j:Nat):Prop:=
 ∃(i k c:Nat) (rd:Bool) (vl:Int),out[j]? = some ((i:Int),(k:Int),rd,((dss.getD i []).getD k zD).2.1,vl,(c:Int))∧i<dss.length∧k<(dss.getD i []).length ∧
  (rd=true→vl=0)∧(rd=false→vl=((dss.getD i []).getD k zD).2.2.1)∧c≤j ∧
  ∃(k':Nat) (rd':Bool) (pl' vl':Int),out[c]? = some ((i:Int),(k':Int),rd',pl',vl',(c:Int))∧k'<(dss.getD i []).length ∧
   (c≠j→((dss.getD i []).getD k zD).1≠3→((dss.getD i []).getD k zD).2.2.2≠0∧((dss.getD i []).getD k' zD).2.2.2=((dss.getD i []).getD k zD).2.2.2)
theorem at_left {α:Type}{l:List α}{j:Nat}{x:α}(t:List α)(h:l[j]? = some x):(l++t)[j]? = some x:=by
 rw[List.getElem?_append_left (List.getElem?_eq_some_iff.1 h).1];exact h
theorem GoodE.more {dss:List (List Dd)}{out:List Ev}{j:Nat}(h:GoodE dss out j)(t:List Ev):GoodE dss (out++t) j:=by
 obtain⟨i,k,c,rd,vl,h1,h2,h3,h4,h5,h6,k',rd',pl',vl',g1,g2,g3⟩:=h;exact⟨i,k,c,rd,vl,at_left t h1,h2,h3,h4,h5,h6,k',rd',pl',vl',at_left t g1,g2,g3⟩
def FstOk (dss:List (List Dd))(i:Nat)(out:List Ev)(f:List Int):Prop:=
 f.length=10∧∀g:Nat,0<g→g<10→f.getD g 0=0∨∃(c k':Nat) (rd':Bool) (pl' vl':Int),f.getD g 0=(c:Int)∧out[c]? = some ((i:Int),(k':Int),rd',pl',vl',(c:Int))∧k'<(dss.getD i []).length∧((dss.getD i []).getD k' zD).2.2.2=(g:Int)
theorem getD_setE (o:List Int)(g:Nat)(x:Int)(j:Nat)(hg:g<o.length):(o.set g x).getD j 0=if g=j then x else o.getD j 0:=by
 rw[List.getD_eq_getElem?_getD,List.getElem?_set];by_cases e:g=j
 · subst e;rw[if_pos rfl,if_pos hg,if_pos rfl];rfl
 · rw[if_neg e,if_neg e,List.getD_eq_getElem?_getD]
theorem oneE_first (i k:Nat)(d:Dd)(c:Int)(h4:d.1≠4):∃rd vl,(oneE i k d c)[0]? = some ((i:Int),(k:Int),rd,d.2.1,vl,c)∧(rd=true→vl=0)∧(rd=false→vl=d.2.2.1):=by
 unfold oneE;rw[if_neg h4];split
 · exact⟨true,0,rfl,by simp,by simp⟩
 ·
  split
  · exact⟨false,d.2.2.1,rfl,by simp,by simp⟩
  · exact⟨true,0,rfl,by simp,by simp⟩
theorem step_good {dss:List (List Dd)}{i k:Nat}{out:List Ev}{f:List Int}(hi:i<dss.length)(hk:k<(dss.getD i []).length)(hok:okD ((dss.getD i []).getD k zD)=true)
  (hG:∀j,3≤j→j<out.length→GoodE dss out j) (hF:FstOk dss i out f):
  (∀j,3≤j→j<(stepE i k ((dss.getD i []).getD k zD) (out,f)).1.length→GoodE dss (stepE i k ((dss.getD i []).getD k zD) (out,f)).1 j)∧FstOk dss i (stepE i k ((dss.getD i []).getD k zD) (out,f)).1 (stepE i k ((dss.getD i []).getD k zD) (out,f)).2:=by
 obtain⟨d,hd⟩:∃d,d=(dss.getD i []).getD k zD:=⟨_,rfl⟩;rw[←hd] at hok ⊢;by_cases h4:d.1=4
 · rw[stepE,if_pos h4];exact⟨hG,hF⟩
 rw[stepE,if_neg h4];dsimp only;obtain⟨r0,r1,r2,r3,r4⟩:=okD_restE hok;obtain⟨g,hg⟩:=Int.eq_ofNat_of_zero_le r2;obtain⟨hl,hf⟩:=hF
 have hcls:∃(c k':Nat) (rd':Bool) (pl' vl':Int),clsE d.2.2.2 out.length f=(c:Int)∧c≤out.length∧(out++oneE i k d (clsE d.2.2.2 out.length f))[c]? = some ((i:Int),(k':Int),rd',pl',vl',(c:Int))∧k'<(dss.getD i []).length ∧
   (c≠out.length→d.2.2.2≠0∧((dss.getD i []).getD k' zD).2.2.2=d.2.2.2)∧(c=out.length→k'=k):=by
  obtain⟨rd,vl,ho,_,_⟩:=oneE_first i k d (clsE d.2.2.2 out.length f) h4
  have new:clsE d.2.2.2 out.length f=(out.length:Int)→(out++oneE i k d (clsE d.2.2.2 out.length f))[out.length]? = some ((i:Int),(k:Int),rd,d.2.1,vl,((out.length:Nat):Int)):=fun e=>by
   rw[List.getElem?_append_right (Nat.le_refl _),Nat.sub_self,ho,e]
  by_cases hg0:g=0
  ·
   have e:clsE d.2.2.2 out.length f=(out.length:Int):=by unfold clsE;rw[hg,if_neg (by omega)]
   exact⟨out.length,k,rd,d.2.1,vl,e,Nat.le_refl _,new e,hk,fun h=>absurd rfl h,fun _=>rfl⟩
  ·
   have gp:(0:Int)<d.2.2.2:=by rw[hg];omega
   have g10:g<10:=by rw[hg] at r3;omega
   rcases hf g (by omega) g10 with h0|⟨c,k',rd',pl',vl',e1,e2,e3,e4⟩
   ·
    have e:clsE d.2.2.2 out.length f=(out.length:Int):=by
     unfold clsE fstE;rw[if_pos gp,hg,Int.toNat_natCast,if_pos ⟨by omega,h0⟩,getD_setE f g _ g (by omega),if_pos rfl]
    exact⟨out.length,k,rd,d.2.1,vl,e,Nat.le_refl _,new e,hk,fun h=>absurd rfl h,fun _=>rfl⟩
   ·
    have cl:c<out.length:=(List.getElem?_eq_some_iff.1 e2).1;by_cases hc0:(c:Int)=0
    ·
     have e:clsE d.2.2.2 out.length f=(out.length:Int):=by
      unfold clsE fstE;rw[if_pos gp,hg,Int.toNat_natCast,if_pos ⟨by omega,by rw[e1];exact hc0⟩,getD_setE f g _ g (by omega),if_pos rfl]
     exact⟨out.length,k,rd,d.2.1,vl,e,Nat.le_refl _,new e,hk,fun h=>absurd rfl h,fun _=>rfl⟩
    ·
     have e:clsE d.2.2.2 out.length f=(c:Int):=by
      unfold clsE fstE;rw[if_pos gp,hg,Int.toNat_natCast,if_neg (by rw[e1];omega),e1]
     exact⟨c,k',rd',pl',vl',e,by omega,at_left _ e2,e3,fun _=>⟨by omega,by rw[e4,hg]⟩,fun h=>by omega⟩
 obtain⟨c,k',rd',pl',vl',hc,hcl,hce,hk',hcg,hcn⟩:=hcls;rw[hc] at hce ⊢;refine⟨fun j hj3 hj=>?_,?_⟩
 ·
  by_cases hold:j<out.length
  · exact (hG j hj3 hold).more _
  ·
   have e1:(out++oneE i k d (c:Int))[j]? = (oneE i k d (c:Int))[j-out.length]?:=List.getElem?_append_right (by omega);have hjl:j-out.length<(oneE i k d (c:Int)).length:=by rw[List.length_append] at hj;omega
   have form:∃rd vl,(oneE i k d (c:Int))[j-out.length]? = some ((i:Int),(k:Int),rd,d.2.1,vl,(c:Int))∧(rd=true→vl=0)∧(rd=false→vl=d.2.2.1)∧(j≠out.length→d.1=3):=by
    by_cases hz:j-out.length=0
    ·
     obtain⟨rd,vl,ho,h5,h6⟩:=oneE_first i k d (c:Int) h4;exact⟨rd,vl,by rw[hz];exact ho,h5,h6,fun h=>by omega⟩
    ·
     unfold oneE at hjl ⊢;rw[if_neg h4] at hjl ⊢;split at hjl
     ·
      rename_i h3;rw[if_pos h3];have:j-out.length=1:=by simp at hjl;omega
      rw[this];exact⟨false,d.2.2.1,rfl,by simp,by simp,fun _=>h3⟩
     ·
      split at hjl
      · simp at hjl;omega
      · simp at hjl;omega
   obtain⟨rd,vl,h1,h5,h6,h7⟩:=form;refine⟨i,k,c,rd,vl,by rw[e1,←hd];exact h1,hi,hk,h5,by rw[←hd];exact h6,by omega,k',rd',pl',vl',hce,hk',fun hcj h3=>?_⟩;rw[←hd] at h3 ⊢
   have:j=out.length:=by
    apply Classical.byContradiction;intro hne;exact h3 (h7 hne)
   exact hcg (by omega)
 ·
  refine⟨by unfold fstE;split<;>simp[hl],fun q hq0 hq=>?_⟩
  have keepOld:f.getD q 0=0∨∃(c' k'':Nat) (rd'':Bool) (pl'' vl'':Int),f.getD q 0=(c':Int)∧(out++oneE i k d (c:Int))[c']? = some ((i:Int),(k'':Int),rd'',pl'',vl'',(c':Int))∧k''<(dss.getD i []).length∧((dss.getD i []).getD k'' zD).2.2.2=(q:Int):=by
   rcases hf q hq0 hq with h0|⟨c',k'',rd'',pl'',vl'',e1,e2,e3,e4⟩
   · exact .inl h0
   · exact .inr ⟨c',k'',rd'',pl'',vl'',e1,at_left _ e2,e3,e4⟩
  unfold fstE;split
  ·
   rename_i hcond;rw[hg,Int.toNat_natCast] at hcond ⊢;rw[getD_setE f g _ q (by rw[hg] at r3;omega)];by_cases e:g=q
   ·
    subst e;rw[if_pos rfl];right
    have ec:c=out.length:=by
     have:clsE d.2.2.2 out.length f=(out.length:Int):=by
      unfold clsE fstE;rw[if_pos (by rw[hg];exact hcond.1),hg,Int.toNat_natCast,if_pos hcond,getD_setE f g _ g (by rw[hg] at r3;omega),if_pos rfl]
     omega
    have ek:=hcn ec;subst ek;refine⟨out.length,k',rd',pl',vl',rfl,?_,hk',by rw[←hd,hg]⟩;rw[ec] at hce;rw[ec];exact hce
   · rw[if_neg e];exact keepOld
  · exact keepOld
theorem clk_good {dss:List (List Dd)}{i:Nat}{out:List Ev}(hi:i<dss.length)(hok:∀j,j<(dss.getD i []).length→okD ((dss.getD i []).getD j zD)=true)(hG:∀j,3≤j→j<out.length→GoodE dss out j):
  ∀k:Nat,k≤(dss.getD i []).length→(∃t,(clkE i (dss.getD i []) out k).1=out++t)∧(∀j,3≤j→j<(clkE i (dss.getD i []) out k).1.length→GoodE dss (clkE i (dss.getD i []) out k).1 j)∧FstOk dss i (clkE i (dss.getD i []) out k).1 (clkE i (dss.getD i []) out k).2
 | 0,_=>⟨⟨[],by simp[clkE]⟩,hG,by simp[clkE],fun g _ hg => .inl (by simp only[clkE];rw[List.getD_eq_getElem?_getD,List.getElem?_replicate,if_pos hg];rfl)⟩
 |k+1,h=>by
  obtain⟨⟨t,ht⟩,h2,h3⟩:=clk_good hi hok hG k (by omega);have:=step_good (k:=k) hi (by omega) (hok k (by omega)) h2 h3;refine⟨?_,this⟩;rw[clkE,stepE];split
  · exact⟨t,ht⟩
  · exact⟨t++oneE i k ((dss.getD i []).getD k zD) (clsE ((dss.getD i []).getD k zD).2.2.2 (clkE i (dss.getD i []) out k).1.length (clkE i (dss.getD i []) out k).2),by simp only;rw[ht,List.append_assoc]⟩
theorem evs_good {dss:List (List Dd)}(hok:∀i,i<dss.length→okL (dss.getD i [])=true):∀n:Nat,n≤dss.length→(∃t,evsW dss n=evBeg++t)∧∀j,3≤j→j<(evsW dss n).length→GoodE dss (evsW dss n) j
 | 0,_=>⟨⟨[],by simp[evsW]⟩,fun j h1 h2=>by simp[evsW,evBeg] at h2;omega⟩
 |n+1,h=>by
  obtain⟨⟨t,ht⟩,h2⟩:=evs_good hok n (by omega);have hn:=hok n (by omega);simp only[okL,Bool.and_eq_true,decide_eq_true_eq] at hn;obtain⟨⟨t2,ht2⟩,h3,_⟩:=clk_good (i:=n) (out:=evsW dss n) (by omega) (fun j hj=>all_get zD hn.1 j hj) h2 (dss.getD n []).length (Nat.le_refl _);rw[evsW];exact⟨⟨t++t2,by rw[ht2,ht,List.append_assoc]⟩,h3⟩
def rdE (e:Ev):Bool:=e.2.2.1
def toE (p:Int)(e:Ev):Bool:=!e.2.2.1&&(e.2.2.2.1==p)
def idxK (f:Ev→Bool)(l:List Ev):Nat→List Int
 | 0=>[]
 |k+1=>if f (l.getD k zE)=true then idxK f l k++[(k:Int)] else idxK f l k
def idxB (f:Ev→Bool)(l:List Ev):List Int:=if l.length≤12 then idxK f l l.length else []
def clsB (l:List Ev):List Int:=if l.length≤12 then l.map csE else []
theorem idxK_len (f:Ev→Bool)(l:List Ev):∀k:Nat,(idxK f l k).length≤k
 | 0=>by simp[idxK]
 |k+1=>by
  have ih:=idxK_len f l k;rw[idxK];split
  · simp;omega
  · omega
theorem idxK_lt (f:Ev→Bool)(l:List Ev):∀(k:Nat) (x:Int),x∈idxK f l k→0≤x∧x<(k:Int)
 | 0,x,h=>by simp[idxK] at h
 |k+1,x,h=>by
  rw[idxK] at h;split at h
  ·
   rcases List.mem_append.1 h with h|h
   · have:=idxK_lt f l k x h;omega
   · simp at h;omega
  · have:=idxK_lt f l k x h;omega
theorem idxK_rises (f:Ev→Bool)(l:List Ev):∀k:Nat,(idxK f l k).Pairwise (·<·)
 | 0=>by simp[idxK]
 |k+1=>by
  have ih:=idxK_rises f l k;rw[idxK];split
  ·
   rw[List.pairwise_append];refine⟨ih,by simp,fun a ha b hb=>?_⟩;simp at hb;have:=idxK_lt f l k a ha;omega
  · exact ih
theorem idxK_pre (f:Ev→Bool)(l:List Ev)(k:Nat):∀n:Nat,k≤n→∃t,idxK f l n=idxK f l k++t
 | 0,h=>by
  obtain rfl:k=0:=by omega
  exact⟨[],by simp⟩
 |n+1,h=>by
  by_cases e:k=n+1
  · subst e;exact⟨[],by simp⟩
  ·
   obtain⟨t,ht⟩:=idxK_pre f l k n (by omega);rw[idxK];split
   · exact⟨t++[(n:Int)],by rw[ht,List.append_assoc]⟩
   · exact⟨t,ht⟩
theorem idx_sum {l:List Ev}:∀k:Nat,(∀j,j<k→0≤(l.getD j zE).2.2.2.1∧(l.getD j zE).2.2.2.1≤2)→(idxK rdE l k).length+(idxK (toE 0) l k).length+(idxK (toE 1) l k).length+(idxK (toE 2) l k).length=k
 | 0,_=>by simp[idxK]
 |k+1,h=>by
  have ih:=idx_sum (l:=l) k (fun j hj=>h j (by omega));have hp:=h k (by omega);obtain⟨e,he⟩:∃e,e=l.getD k zE:=⟨_,rfl⟩;rw[←he] at hp;simp only[idxK,←he];clear he;obtain⟨a,b,r,p,v,c⟩:=e;simp only at hp;cases r
  ·
   have hr:rdE (a,b,false,p,v,c)=false:=rfl;have:p=0∨p=1∨p=2:=by omega
   rcases this with rfl|rfl|rfl
   ·
    have t0:toE 0 (a,b,false,0,v,c)=true:=rfl;have t1:toE 1 (a,b,false,0,v,c)=false:=rfl;have t2:toE 2 (a,b,false,0,v,c)=false:=rfl;simp only[hr,t0,t1,t2,if_true,Bool.false_eq_true,if_false,List.length_append,List.length_cons,List.length_nil];omega
   ·
    have t0:toE 0 (a,b,false,1,v,c)=false:=rfl;have t1:toE 1 (a,b,false,1,v,c)=true:=rfl;have t2:toE 2 (a,b,false,1,v,c)=false:=rfl;simp only[hr,t0,t1,t2,if_true,Bool.false_eq_true,if_false,List.length_append,List.length_cons,List.length_nil];omega
   ·
    have t0:toE 0 (a,b,false,2,v,c)=false:=rfl;have t1:toE 1 (a,b,false,2,v,c)=false:=rfl;have t2:toE 2 (a,b,false,2,v,c)=true:=rfl;simp only[hr,t0,t1,t2,if_true,Bool.false_eq_true,if_false,List.length_append,List.length_cons,List.length_nil];omega
  ·
   have hr:rdE (a,b,true,p,v,c)=true:=rfl;have t:∀q,toE q (a,b,true,p,v,c)=false:=fun _=>rfl
   simp only[hr,t,if_true,Bool.false_eq_true,if_false,List.length_append,List.length_cons,List.length_nil];omega
theorem beg_get {l t:List Ev}(h:l=evBeg++t):l.getD 0 zE=(-1,-1,false,0,0,0)∧l.getD 1 zE=(-1,-1,false,1,0,1)∧l.getD 2 zE=(-1,-1,false,2,0,2):=by
 subst h;exact⟨rfl,rfl,rfl⟩
theorem idx_first {l t:List Ev}(h:l=evBeg++t)(p:Nat)(hp:p<3):∃r,idxK (toE (p:Int)) l l.length=(p:Int)::r:=by
 obtain⟨h0,h1,h2⟩:=beg_get h;have hl:3≤l.length:=by rw[h];simp[evBeg]
 obtain⟨r,hr⟩:=idxK_pre (toE (p:Int)) l 3 l.length hl
 have e:∃q,idxK (toE (p:Int)) l 3=(p:Int)::q:=by
  have:p=0∨p=1∨p=2:=by omega
  simp only[idxK,h0,h1,h2,toE];rcases this with rfl|rfl|rfl
  · exact⟨[],by simp⟩
  · exact⟨[],by simp⟩
  · exact⟨[],by simp⟩
 obtain⟨q,hq⟩:=e;exact⟨q++r,by rw[hr,hq];rfl⟩
theorem good_place {dss:List (List Dd)}{out:List Ev}{j:Nat}(hok:∀i,i<dss.length→okL (dss.getD i [])=true)(h:GoodE dss out j):0≤(out.getD j zE).2.2.2.1∧(out.getD j zE).2.2.2.1≤2:=by
 obtain⟨i,k,c,rd,vl,h1,h2,h3,_⟩:=h;have hi:=hok i h2;simp only[okL,Bool.and_eq_true,decide_eq_true_eq] at hi;have:=okD_restE (all_get zD hi.1 k h3);rw[List.getD_eq_getElem?_getD,h1];exact⟨this.1,this.2.1⟩
theorem events_law {dss:List (List Dd)}(h:workB dss=true):(evsW dss dss.length).length≤12∧((evsW dss dss.length).length:Int)=3+evW dss dss.length ∧
  (idxK rdE (evsW dss dss.length) (evsW dss dss.length).length).length+(idxK (toE 0) (evsW dss dss.length) (evsW dss dss.length).length).length+(idxK (toE 1) (evsW dss dss.length) (evsW dss dss.length).length).length+(idxK (toE 2) (evsW dss dss.length) (evsW dss dss.length).length).length=(evsW dss dss.length).length ∧
  (∀p:Nat,p<3→∃r,idxK (toE (p:Int)) (evsW dss dss.length) (evsW dss dss.length).length=(p:Int)::r)∧∀j,3≤j→j<(evsW dss dss.length).length→GoodE dss (evsW dss dss.length) j:=by
 simp only[workB,Bool.and_eq_true,decide_eq_true_eq] at h;obtain⟨⟨⟨⟨h1,h2⟩,h3⟩,h4⟩,_⟩:=h;have hok:∀i,i<dss.length→okL (dss.getD i [])=true:=fun i hi=>all_get [] h2 i hi
 have hl:=evsW_len hok dss.length (Nat.le_refl _);obtain⟨⟨t,ht⟩,hg⟩:=evs_good hok dss.length (Nat.le_refl _);refine⟨by omega,hl,idx_sum _ (fun j hj=>?_),fun p hp=>idx_first ht p hp,hg⟩;by_cases hj3:3≤j
 · exact good_place hok (hg j hj3 hj)
 ·
  obtain⟨b0,b1,b2⟩:=beg_get ht;have:j=0∨j=1∨j=2:=by omega
  rcases this with rfl|rfl|rfl
  · rw[b0];decide
  · rw[b1];decide
  · rw[b2];decide
def goB (ds:List Dd)(k:Nat):Bool:=decide (0<k)&&((ds.getD k zD).2.2.2 != 0)&&((ds.getD k zD).2.2.2==(ds.getD (k-1) zD).2.2.2)
def lastC (out:List Ev):Int:=csE (out.getD (out.length-1) zE)
def ncE (out:List Ev)(go:Bool):Int:=if go=true then lastC out else (out.length:Int)
def clkP (i:Nat)(ds:List Dd)(out:List Ev):Nat→List Ev
 | 0=>out
 |k+1=>clkP i ds out k++oneE i k (ds.getD k zD) (ncE (clkP i ds out k) (goB ds k))
def evsP (dss:List (List Dd)):Nat→List Ev
 | 0=>evBeg
 |i+1=>clkP i (dss.getD i []) (evsP dss i) (dss.getD i []).length
def Tog (ds:List Dd):Prop:=∀k j,k<ds.length→j<k→(ds.getD k zD).2.2.2≠0→(ds.getD j zD).2.2.2=(ds.getD k zD).2.2.2→(ds.getD (k-1) zD).2.2.2=(ds.getD k zD).2.2.2
theorem grpK_own {i:Nat}{own:List Int}{ds:List Dd}(hl:own.length=10):∀(k:Nat) (o:List Int),grpK i own ds k=some o→(∀j,j<k→okD (ds.getD j zD)=true) →
  ∀j,j<k→(ds.getD j zD).2.2.2≠0→o.getD (ds.getD j zD).2.2.2.toNat 0=(i:Int)+1
 | 0,o,h,_,j,hj,_=>by omega
 |k+1,o',h,hok,j,hj,h0=>by
  rw[grpK] at h
  cases hq:grpK i own ds k with
  |none=>rw[hq] at h;cases h
  |some o=>
   rw[hq] at h;have ih:=grpK_own hl k o hq (fun j hj=>hok j (by omega));have hol:=grpK_len hq;simp only at h;have okj:=okD_restE (hok j hj);split at h
   ·
    rename_i hz;simp only[Option.some.injEq] at h;subst h;by_cases e:j=k
    · subst e;exact absurd hz h0
    · exact ih j (by omega) h0
   ·
    rename_i hz;split at h
    · cases h
    ·
     simp only[Option.some.injEq] at h;subst h;have okk:=okD_restE (hok k (by omega));rw[getD_setE o _ _ _ (by omega)];by_cases e:(ds.getD k zD).2.2.2.toNat=(ds.getD j zD).2.2.2.toNat
     · rw[if_pos e]
     ·
      rw[if_neg e];by_cases e2:j=k
      · subst e2;exact absurd rfl e
      · exact ih j (by omega) h0
theorem grpK_tog {i:Nat}{own:List Int}{ds:List Dd}(hl:own.length=10){o:List Int}(h:grpK i own ds ds.length=some o)(hok:∀j,j<ds.length→okD (ds.getD j zD)=true):Tog ds:=by
 intro k j hk hj h0 he
 have step:∃o',grpK i own ds (k+1)=some o':=by
  cases hq:grpK i own ds (k+1) with
  |none=>rw[grpK_none hq ds.length (by omega)] at h;cases h
  |some o'=>exact⟨o',rfl⟩
 obtain⟨o',ho'⟩:=step;rw[grpK] at ho'
 cases hq:grpK i own ds k with
 |none=>rw[hq] at ho';cases ho'
 |some o1=>
  rw[hq] at ho';have hown:=grpK_own hl k o1 hq (fun j hj=>hok j (by omega)) j hj (by rw[he];exact h0);rw[he] at hown;simp only at ho';rw[if_neg h0] at ho';split at ho'
  · cases ho'
  ·
   rename_i hn;apply Classical.byContradiction;intro hc;exact hn ⟨by rw[hown];omega,.inr (.inr hc)⟩
theorem work_tog {dss:List (List Dd)}(hb:workB dss=true):∀i,i<dss.length→Tog (dss.getD i []):=by
 intro i hi;simp only[workB,Bool.and_eq_true,decide_eq_true_eq] at hb;obtain⟨⟨⟨⟨_,h2⟩,_⟩,_⟩,hg⟩:=hb;have hok:=all_get [] h2 i hi;simp only[okL,Bool.and_eq_true,decide_eq_true_eq] at hok
 have hs:∀n,n≤dss.length→∃o,grpW dss n=some o:=by
  intro n hn
  cases hq:grpW dss n with
  |none=>rw[grpB,grpW_none hq dss.length hn] at hg;cases hg
  |some o=>exact⟨o,rfl⟩
 obtain⟨o,ho⟩:=hs i (by omega);obtain⟨o',ho'⟩:=hs (i+1) (by omega);rw[grpW,ho] at ho';exact grpK_tog (grpW_len ho) ho' (fun j hj=>all_get zD hok.1 j hj)
theorem last_snoc (out t:List Ev)(e:Ev):lastC (out++(t++[e]))=csE e:=by
 unfold lastC;rw[←List.append_assoc,List.length_append,List.getD_eq_getElem?_getD];simp
theorem clkP_same {i:Nat}{ds:List Dd}{out:List Ev}(ht:Tog ds)(hok:∀j,j<ds.length→okD (ds.getD j zD)=true)(ho:1≤out.length):
  ∀k:Nat,k≤ds.length→clkP i ds out k=(clkE i ds out k).1∧(clkE i ds out k).2.length=10∧1≤(clkE i ds out k).1.length ∧
   (∀g:Nat,0<g→g<10→(∀j,j<k→(ds.getD j zD).2.2.2≠(g:Int))→(clkE i ds out k).2.getD g 0=0) ∧
   (∀j,j<k→(ds.getD j zD).2.2.2≠0→(clkE i ds out k).2.getD (ds.getD j zD).2.2.2.toNat 0≠0) ∧
   (0<k→(ds.getD (k-1) zD).2.2.2≠0→(clkE i ds out k).2.getD (ds.getD (k-1) zD).2.2.2.toNat 0=lastC (clkE i ds out k).1)
 | 0,_=>⟨rfl,by simp[clkE],ho,fun g _ hg _=>by simp only[clkE];rw[List.getD_eq_getElem?_getD,List.getElem?_replicate,if_pos hg];rfl,fun j hj=>by omega,fun h=>by omega⟩
 |k+1,hk=>by
  obtain⟨h1,h2,h3,h4,h5,h6⟩:=clkP_same ht hok ho k (by omega);have hd:=hok k (by omega);obtain⟨r0,r1,r2,r3,r4⟩:=okD_restE hd;have hkd:=okD_kindE hd;rw[clkP,clkE,h1,Nat.add_sub_cancel];generalize hS:clkE i ds out k=S at h2 h3 h4 h5 h6;obtain⟨L,f⟩:=S;simp only at h2 h3 h4 h5 h6;generalize hdd:ds.getD k zD=d at hd r0 r1 r2 r3 r4 hkd;have hg:goB ds k=(decide (0<k)&&(d.2.2.2 != 0)&&(d.2.2.2==(ds.getD (k-1) zD).2.2.2)):=by rw[goB,hdd]
  have old5:∀j,j<k→(ds.getD j zD).2.2.2≠0→(ds.getD j zD).2.2.2.toNat<10:=fun j hj _=>by
   have:=okD_restE (hok j (by omega));omega
  by_cases h4k:d.1=4
  ·
   have g0:d.2.2.2=0:=r4 (by omega);have e1:oneE i k d (ncE L (goB ds k))=[]:=by unfold oneE;rw[if_pos h4k]
   rw[stepE,if_pos h4k,e1,List.append_nil];refine⟨rfl,h2,h3,fun g hg0 hg10 hn=>h4 g hg0 hg10 (fun j hj=>hn j (by omega)),fun j hj hne=>?_,fun _ hne=>absurd g0 hne⟩;by_cases e:j=k
   · subst e;rw[hdd] at hne;exact absurd g0 hne
   · exact h5 j (by omega) hne
  ·
   rw[stepE,if_neg h4k];by_cases g0:d.2.2.2=0
   ·
    have e1:ncE L (goB ds k)=clsE d.2.2.2 L.length f:=by
     rw[hg,g0];simp[ncE,clsE]
    have e2:fstE d.2.2.2 L.length f=f:=by unfold fstE;rw[if_neg (by rw[g0];omega)]
    rw[e1];simp only;rw[e2];refine⟨by trivial,h2,by rw[List.length_append];omega,fun g hg0 hg10 hn=>h4 g hg0 hg10 (fun j hj=>hn j (by omega)),fun j hj hne=>?_,fun _ hne=>absurd g0 hne⟩;by_cases e:j=k
    · subst e;rw[hdd] at hne;exact absurd g0 hne
    · exact h5 j (by omega) hne
   ·
    have gp:(0:Int)<d.2.2.2:=by omega
    have k2:d.1=1∨d.1=2:=by
     apply Classical.byContradiction;intro hn;exact g0 (r4 (by omega))
    have one:∀c,∃e,oneE i k d c=[e]∧csE e=c:=by
     intro c;unfold oneE;rcases k2 with e|e
     · exact⟨_,by rw[if_neg h4k,if_neg (by omega),if_neg (by omega)],rfl⟩
     · exact⟨_,by rw[if_neg h4k,if_neg (by omega),if_pos e],rfl⟩
    have fin:∀c,lastC (L++oneE i k d c)=c:=fun c=>by
     obtain⟨e,he,hc⟩:=one c;rw[he,←hc];exact last_snoc L [] e
    by_cases hgo:0<k∧(ds.getD (k-1) zD).2.2.2=d.2.2.2
    ·
     obtain⟨k0,hgo⟩:=hgo;have e0:goB ds k=true:=by rw[hg,hgo];simp[k0,g0]
     have f0:f.getD d.2.2.2.toNat 0≠0:=by have:=h5 (k-1) (by omega) (by rw[hgo];exact g0);rw[hgo] at this;exact this
     have f1:f.getD d.2.2.2.toNat 0=lastC L:=by have:=h6 k0 (by rw[hgo];exact g0);rw[hgo] at this;exact this
     have e2:fstE d.2.2.2 L.length f=f:=by unfold fstE;rw[if_neg (fun h=>f0 h.2)]
     have e1:ncE L (goB ds k)=clsE d.2.2.2 L.length f:=by
      rw[e0];unfold ncE clsE;rw[if_pos rfl,if_pos gp,e2,f1]
     have e3:clsE d.2.2.2 L.length f=f.getD d.2.2.2.toNat 0:=by unfold clsE;rw[if_pos gp,e2]
     rw[e1];simp only;rw[e2];refine⟨by trivial,h2,by rw[List.length_append];omega,fun g hg0 hg10 hn=>h4 g hg0 hg10 (fun j hj=>hn j (by omega)),fun j hj hne=>?_,fun _ _=>?_⟩
     ·
      by_cases e:j=k
      · subst e;rw[hdd];exact f0
      · exact h5 j (by omega) hne
     · rw[fin,e3]
    ·
     have none:∀j,j<k→(ds.getD j zD).2.2.2≠d.2.2.2:=by
      intro j hj he;refine hgo ⟨by omega,?_⟩;have:=ht k j (by omega) hj (by rw[hdd];exact g0) (by rw[hdd];exact he);rw[hdd] at this;exact this
     obtain⟨g,hgg⟩:=Int.eq_ofNat_of_zero_le r2;have g10:g<10:=by omega
     have f0:f.getD d.2.2.2.toNat 0=0:=by
      rw[hgg,Int.toNat_natCast];exact h4 g (by omega) g10 (fun j hj=>by rw[←hgg];exact none j hj)
     have e0:goB ds k=false:=by
      rw[hg];by_cases k0:0<k
      ·
       have:¬(d.2.2.2=(ds.getD (k-1) zD).2.2.2):=fun e=>hgo ⟨k0,e.symm⟩
       have e:(d.2.2.2==(ds.getD (k-1) zD).2.2.2)=false:=by simpa using this
       rw[e,Bool.and_false]
      · simp[k0]
     have e2:fstE d.2.2.2 L.length f=f.set d.2.2.2.toNat (L.length:Int):=by unfold fstE;rw[if_pos ⟨gp,f0⟩]
     have e3:clsE d.2.2.2 L.length f=(L.length:Int):=by
      unfold clsE;rw[if_pos gp,e2,getD_setE f _ _ _ (by omega),if_pos rfl]
     have e1:ncE L (goB ds k)=clsE d.2.2.2 L.length f:=by rw[e0,e3];simp[ncE]
     rw[e1];simp only;rw[e2];refine⟨by trivial,by rw[List.length_set];exact h2,by rw[List.length_append];omega,fun q hq0 hq10 hn=>?_,fun j hj hne=>?_,fun _ _=>?_⟩
     ·
      have hqk:=hn k (by omega);rw[hdd] at hqk;rw[getD_setE f _ _ _ (by omega),if_neg (by omega)];exact h4 q hq0 hq10 (fun j hj=>hn j (by omega))
     ·
      by_cases e:j=k
      ·
       subst e;rw[hdd,getD_setE f _ _ _ (by omega),if_pos rfl];omega
      ·
       have nj:=none j (by omega);have okj:=okD_restE (hok j (by omega));rw[getD_setE f _ _ _ (by omega),if_neg (by omega)];exact h5 j (by omega) hne
     · rw[fin,e3,getD_setE f _ _ _ (by omega),if_pos rfl]
theorem evsP_same {dss:List (List Dd)}(hb:workB dss=true):∀n:Nat,n≤dss.length→evsP dss n=evsW dss n∧1≤(evsW dss n).length
 | 0,_=>⟨rfl,by simp[evsW,evBeg]⟩
 |n+1,h=>by
  obtain⟨h1,h2⟩:=evsP_same hb n (by omega);have ht:=work_tog hb n (by omega);simp only[workB,Bool.and_eq_true,decide_eq_true_eq] at hb;obtain⟨⟨⟨⟨_,ha⟩,_⟩,_⟩,_⟩:=hb;have hok:=all_get [] ha n (by omega);simp only[okL,Bool.and_eq_true,decide_eq_true_eq] at hok;obtain⟨q1,_,q3,_⟩:=clkP_same (i:=n) ht (fun j hj=>all_get zD hok.1 j hj) h2 (dss.getD n []).length (Nat.le_refl _);rw[evsP,evsW,h1,q1];exact⟨rfl,q3⟩
theorem bitB_nat (a i:Nat)(ha:a<4096):bitB (a:Int) (i:Int)=a.testBit i:=by
 unfold bitB;have hd:a / 2 ^ i≤a:=Nat.div_le_self _ _;have e:((a:Int) / 2 ^ (i:Int).toNat)=((a / 2 ^ i:Nat):Int):=by simp
 rw[e,show (1:Int)=((1:Nat):Int) from rfl,i64_and_nat _ _ (by omega) (by omega),Nat.and_one_is_mod,Nat.testBit_eq_decide_div_mod_eq];generalize a / 2 ^ i % 2=r;rw[Bool.eq_iff_iff,beq_iff_eq,decide_eq_true_eq];omega
theorem inSetB_nat (a i:Nat)(ha:a<4096)(hi:i<12):inSetB (a:Int) (i:Int)=a.testBit i:=by
 have h1:inB (i:Int) 0 11=true:=by unfold inB;simp;omega
 have h2:inB (a:Int) 0 4095=true:=by unfold inB;simp;omega
 simp[inSetB,h1,h2,bitB_nat a i ha]
theorem gAdd_nat (a i:Nat)(ha:a<4096)(hi:i<12):gAdd (a:Int) (i:Int)=((a ||| 2 ^ i:Nat):Int):=by
 have h1:inB (i:Int) 0 11=true:=by unfold inB;simp;omega
 rw[gAdd_ok _ _ (by omega) h1,wrap64_pow _ (by omega) (by omega)];have hq:(2:Nat) ^ i<2 ^ 12:=Nat.pow_lt_pow_right (by omega) hi;have e:((2:Int) ^ (i:Int).toNat)=((2 ^ i:Nat):Int):=by simp
 rw[e,i64_or_nat a _ (by omega) (by omega)]
theorem or_lt (a i:Nat)(ha:a<4096)(hi:i<12):a ||| 2 ^ i<4096:=by
 have hq:(2:Nat) ^ i<2 ^ 12:=Nat.pow_lt_pow_right (by omega) hi;exact Nat.or_lt_two_pow (n:=12) ha hq
theorem mem_iff (s:Int)(n:Nat)(x:Int):x∈mem s n↔∃k:Nat,k<n∧x=k∧inSetB s k=true:=by
 induction n with
 |zero=>simp[mem]
 |succ n ih=>
  unfold mem;rw[List.mem_append,ih];constructor
  ·
   rintro (⟨k,hk,rfl,h⟩|h)
   · exact⟨k,by omega,rfl,h⟩
   ·
    split at h
    ·
     rename_i hs;simp at h;exact⟨n,by omega,h,hs⟩
    · simp at h
  ·
   rintro⟨k,hk,rfl,h⟩;by_cases hkn:k=n
   · subst hkn;right;simp[h]
   · exact .inl ⟨k,by omega,rfl,h⟩
def webB (zs:List Int):Bool:=zs.all (okB zs.length)
def twoB (a b:List Int):Bool:=decide (a.length=b.length)&&webB a&&webB b
def mixL (f:Int→Int→Int)(a b:List Int):List Int:=if twoB a b=true then List.zipWith f a b else []
def orI (a b:Int):Int:=bits .or .i64 a b
def notI (a b:Int):Int:=bits .andNot .i64 a b
def thenS (x:Int)(b:List Int):Nat→Int
 | 0=>0
 |k+1=>if inSetB x k=true then orI (thenS x b k) (b.getD k 0) else thenS x b k
def wayIn (k:Nat)(st:List Int):Nat→List Int
 | 0=>st
 |i+1=>if inSetB ((wayIn k st i).getD i 0) k=true then (wayIn k st i).set i (orI ((wayIn k st i).getD i 0) ((wayIn k st i).getD k 0)) else wayIn k st i
def wayAll (zs:List Int):Nat→List Int
 | 0=>zs
 |k+1=>wayIn k (wayAll zs k) zs.length
def waysL (zs:List Int):List Int:=if webB zs=true then wayAll zs zs.length else []
theorem getD_mem {zs:List Int}{i:Nat}(h:i<zs.length):zs.getD i 0∈zs:=by
 rw[List.getD_eq_getElem?_getD,List.getElem?_eq_getElem h];exact List.getElem_mem h
theorem webB_all {zs:List Int}(h:∀i,i<zs.length→okB zs.length (zs.getD i 0)=true):webB zs=true:=by
 unfold webB;rw[List.all_eq_true];intro x hx;obtain⟨i,hi,rfl⟩:=List.getElem_of_mem hx;have:=h i hi
 rwa [List.getD_eq_getElem?_getD,List.getElem?_eq_getElem hi] at this
theorem webB_get {zs:List Int}(h:webB zs=true){i:Nat}(hi:i<zs.length):okB zs.length (zs.getD i 0)=true:=by
 unfold webB at h;rw[List.all_eq_true] at h;exact h _ (getD_mem hi)
theorem okB_iff {n s:Int}:okB n s=true↔(0≤n∧n≤12)∧0≤s∧s<2 ^ n.toNat:=by unfold okB;rw[decide_eq_true_eq]
theorem webB_len {zs:List Int}(h:webB zs=true):zs.length≤12:=by
 by_cases h0:zs.length=0
 · omega
 · have:=okB_iff.1 (webB_get h (i:=0) (by omega));omega
theorem okB_range {n s:Int}(h:okB n s=true):0≤s∧s≤4095:=by
 have h1:=okB_iff.1 h;have:=pow_le12 n.toNat (by omega);omega
theorem twoB_iff {a b:List Int}:twoB a b=true↔a.length=b.length∧webB a=true∧webB b=true:=by
 unfold twoB;rw[Bool.and_eq_true,Bool.and_eq_true,decide_eq_true_eq,and_assoc]
theorem okB_nat {n:Nat}{s:Int}(h:okB n s=true):n≤12∧∃a:Nat,s=a∧a<2 ^ n∧a<4096:=by
 have h1:=okB_iff.1 h;have h2:=okB_range h;obtain⟨a,rfl⟩:=Int.eq_ofNat_of_zero_le h2.1;refine⟨by omega,a,rfl,?_,by omega⟩;have:=h1.2.2;simp at this
 exact_mod_cast this
theorem okB_of_nat {n a:Nat}(hn:n≤12)(ha:a<2 ^ n):okB n a=true:=by
 rw[okB_iff];refine⟨by omega,by omega,?_⟩;simp
 exact_mod_cast ha
theorem inSetB_iff {n:Nat}{s:Int}(h:okB n s=true){j:Nat}(hj:inSetB s j=true):j<n:=by
 obtain⟨hn,a,rfl,ha,h12⟩:=okB_nat h
 have hj12:j<12:=by
  have:inB (j:Int) 0 11=true:=by unfold inSetB at hj;simp at hj;exact hj.1.1
  unfold inB at this;simp at this;omega
 rw[inSetB_nat a j h12 hj12] at hj;apply Classical.byContradiction;intro hnj;have hp:(2:Nat) ^ n≤2 ^ j:=Nat.pow_le_pow_right (by omega) (by omega);rw[Nat.testBit_lt_two_pow (by omega)] at hj;cases hj
theorem inSetB_far (s:Int){j:Nat}(hj:12≤j):inSetB s j=false:=by
 have:inB (j:Int) 0 11=false:=by unfold inB;simp;omega
 simp[inSetB,this]
theorem ok_ext {n:Nat}{s t:Int}(hs:okB n s=true)(ht:okB n t=true)(h:∀j:Nat,j<n→inSetB s j=inSetB t j):s=t:=by
 obtain⟨hn,a,rfl,ha,ha'⟩:=okB_nat hs;obtain⟨_,b,rfl,hb,hb'⟩:=okB_nat ht
 congr 1
 apply Nat.eq_of_testBit_eq;intro j;by_cases hj:j<n
 ·
  have:=h j hj
  rwa [inSetB_nat a j ha' (by omega),inSetB_nat b j hb' (by omega)] at this
 ·
  have hp:(2:Nat) ^ n≤2 ^ j:=Nat.pow_le_pow_right (by omega) (by omega);rw[Nat.testBit_lt_two_pow (by omega),Nat.testBit_lt_two_pow (by omega)]
theorem ok_zero {n:Nat}(hn:n≤12):okB n 0=true:=okB_of_nat (a:=0) hn (Nat.two_pow_pos n)
theorem zero_bit (j:Nat):inSetB 0 j=false:=by
 by_cases hj:j<12
 · rw[show (0:Int)=((0:Nat):Int) from rfl,inSetB_nat 0 j (by omega) hj,Nat.zero_testBit]
 · exact inSetB_far _ (by omega)
theorem i64_andNot_nat (a b:Nat)(ha:a<9223372036854775808)(hb:b<9223372036854775808):bits .andNot .i64 (a:Int) (b:Int)=((a &&& (18446744073709551615-b):Nat):Int):=by
 have hx:a &&& (18446744073709551615-b)≤a:=Nat.and_le_left;show IntKind.i64.wrap ((BitVec.ofInt 64 (a:Int) &&& ~~~ BitVec.ofInt 64 (b:Int)).toNat:Int)=_;rw[BitVec.toNat_and,BitVec.toNat_not,ofInt_i64 a ha,ofInt_i64 b hb,IntKind.wrap_i64,show (2:Nat) ^ 64-1-b=18446744073709551615-b from rfl];omega
theorem ok_or {n:Nat}{s t:Int}(hs:okB n s=true)(ht:okB n t=true):okB n (orI s t)=true∧∀j:Nat,inSetB (orI s t) j=(inSetB s j||inSetB t j):=by
 obtain⟨hn,a,rfl,ha,ha'⟩:=okB_nat hs;obtain⟨_,b,rfl,hb,hb'⟩:=okB_nat ht;have e:orI (a:Int) (b:Int)=((a ||| b:Nat):Int):=i64_or_nat a b (by omega) (by omega);have hl:a ||| b<2 ^ n:=Nat.or_lt_two_pow ha hb;have hl':a ||| b<4096:=Nat.or_lt_two_pow (n:=12) ha' hb';rw[e];refine⟨okB_of_nat hn hl,fun j=>?_⟩;by_cases hj:j<12
 · rw[inSetB_nat _ j hl' hj,inSetB_nat _ j ha' hj,inSetB_nat _ j hb' hj,Nat.testBit_or]
 · rw[inSetB_far _ (by omega),inSetB_far _ (by omega),inSetB_far _ (by omega)];rfl
theorem ok_not {n:Nat}{s t:Int}(hs:okB n s=true)(ht:okB n t=true):okB n (notI s t)=true∧∀j:Nat,inSetB (notI s t) j=(inSetB s j&&!inSetB t j):=by
 obtain⟨hn,a,rfl,ha,ha'⟩:=okB_nat hs;obtain⟨_,b,rfl,hb,hb'⟩:=okB_nat ht;have e:notI (a:Int) (b:Int)=((a &&& (18446744073709551615-b):Nat):Int):=i64_andNot_nat a b (by omega) (by omega);have hl:a &&& (18446744073709551615-b)≤a:=Nat.and_le_left;rw[e];refine⟨okB_of_nat hn (by omega),fun j=>?_⟩;by_cases hj:j<12
 ·
  have h2:(18446744073709551615-b).testBit j=!b.testBit j:=by
   have e2:18446744073709551615-b=2 ^ 64-(b+1):=by omega
   rw[e2,Nat.testBit_two_pow_sub_succ (by omega)];have:j<64:=by omega
   simp[this]
  rw[inSetB_nat _ j (by omega) hj,inSetB_nat _ j ha' hj,inSetB_nat _ j hb' hj,Nat.testBit_and,h2]
 · rw[inSetB_far _ (by omega),inSetB_far _ (by omega),inSetB_far _ (by omega)];rfl
theorem ok_add {n:Nat}{s:Int}(hs:okB n s=true){i:Nat}(hi:i<n):okB n (gAdd s i)=true∧∀j:Nat,inSetB (gAdd s i) j=(inSetB s j||decide (i=j)):=by
 obtain⟨hn,a,rfl,ha,ha'⟩:=okB_nat hs;rw[gAdd_nat a i ha' (by omega)];have hp:(2:Nat) ^ i<2 ^ n:=Nat.pow_lt_pow_right (by omega) hi;have hl:a ||| 2 ^ i<2 ^ n:=Nat.or_lt_two_pow ha hp;refine⟨okB_of_nat hn hl,fun j=>?_⟩;by_cases hj:j<12
 · rw[inSetB_nat _ j (or_lt a i ha' (by omega)) hj,inSetB_nat _ j ha' hj,Nat.testBit_or,Nat.testBit_two_pow]
 ·
  have:¬i=j:=by omega
  rw[inSetB_far _ (by omega),inSetB_far _ (by omega)];simp[this]
def Web (n:Nat)(zs:List Int):Prop:=n≤12∧zs.length=n∧∀i,i<n→okB n (zs.getD i 0)=true
theorem web_iff {zs:List Int}:webB zs=true↔Web zs.length zs:=by
 constructor
 · intro h;exact⟨webB_len h,rfl,fun i hi=>webB_get h hi⟩
 · intro h;exact webB_all h.2.2
theorem Web.b {n:Nat}{zs:List Int}(h:Web n zs):webB zs=true:=by
 obtain⟨h1,rfl,h2⟩:=h;exact web_iff.2 ⟨h1,rfl,h2⟩
theorem list_ext {n:Nat}{a b:List Int}(ha:a.length=n)(hb:b.length=n)(h:∀i,i<n→a.getD i 0=b.getD i 0):a=b:=by
 apply List.ext_getElem (by omega);intro i h1 h2;have:=h i (by omega);rw[List.getD_eq_getElem?_getD,List.getD_eq_getElem?_getD,List.getElem?_eq_getElem h1,List.getElem?_eq_getElem h2] at this;exact this
def line (zs:List Int)(i j:Nat):Bool:=inSetB (zs.getD i 0) j
theorem Web.ext {n:Nat}{a b:List Int}(ha:Web n a)(hb:Web n b)(h:∀i j,i<n→j<n→line a i j=line b i j):a=b:=
 list_ext ha.2.1 hb.2.1 fun i hi=>ok_ext (ha.2.2 i hi) (hb.2.2 i hi) fun j hj=>h i j hi hj
theorem Web.lt {n:Nat}{a:List Int}(ha:Web n a){i j:Nat}(hi:i<n)(h:line a i j=true):j<n:=inSetB_iff (ha.2.2 i hi) h
theorem getD_set (zs:List Int)(i j:Nat)(x:Int)(hi:i<zs.length):(zs.set i x).getD j 0=if i=j then x else zs.getD j 0:=by
 rw[List.getD_eq_getElem?_getD,List.getD_eq_getElem?_getD,List.getElem?_set];by_cases h:i=j
 · subst h;simp[hi]
 · simp[h]
theorem Web.set {n:Nat}{a:List Int}(ha:Web n a){i:Nat}{x:Int}(hx:okB n x=true):Web n (a.set i x):=by
 obtain⟨h1,h2,h3⟩:=ha;refine⟨h1,by simp[h2],fun j hj=>?_⟩;by_cases hi:i<a.length
 ·
  rw[getD_set a i j x hi];split
  · exact hx
  · exact h3 j hj
 · rw[List.set_eq_of_length_le (by omega)];exact h3 j hj
theorem Web.zero {n:Nat}(hn:n≤12):Web n (List.replicate n 0):=by
 refine⟨hn,by simp,fun i hi=>?_⟩;rw[List.getD_eq_getElem?_getD,List.getElem?_replicate,if_pos hi];exact ok_zero hn
theorem line_zero (n i j:Nat):line (List.replicate n 0) i j=false:=by
 unfold line;rw[List.getD_eq_getElem?_getD,List.getElem?_replicate];split<;>exact zero_bit j
theorem web_wayIn {n k:Nat}{st:List Int}(hk:k<n)(hst:Web n st)(m:Nat)(hm:m≤n):
  Web n (wayIn k st m)∧∀i j:Nat,i<n→line (wayIn k st m) i j=(line st i j||(decide (i<m)&&line st i k&&line st k j)):=by
 induction m with
 |zero=>exact⟨hst,fun i j _=>by simp[wayIn]⟩
 |succ m ih=>
  have ih:=ih (by omega);have hmn:m<n:=by omega
  have hkk:∀j,line (wayIn k st m) k j=line st k j:=by
   intro j;rw[ih.2 k j hk];cases line st k j<;>simp
  have hmk:line (wayIn k st m) m k=line st m k:=by rw[ih.2 m k hmn];simp
  have hmj:∀j,line (wayIn k st m) m j=line st m j:=by intro j;rw[ih.2 m j hmn];simp
  unfold wayIn
  cases hb:inSetB ((wayIn k st m).getD m 0) k with
  |false=>
   have hb':line st m k=false:=by rw[←hmk];exact hb
   refine⟨by simpa using ih.1,fun i j hi=>?_⟩;simp only[Bool.false_eq_true,if_false];rw[ih.2 i j hi];by_cases e:i=m
   · subst e;simp[hb']
   ·
    have:(i<m+1)↔i<m:=by omega
    simp[this]
  |true=>
   have hb':line st m k=true:=by rw[←hmk];exact hb
   have ho:=ok_or (ih.1.2.2 m hmn) (ih.1.2.2 k hk);refine⟨by simpa using ih.1.set ho.1,fun i j hi=>?_⟩;simp only[if_true];have e1:=ih.2 i j hi;have e2:=hkk j;have e3:=hmj j;unfold line at e1 e2 e3 ⊢;rw[getD_set _ _ _ _ (by rw[ih.1.2.1];exact hmn)];by_cases e:m=i
   ·
    subst e;simp only[if_true];rw[ho.2 j,e2,e3];unfold line at hb';rw[hb'];simp
   ·
    have:(i<m+1)↔i<m:=by omega
    simp only[e,if_false];rw[e1];simp[this]
theorem web_wayAll {n:Nat}{zs:List Int}(hz:Web n zs)(m:Nat)(hm:m≤n):Web n (wayAll zs m):=by
 induction m with
 |zero=>exact hz
 |succ m ih=>
  show Web n (wayIn m (wayAll zs m) zs.length);rw[hz.2.1];exact (web_wayIn (by omega) (ih (by omega)) n (Nat.le_refl _)).1
theorem line_wayAll {n:Nat}{zs:List Int}(hz:Web n zs)(m:Nat)(hm:m<n){i:Nat}(hi:i<n)(j:Nat):
  line (wayAll zs (m+1)) i j=(line (wayAll zs m) i j||(line (wayAll zs m) i m&&line (wayAll zs m) m j)):=by
 show line (wayIn m (wayAll zs m) zs.length) i j=_;rw[hz.2.1,(web_wayIn hm (web_wayAll hz m (by omega)) n (Nat.le_refl _)).2 i j hi];simp[hi]
def addIn (p:Nat→Nat→Bool)(i:Nat)(st:List Int):Nat→List Int
 | 0=>st
 |k+1=>if p i k=true then (addIn p i st k).set i (gAdd ((addIn p i st k).getD i 0) k) else addIn p i st k
def addAll (p:Nat→Nat→Bool)(n:Nat):Nat→List Int
 | 0=>List.replicate n 0
 |i+1=>addIn p i (addAll p n i) n
def bitI (k:Nat):Int:=wrap64 (2 ^ (k:Int).toNat)
def offIn (p:Nat→Nat→Bool)(i:Nat)(st:List Int):Nat→List Int
 | 0=>st
 |k+1=>if p i k=true then (offIn p i st k).set i (notI ((offIn p i st k).getD i 0) (bitI k)) else offIn p i st k
def offAll (p:Nat→Nat→Bool)(n:Nat)(st:List Int):Nat→List Int
 | 0=>st
 |i+1=>offIn p i (offAll p n st i) n
theorem addIn_hit {p:Nat→Nat→Bool}{i k:Nat}(st:List Int)(h:p i k=true):addIn p i st (k+1)=(addIn p i st k).set i (gAdd ((addIn p i st k).getD i 0) k):=if_pos h
theorem addIn_miss {p:Nat→Nat→Bool}{i k:Nat}(st:List Int)(h:p i k=false):addIn p i st (k+1)=addIn p i st k:=if_neg (by simp[h])
theorem offIn_hit {p:Nat→Nat→Bool}{i k:Nat}(st:List Int)(h:p i k=true):offIn p i st (k+1)=(offIn p i st k).set i (notI ((offIn p i st k).getD i 0) (bitI k)):=if_pos h
theorem offIn_miss {p:Nat→Nat→Bool}{i k:Nat}(st:List Int)(h:p i k=false):offIn p i st (k+1)=offIn p i st k:=if_neg (by simp[h])
theorem bitI_add:∀k:Nat,k<12→bitI k=gAdd 0 k:=by decide +kernel
theorem ok_bit {n k:Nat}(hn:n≤12)(hk:k<n):okB n (bitI k)=true∧∀j:Nat,inSetB (bitI k) j=decide (k=j):=by
 rw[bitI_add k (by omega)];have h:=ok_add (ok_zero hn) hk;exact⟨h.1,fun j=>by rw[h.2 j,zero_bit];simp⟩
theorem web_addIn {p:Nat→Nat→Bool}{n i:Nat}{st:List Int}(hi:i<n)(hst:Web n st):∀m:Nat,m≤n →
  Web n (addIn p i st m)∧∀a j:Nat,a<n→line (addIn p i st m) a j=(line st a j||(decide (i=a)&&decide (j<m)&&p i j))
 | 0,_=>⟨hst,fun a j _=>by simp[addIn]⟩
 |m+1,hm=>by
  have ih:=web_addIn hi hst m (by omega) (p:=p)
  cases hp:p i m with
  |false=>
   rw[addIn_miss st hp];refine⟨ih.1,fun a j ha=>?_⟩;rw[ih.2 a j ha];by_cases e:j=m
   · subst e;simp[hp]
   ·
    have d:decide (j<m+1)=decide (j<m):=decide_eq_decide.2 (by omega);rw[d]
  |true=>
   rw[addIn_hit st hp];have ha:=ok_add (ih.1.2.2 i hi) (show m<n by omega);refine⟨ih.1.set ha.1,fun a j haa=>?_⟩;have e1:=ih.2 a j haa;unfold line at e1 ⊢;rw[getD_set _ _ _ _ (by rw[ih.1.2.1];exact hi)];by_cases e:i=a
   ·
    subst e;simp only[if_true];rw[ha.2 j,e1];by_cases e2:m=j
    · subst e2;simp[hp]
    ·
     have d:decide (j<m+1)=decide (j<m):=decide_eq_decide.2 (by omega);rw[d];simp[e2]
   · simp only[e,if_false];rw[e1];simp[e]
theorem web_addAll {p:Nat→Nat→Bool}{n:Nat}(hn:n≤12):∀m:Nat,m≤n →
  Web n (addAll p n m)∧∀a j:Nat,a<n→line (addAll p n m) a j=(decide (a<m)&&decide (j<n)&&p a j)
 | 0,_=>⟨Web.zero hn,fun a j _=>by unfold addAll;rw[line_zero];simp⟩
 |m+1,hm=>by
  have ih:=web_addAll hn m (by omega) (p:=p);have h1:=web_addIn (p:=p) (show m<n by omega) ih.1 n (Nat.le_refl _);refine⟨h1.1,fun a j ha=>?_⟩;show line (addIn p m (addAll p n m) n) a j=_;rw[h1.2 a j ha,ih.2 a j ha];by_cases e:m=a
  · subst e;simp
  ·
   have d:decide (a<m+1)=decide (a<m):=decide_eq_decide.2 (by omega);rw[d];simp[e]
theorem web_offIn {p:Nat→Nat→Bool}{n i:Nat}{st:List Int}(hi:i<n)(hst:Web n st):∀m:Nat,m≤n →
  Web n (offIn p i st m)∧∀a j:Nat,a<n→line (offIn p i st m) a j=(line st a j&&!(decide (i=a)&&decide (j<m)&&p i j))
 | 0,_=>⟨hst,fun a j _=>by simp[offIn]⟩
 |m+1,hm=>by
  have ih:=web_offIn hi hst m (by omega) (p:=p)
  cases hp:p i m with
  |false=>
   rw[offIn_miss st hp];refine⟨ih.1,fun a j ha=>?_⟩;rw[ih.2 a j ha];by_cases e:j=m
   · subst e;simp[hp]
   ·
    have d:decide (j<m+1)=decide (j<m):=decide_eq_decide.2 (by omega);rw[d]
  |true=>
   rw[offIn_hit st hp];have hb:=ok_bit hst.1 (show m<n by omega);have ha:=ok_not (ih.1.2.2 i hi) hb.1;refine⟨ih.1.set ha.1,fun a j haa=>?_⟩;have e1:=ih.2 a j haa;unfold line at e1 ⊢;rw[getD_set _ _ _ _ (by rw[ih.1.2.1];exact hi)];by_cases e:i=a
   ·
    subst e;simp only[if_true];rw[ha.2 j,e1,hb.2 j];by_cases e2:m=j
    · subst e2;simp[hp]
    ·
     have d:decide (j<m+1)=decide (j<m):=decide_eq_decide.2 (by omega);rw[d];simp[e2]
   · simp only[e,if_false];rw[e1];simp[e]
theorem web_offAll {p:Nat→Nat→Bool}{n:Nat}{st:List Int}(hst:Web n st):∀m:Nat,m≤n →
  Web n (offAll p n st m)∧∀a j:Nat,a<n→line (offAll p n st m) a j=(line st a j&&!(decide (a<m)&&decide (j<n)&&p a j))
 | 0,_=>⟨hst,fun a j _=>by simp[offAll]⟩
 |m+1,hm=>by
  have ih:=web_offAll hst m (by omega) (p:=p);have h1:=web_offIn (p:=p) (show m<n by omega) ih.1 n (Nat.le_refl _);refine⟨h1.1,fun a j ha=>?_⟩;show line (offIn p m (offAll p n st m) n) a j=_;rw[h1.2 a j ha,ih.2 a j ha];by_cases e:m=a
  · subst e;simp
  ·
   have d:decide (a<m+1)=decide (a<m):=decide_eq_decide.2 (by omega);rw[d];simp[e]
def behP (es:List Ev)(i k:Nat):Bool:=decide (i<k)&&((decide (i<3)&&decide (3≤k))||(decide (3≤i)&&((es.getD i zE).1==(es.getD k zE).1)))
def behL (es:List Ev):List Int:=addAll (behP es) es.length es.length
def plcP (es:List Ev)(i k:Nat):Bool:=(es.getD i zE).2.2.2.1 != (es.getD k zE).2.2.2.1
def plcL (es:List Ev):List Int:=offAll (plcP es) es.length (behL es) es.length
theorem behP_up {es:List Ev}{i j:Nat}(h:j≤i):behP es i j=false:=by unfold behP;simp;omega
theorem beh_line {es:List Ev}(h:es.length≤12):Web es.length (behL es)∧∀a j:Nat,a<es.length→line (behL es) a j=(decide (j<es.length)&&behP es a j):=by
 have h1:=web_addAll (p:=behP es) h es.length (Nat.le_refl _);exact⟨h1.1,fun a j ha=>by unfold behL;rw[h1.2 a j ha];simp[ha]⟩
theorem plc_line {es:List Ev}(h:es.length≤12):Web es.length (plcL es)∧∀a j:Nat,a<es.length→line (plcL es) a j=(decide (j<es.length)&&behP es a j&&!plcP es a j):=by
 have h1:=beh_line h;have h2:=web_offAll (p:=plcP es) h1.1 es.length (Nat.le_refl _);refine⟨h2.1,fun a j ha=>?_⟩;unfold plcL;rw[h2.2 a j ha,h1.2 a j ha];by_cases hj:j<es.length
 · simp[ha,hj]
 · simp[hj]
def wholeD (d:Dd):Bool:=(d.1==3)||decide (0<d.2.2.2)
def waitsD (ds:List Dd)(lo hi:Nat):Bool:=(List.range hi).any (fun j=>decide (lo<j)&&((ds.getD j zD).1==4))
theorem waitsD_no {ds:List Dd}{lo hi:Nat}(h:∀j,lo<j→j<hi→(ds.getD j zD).1≠4):waitsD ds lo hi=false:=by
 unfold waitsD;rw[List.any_eq_false];intro j hj;rw[List.mem_range] at hj;by_cases hl:lo<j
 ·
  have:=h j hl hj;simp[hl];simpa using this
 · simp[hl]
def dOf (dss:List (List Dd))(e:Ev):Dd:=(dss.getD e.1.toNat []).getD e.2.1.toNat zD
def kepQ (dss:List (List Dd))(a b:Ev):Bool:=!(rdE a)&&rdE b&&(csE a != csE b)&&(!waitsD (dss.getD a.1.toNat []) a.2.1.toNat b.2.1.toNat&&!wholeD (dOf dss a)&&!wholeD (dOf dss b))
def kepP (dss:List (List Dd))(es:List Ev)(i k:Nat):Bool:=decide (3≤i)&&behP es i k&&kepQ dss (es.getD i zE) (es.getD k zE)
def kepL (dss:List (List Dd))(es:List Ev):List Int:=offAll (kepP dss es) es.length (behL es) es.length
theorem kep_line {dss:List (List Dd)}{es:List Ev}(h:es.length≤12):Web es.length (kepL dss es)∧∀a j:Nat,a<es.length→line (kepL dss es) a j=(decide (j<es.length)&&behP es a j&&!kepP dss es a j):=by
 have h1:=beh_line h;have h2:=web_offAll (p:=kepP dss es) h1.1 es.length (Nat.le_refl _);refine⟨h2.1,fun a j ha=>?_⟩;unfold kepL;rw[h2.2 a j ha,h1.2 a j ha];by_cases hj:j<es.length
 · simp[ha,hj]
 · simp[hj]
abbrev dAt (dss:List (List Dd))(c k:Nat):Dd:=(dss.getD c []).getD k zD
def offN (dss:List (List Dd))(c k:Nat):Nat:=(clkE c (dss.getD c []) (evsW dss c) k).1.length
def numD (d:Dd):Nat:=if d.1=4 then 0 else if d.1=3 then 2 else 1
theorem oneE_num (i k:Nat)(d:Dd)(c:Int):(oneE i k d c).length=numD d:=by
 unfold oneE numD;split
 · rfl
 ·
  split
  · rfl
  · split<;>rfl
def clsD (dss:List (List Dd))(c k:Nat):Int:=clsE (dAt dss c k).2.2.2 (offN dss c k) (clkE c (dss.getD c []) (evsW dss c) k).2
theorem clk_step (dss:List (List Dd))(c k:Nat):(clkE c (dss.getD c []) (evsW dss c) (k+1)).1=(clkE c (dss.getD c []) (evsW dss c) k).1++oneE c k (dAt dss c k) (clsD dss c k):=by
 rw[clkE,stepE];split
 ·
  rename_i h;have e:oneE c k (dAt dss c k) (clsD dss c k)=[]:=by unfold oneE;rw[if_pos h]
  rw[e,List.append_nil]
 · rfl
theorem off_succ (dss:List (List Dd))(c k:Nat):offN dss c (k+1)=offN dss c k+numD (dAt dss c k):=by
 unfold offN;rw[clk_step,List.length_append,oneE_num]
theorem off_zero (dss:List (List Dd))(c:Nat):offN dss c 0=(evsW dss c).length:=rfl
theorem off_end (dss:List (List Dd))(c:Nat):(evsW dss (c+1)).length=offN dss c (dss.getD c []).length:=rfl
theorem clk_pre (dss:List (List Dd))(c k:Nat):∀n:Nat,k≤n→∃t,(clkE c (dss.getD c []) (evsW dss c) n).1=(clkE c (dss.getD c []) (evsW dss c) k).1++t
 | 0,h=>by
  obtain rfl:k=0:=by omega
  exact⟨[],by simp⟩
 |n+1,h=>by
  by_cases e:k=n+1
  · subst e;exact⟨[],by simp⟩
  ·
   obtain⟨t,ht⟩:=clk_pre dss c k n (by omega);exact⟨t++oneE c n (dAt dss c n) (clsD dss c n),by rw[clk_step,ht,List.append_assoc]⟩
theorem evs_pre (dss:List (List Dd))(c:Nat):∀n:Nat,c≤n→∃t,evsW dss n=evsW dss c++t
 | 0,h=>by
  obtain rfl:c=0:=by omega
  exact⟨[],by simp⟩
 |n+1,h=>by
  by_cases e:c=n+1
  · subst e;exact⟨[],by simp⟩
  ·
   obtain⟨t,ht⟩:=evs_pre dss c n (by omega);obtain⟨t2,h2⟩:=clk_pre dss n 0 (dss.getD n []).length (Nat.zero_le _);refine⟨t++t2,?_⟩;show (clkE n (dss.getD n []) (evsW dss n) (dss.getD n []).length).1=_;rw[h2];show evsW dss n++t2=_;rw[ht,List.append_assoc]
theorem es_at {dss:List (List Dd)}{c k n:Nat}(hc:c<n)(hk:k<(dss.getD c []).length){i:Nat}{e:Ev}(h:(oneE c k (dAt dss c k) (clsD dss c k))[i]? = some e):(evsW dss n)[offN dss c k+i]? = some e:=by
 obtain⟨t1,h1⟩:=evs_pre dss (c+1) n hc;obtain⟨t2,h2⟩:=clk_pre dss c (k+1) (dss.getD c []).length hk;rw[h1];refine at_left t1 ?_;show (clkE c (dss.getD c []) (evsW dss c) (dss.getD c []).length).1[offN dss c k+i]? = some e;rw[h2];refine at_left t2 ?_;rw[clk_step,List.getElem?_append_right (by unfold offN;omega)];show (oneE c k (dAt dss c k) (clsD dss c k))[offN dss c k+i-offN dss c k]? = some e;rw[show offN dss c k+i-offN dss c k=i by omega];exact h
theorem clk_dec (dss:List (List Dd))(c:Nat){j:Nat}(h0:offN dss c 0≤j):∀k:Nat,j<offN dss c k→∃k' i,k'<k∧i<numD (dAt dss c k')∧j=offN dss c k'+i
 | 0,h=>by omega
 |k+1,h=>by
  by_cases hj:j<offN dss c k
  ·
   obtain⟨k',i,h1,h2,h3⟩:=clk_dec dss c h0 k hj;exact⟨k',i,by omega,h2,h3⟩
  ·
   rw[off_succ] at h;exact⟨k,j-offN dss c k,by omega,by omega,by omega⟩
theorem es_dec (dss:List (List Dd)){j:Nat}(h3:3≤j):∀n:Nat,j<(evsW dss n).length→∃c k i,c<n∧k<(dss.getD c []).length∧i<numD (dAt dss c k)∧j=offN dss c k+i
 | 0,h=>by simp[evsW,evBeg] at h;omega
 |n+1,h=>by
  by_cases hj:j<(evsW dss n).length
  ·
   obtain⟨c,k,i,h1,h2⟩:=es_dec dss h3 n hj;exact⟨c,k,i,by omega,h2⟩
  ·
   rw[off_end] at h;obtain⟨k,i,h1,h2⟩:=clk_dec dss n (by rw[off_zero];omega) _ h;exact⟨n,k,i,by omega,h1,h2⟩
theorem off_le (dss:List (List Dd))(c:Nat){k k':Nat}(h:k≤k'):offN dss c k≤offN dss c k':=by
 obtain⟨t,ht⟩:=clk_pre dss c k k' h;unfold offN;rw[ht,List.length_append];omega
theorem off_lt {dss:List (List Dd)}{c c' k k':Nat}(hk:k<(dss.getD c []).length)(h:c<c'∨(c=c'∧k<k')):offN dss c k+numD (dAt dss c k)≤offN dss c' k':=by
 rcases h with h|⟨rfl,h⟩
 ·
  have h1:=off_le dss c (k:=k+1) (k':=(dss.getD c []).length) hk;rw[off_succ] at h1;obtain⟨t,ht⟩:=evs_pre dss (c+1) c' h;have h2:=off_le dss c' (Nat.zero_le k');rw[off_zero,ht,List.length_append,off_end] at h2;omega
 ·
  have h1:=off_le dss c (k:=k+1) (k':=k') h;rw[off_succ] at h1;exact h1
theorem off_three (dss:List (List Dd))(c k:Nat):3≤offN dss c k:=by
 obtain⟨t,ht⟩:=evs_pre dss 0 c (Nat.zero_le _);have h:=off_le dss c (Nat.zero_le k);rw[off_zero,ht,List.length_append] at h;simp[evsW,evBeg] at h;omega
abbrev gAt (dss:List (List Dd))(c k:Nat):Int:=(dAt dss c k).2.2.2
def OkC (dss:List (List Dd))(c:Nat):Prop:=∀k,k<(dss.getD c []).length→okD (dAt dss c k)=true
theorem okC_of {dss:List (List Dd)}(h:workB dss=true){c:Nat}(hc:c<dss.length):OkC dss c:=by
 simp only[workB,Bool.and_eq_true,decide_eq_true_eq] at h;obtain⟨⟨⟨⟨_,h2⟩,_⟩,_⟩,_⟩:=h;have h3:=all_get [] h2 c hc;unfold okL at h3;rw[Bool.and_eq_true] at h3;exact fun k hk=>all_get zD h3.1 k hk
theorem g_in {dss:List (List Dd)}{c k:Nat}(h:OkC dss c)(hk:k<(dss.getD c []).length):0≤gAt dss c k∧gAt dss c k≤9∧(2<(dAt dss c k).1→gAt dss c k=0):=
 ⟨(okD_restE (h k hk)).2.2.1,(okD_restE (h k hk)).2.2.2.1,(okD_restE (h k hk)).2.2.2.2⟩
theorem fst_len (dss:List (List Dd))(c:Nat):∀k:Nat,(clkE c (dss.getD c []) (evsW dss c) k).2.length=10
 | 0=>by simp[clkE]
 |k+1=>by
  have ih:=fst_len dss c k;rw[clkE,stepE];split
  · exact ih
  ·
   show (fstE _ _ _).length=10;unfold fstE;split
   · rw[List.length_set];exact ih
   · exact ih
theorem fst_at {dss:List (List Dd)}{c:Nat}(hok:OkC dss c){g:Nat}(h0:0<g)(h9:g≤9):∀k:Nat,k≤(dss.getD c []).length →
  ((clkE c (dss.getD c []) (evsW dss c) k).2.getD g 0=0∧∀j,j<k→gAt dss c j≠g) ∨
  ∃j,j<k∧gAt dss c j=g∧(∀i,i<j→gAt dss c i≠g)∧(clkE c (dss.getD c []) (evsW dss c) k).2.getD g 0=(offN dss c j:Int)
 | 0,_ => .inl ⟨by
   show (List.replicate 10 (0:Int)).getD g 0=0;rw[List.getD_eq_getElem?_getD,List.getElem?_replicate]
   split<;>rfl,fun j hj=>by omega⟩
 |k+1,hk=>by
  have ih:=fst_at hok h0 h9 k (by omega);have hl:=fst_len dss c k;have hd:=g_in hok (k:=k) (by omega);have hkk:=okD_kindE (hok k (by omega));by_cases h4:(dAt dss c k).1=4
  ·
   have e:(clkE c (dss.getD c []) (evsW dss c) (k+1)).2=(clkE c (dss.getD c []) (evsW dss c) k).2:=by
    rw[clkE,stepE,if_pos h4]
   have hg:gAt dss c k=0:=hd.2.2 (by omega);rw[e];rcases ih with ⟨h1,h2⟩|⟨j,h1,h2,h3,h5⟩
   ·
    refine .inl ⟨h1,fun j hj=>?_⟩;by_cases e:j=k
    · subst e;omega
    · exact h2 j (by omega)
   · exact .inr ⟨j,by omega,h2,h3,h5⟩
  ·
   have e:(clkE c (dss.getD c []) (evsW dss c) (k+1)).2=fstE (gAt dss c k) (offN dss c k) (clkE c (dss.getD c []) (evsW dss c) k).2:=by
    rw[clkE,stepE,if_neg h4];rfl
   rw[e];by_cases hg:gAt dss c k=(g:Int)
   ·
    rcases ih with ⟨h1,h2⟩|⟨j,h1,h2,h3,h5⟩
    ·
     refine .inr ⟨k,by omega,hg,h2,?_⟩;unfold fstE;rw[hg,Int.toNat_natCast,if_pos ⟨by omega,h1⟩,getD_setE _ _ _ _ (by omega),if_pos rfl]
    ·
     refine .inr ⟨j,by omega,h2,h3,?_⟩;have h6:=off_three dss c j;unfold fstE;rw[hg,Int.toNat_natCast,if_neg (by rw[h5];omega)];exact h5
   ·
    have e2:(fstE (gAt dss c k) (offN dss c k) (clkE c (dss.getD c []) (evsW dss c) k).2).getD g 0=(clkE c (dss.getD c []) (evsW dss c) k).2.getD g 0:=by
     unfold fstE;split
     ·
      rename_i hp;have hx:(gAt dss c k).toNat≤9:=by have:=hd.2.1;omega
      rw[getD_setE _ _ _ _ (by omega),if_neg (by omega)]
     · rfl
    rw[e2];rcases ih with ⟨h1,h2⟩|⟨j,h1,h2,h3,h5⟩
    ·
     refine .inl ⟨h1,fun j hj=>?_⟩;by_cases e:j=k
     · subst e;exact hg
     · exact h2 j (by omega)
    · exact .inr ⟨j,by omega,h2,h3,h5⟩
theorem cls_at {dss:List (List Dd)}{c k:Nat}(hok:OkC dss c)(hk:k<(dss.getD c []).length)(h4:(dAt dss c k).1≠4):
  (gAt dss c k=0∧clsD dss c k=(offN dss c k:Int))∨(gAt dss c k≠0∧∃j,j≤k∧gAt dss c j=gAt dss c k∧(∀i,i<j→gAt dss c i≠gAt dss c k)∧clsD dss c k=(offN dss c j:Int)):=by
 have hd:=g_in hok hk;by_cases hg:gAt dss c k=0
 ·
  refine .inl ⟨hg,?_⟩;unfold clsD clsE;rw[if_neg (by have:(dAt dss c k).2.2.2=0:=hg;omega)]
 ·
  obtain⟨g,hgg⟩:=Int.eq_ofNat_of_zero_le hd.1;have hgg':gAt dss c k=(g:Int):=hgg;have h9:g≤9:=by have:=hd.2.1;omega
  refine .inr ⟨hg,?_⟩;have h1:=fst_at hok (g:=g) (by omega) h9 (k+1) hk
  have e:(clkE c (dss.getD c []) (evsW dss c) (k+1)).2=fstE (gAt dss c k) (offN dss c k) (clkE c (dss.getD c []) (evsW dss c) k).2:=by
   rw[clkE,stepE,if_neg h4];rfl
  rw[e] at h1;rcases h1 with ⟨_,h2⟩|⟨j,h1,h2,h3,h5⟩
  · exact absurd hgg' (h2 k (by omega))
  ·
   refine⟨j,by omega,by rw[hgg'];exact h2,fun i hi=>by rw[hgg'];exact h3 i hi,?_⟩;unfold clsD clsE;rw[if_pos (by have:(dAt dss c k).2.2.2=(g:Int):=hgg';omega)];have hq:(dAt dss c k).2.2.2.toNat=g:=by have:(dAt dss c k).2.2.2=(g:Int):=hgg';omega
   rw[hq];exact h5
theorem off_inj {dss:List (List Dd)}{c c' k k':Nat}(hk:k<(dss.getD c []).length)(hk':k'<(dss.getD c' []).length)(h1:0<numD (dAt dss c k))(h2:0<numD (dAt dss c' k'))(e:offN dss c k=offN dss c' k'):c=c'∧k=k':=by
 by_cases hc:c<c'
 · have:=off_lt (k':=k') hk (.inl hc);omega
 by_cases hc':c'<c
 · have:=off_lt (k':=k) hk' (.inl hc');omega
 obtain rfl:c=c':=by omega
 refine⟨rfl,?_⟩;by_cases hkk:k<k'
 · have:=off_lt (c':=c) (k':=k') hk (.inr ⟨rfl,hkk⟩);omega
 by_cases hkk':k'<k
 · have:=off_lt (c':=c) (k':=k) hk' (.inr ⟨rfl,hkk'⟩);omega
 omega
theorem num_grp {dss:List (List Dd)}{c k:Nat}(hok:OkC dss c)(hk:k<(dss.getD c []).length)(hg:gAt dss c k≠0):(dAt dss c k).1≠4∧(dAt dss c k).1≠3∧0<numD (dAt dss c k):=by
 have hd:=g_in hok hk;have hkk:=okD_kindE (hok k hk);have h3:¬ 2<(dAt dss c k).1:=fun h=>hg (hd.2.2 h)
 refine⟨by omega,by omega,?_⟩;unfold numD;rw[if_neg (by omega),if_neg (by omega)];omega
theorem num_pos {d:Dd}(h:d.1≠4):0<numD d:=by
 unfold numD;rw[if_neg h];split<;>omega
theorem cls_iff {dss:List (List Dd)}{c c' k k':Nat}(hok:OkC dss c)(hok':OkC dss c')(hk:k<(dss.getD c []).length)(hk':k'<(dss.getD c' []).length)(h4:(dAt dss c k).1≠4)(h4':(dAt dss c' k').1≠4):
  clsD dss c k=clsD dss c' k'↔c=c'∧(k=k'∨(gAt dss c k≠0∧gAt dss c k=gAt dss c' k')):=by
 constructor
 ·
  intro e;rcases cls_at hok hk h4 with ⟨g1,e1⟩|⟨g1,j,j1,j2,j3,e1⟩
  ·
   rcases cls_at hok' hk' h4' with ⟨g2,e2⟩|⟨g2,j',l1,l2,l3,e2⟩
   ·
    rw[e1,e2] at e;obtain⟨rfl,rfl⟩:=off_inj hk hk' (num_pos h4) (num_pos h4') (by omega);exact⟨rfl,.inl rfl⟩
   ·
    rw[e1,e2] at e;obtain⟨rfl,rfl⟩:=off_inj (k':=j') hk (by omega) (num_pos h4) (num_grp (k:=j') hok' (by omega) (by rw[l2];exact g2)).2.2 (by omega);exact absurd (l2.symm.trans g1) g2
  ·
   rcases cls_at hok' hk' h4' with ⟨g2,e2⟩|⟨g2,j',l1,l2,l3,e2⟩
   ·
    rw[e1,e2] at e;obtain⟨rfl,rfl⟩:=off_inj (k:=j) (by omega) hk' (num_grp (k:=j) hok (by omega) (by rw[j2];exact g1)).2.2 (num_pos h4') (by omega);exact absurd (j2.symm.trans g2) g1
   ·
    rw[e1,e2] at e;obtain⟨rfl,rfl⟩:=off_inj (k:=j) (k':=j') (by omega) (by omega) (num_grp (k:=j) hok (by omega) (by rw[j2];exact g1)).2.2 (num_grp (k:=j') hok' (by omega) (by rw[l2];exact g2)).2.2 (by omega);exact⟨rfl,.inr ⟨g1,by rw[←j2,l2]⟩⟩
 ·
  rintro⟨rfl,rfl|⟨g1,g2⟩⟩
  · rfl
  ·
   rcases cls_at hok hk h4 with ⟨g0,_⟩|⟨_,j,j1,j2,j3,e1⟩
   · exact absurd g0 g1
   rcases cls_at hok' hk' h4' with ⟨g0,_⟩|⟨_,j',l1,l2,l3,e2⟩
   · rw[g0] at g2;exact absurd g2 g1
   rw[e1,e2]
   have:j=j':=by
    by_cases a:j<j'
    · exact absurd (by rw[j2,g2]) (l3 j a)
    by_cases a':j'<j
    · exact absurd (by rw[l2,g2]) (j3 j' a')
    omega
   rw[this]
end Go.Proofs.Ytgakfkjjkobpiaa
