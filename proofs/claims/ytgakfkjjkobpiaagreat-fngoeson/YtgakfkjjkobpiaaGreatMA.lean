/- Gathered texts. -/
import Derived.WalkKit
import Derived.ProofKit
import Derived.Laws.BitsAllLaws
import Derived.Laws.BitsLemmas
import Derived.Test.YtgakfkjjkobpiaaGreatRows
import Derived.OpenShut
import Derived.Below
import Derived.WalkSmall
import Derived.Laws.Rows
import Derived.Laws.ResultCell
import Derived.Maps.AppendAt
import Derived.Laws.OwnMore
import Derived.OwnWalk
import Derived.Lib.IndexMore
import Derived.Lib.ParseIntB
import Derived.Lib.ItoaNum
set_option maxRecDepth 100000
set_option maxHeartbeats 8000000
namespace Go.Proofs.YtgakfkjjkobpiaaGreat
open Go.ChangeShapes Go.WideShapes Go.ChangeAt Go.RowKit
open Go.RowKit
theorem Br {a b:Bool}(h:a=b):Ending.returned (.bool a) = .returned (.bool b):=by rw[h]
theorem PB {k:IntKind}{a b:Int}(h:a=b):Ending.returned (.int k a) = .returned (.int k b):=by rw[h]
theorem Eu (a:Nat)(ha:a<9223372036854775808):(BitVec.ofInt 64 (a:Int)).toNat=a:=ofInt_u64 a (by omega)
theorem Iu (a b:Nat)(ha:a<9223372036854775808)(hb:b<9223372036854775808):bits .or .i64 (a:Int) (b:Int)=((a ||| b:Nat):Int):=by
 have hx:a ||| b<2 ^ 63:=Nat.or_lt_two_pow (by omega) (by omega);show IntKind.i64.wrap ((BitVec.ofInt 64 (a:Int) ||| BitVec.ofInt 64 (b:Int)).toNat:Int)=_;rw[BitVec.toNat_or,Eu a ha,Eu b hb,IntKind.wrap_i64];omega
theorem KE (a b:Nat)(ha:a<9223372036854775808)(hb:b<9223372036854775808):bits .and .i64 (a:Int) (b:Int)=((a &&& b:Nat):Int):=by
 have hx:a &&& b<2 ^ 63:=Nat.and_lt_two_pow _ (by omega);show IntKind.i64.wrap ((BitVec.ofInt 64 (a:Int) &&& BitVec.ofInt 64 (b:Int)).toNat:Int)=_;rw[BitVec.toNat_and,Eu a ha,Eu b hb,IntKind.wrap_i64];omega
theorem Qe (n:Nat)(h:n<=12):(2:Int) ^ n<=4096/\(1:Int)<=2 ^ n:=by
 have:n=0\/n=1\/n=2\/n=3\/n=4\/n=5\/n=6\/n=7\/n=8\/n=9\/n=10\/n=11\/n=12:=by omega
 rcases this with rfl|rfl|rfl|rfl|rfl|rfl|rfl|rfl|rfl|rfl|rfl|rfl|rfl<;>decide
theorem Du (x:Int)(h1:-9223372036854775808<=x)(h2:x<=9223372036854775807):wrap64 x=x:=by
 simp only[wrap64];omega
theorem Mm (n:Int)(h0:0<=n)(h:n<=12):wrap64 (2 ^ n.toNat)=2 ^ n.toNat:=by
 have:=Qe n.toNat (by omega);exact Du _ (by omega) (by omega)
def CX (x lo hi:Int):Bool:=decide (lo<=x/\x<=hi)
def IX (n s:Int):Bool:=decide ((0<=n/\n<=12)/\0<=s/\s<2 ^ n.toNat)
def Ya (s i:Int):Bool:=bits .and .i64 (s / 2 ^ i.toNat) 1==1
def BK (s i:Int):Bool:=CX i 0 11&&CX s 0 4095&&Ya s i
def qa (s:Int):Nat->List Int
 | 0=>[]
 |k+1=>qa s k++(if BK s k=true then [(k:Int)] else [])
def Fo (s i:Int):Int:=if s=-1\/CX i 0 11=false then -1 else bits .or .i64 s (wrap64 (2 ^ i.toNat))
def UH (n:Int)(zs:List Int):Bool:=decide (n∈zs)
theorem WA (s i:Int)(h:CX i 0 11=false):Fo s i=-1:=by simp[Fo,h]
theorem UG (i:Int):Fo (-1) i=-1:=by simp[Fo]
theorem Yq (s i:Int)(h0:0<=s)(h:CX i 0 11=true):Fo s i=bits .or .i64 s (wrap64 (2 ^ i.toNat)):=by
 have:¬s=-1:=by omega
 simp[Fo,h,this]
theorem J4 (l:List Int)(k:Nat)(h:k<l.length):l.take (k+1)=l.take k++[l.getD k 0]:=by
 rw[List.take_succ_eq_append_getElem h,List.getD_eq_getElem?_getD,List.getElem?_eq_getElem h];rfl
def AC (w w':World):Prop:=Below w.heap.size w w'
theorem AC.refl (w:World):AC w w:=Below.refl _ _
theorem AC.size {w w':World}(h:AC w w'):w.heap.size<=w'.heap.size:=Below.size h
theorem AC.trans {a b c:World}(h:AC a b)(k:AC b c):AC a c:=Below.trans h (Below.mono k h.size)
theorem AC.drew {a w:World}(h:AC a w):AC a w.drew:=Below.drew h
theorem AC.drewN {a w:World}(h:AC a w)(n:Nat):AC a (w.drewN n):=below_drewN h n
theorem AC.alloc {a w:World}(h:AC a w)(o:Obj):AC a (w.alloc o):=Below.alloc h h.size o
theorem AC.grown {a w w':World}{row:Option Nat}(h:AC a w)(hg:w.grownBy w' row)(hr:∀k,row=some k->a.heap.size<=k):AC a w':=Below.grown h hg h.size hr
theorem AC.grownBy {w w':World}(h:AC w w'):w.grownBy w' none:=⟨Below.os h,Below.tape h,Below.output h,Below.size h,fun k hk _=>Below.block h k hk⟩
theorem AC.cell {w w':World}(h:AC w w'){b o:Nat}(hb:b<w.heap.size):w'.cell? ⟨b,o,none⟩=w.cell? ⟨b,o,none⟩:=Below.cell h hb
theorem A6 {a b c:World}{row:Option Nat}(h:a.grownBy b row)(k:b.grownBy c row):a.grownBy c row:=
 ⟨k.os.trans h.os,k.tape.trans h.tape,k.output.trans h.output,Nat.le_trans h.size k.size,fun i hi hne=>(k.block i (Nat.lt_of_lt_of_le hi h.size) hne).trans (h.block i hi hne)⟩
def Rd (w:World)(v:Value)(zs:List Int):Prop:=
 ∃(a:Option Addr) (cap:Nat),v = .slice a zs.length cap /\
  (zs=[]\/∃b off,a=some ⟨b,off,none⟩/\b<w.heap.size/\∀i,i<zs.length->w.cell? ⟨b,off+i,none⟩=some (.int .i64 (zs.getD i 0)))
theorem Rd.keep {w w':World}{v:Value}{zs:List Int}(h:Rd w v zs)(k:AC w w'):Rd w' v zs:=by
 obtain⟨a,cap,hv,h⟩:=h;refine⟨a,cap,hv,?_⟩;rcases h with h|⟨b,off,ha,hb,hc⟩
 . exact .inl h
 . exact .inr ⟨b,off,ha,Nat.lt_of_lt_of_le hb k.size,fun i hi=>(k.cell hb).trans (hc i hi)⟩
def A8 (w:World)(base:Nat)(v:Value)(zs:List Int):Prop:=w.ownsRow base 2 1 v zs.length (zs.map (Value.int .i64))
theorem A8.kept {w w':World}{base:Nat}{v:Value}{zs:List Int}{row:Option Nat}(h:A8 w base v zs)(hg:w.grownBy w' row)(hne:v.ownBlock=none\/v.ownBlock≠row):A8 w' base v zs:=
 World.ownsRow.kept h hg hne
theorem A8.keep {w w':World}{base:Nat}{v:Value}{zs:List Int}(h:A8 w base v zs)(k:AC w w'):A8 w' base v zs:=
 A8.kept h k.grownBy (by cases v.ownBlock<;>simp)
theorem A8.rd {w:World}{base:Nat}{v:Value}{zs:List Int}(h:A8 w base v zs):Rd w v zs:=by
 have hlt:=World.ownsRow.lt h;rcases h.2 with ⟨rfl,hn⟩|⟨g,cap,cur,rfl,hb,hg,rest⟩
 ·
  have:zs=[]:=List.eq_nil_of_length_eq_zero hn;subst this;exact⟨none,0,rfl,.inl rfl⟩
 ·
  refine⟨some ⟨g,0,none⟩,cap,rfl,.inr ⟨g,0,rfl,(hlt g rfl).2,fun i hi=>?_⟩⟩;have hc:=World.ownsRow.cellAt h i (by simpa using hi);rw[Nat.zero_add,hc,List.getElem?_map,List.getElem?_eq_getElem hi,List.getD_eq_getElem?_getD,List.getElem?_eq_getElem hi];rfl
theorem A8.BE {w:World}{base base':Nat}{v:Value}{zs:List Int}(h:A8 w base v zs)(hb:base'<=base):A8 w base' v zs:=by
 refine⟨h.1,?_⟩;rcases h.2 with h|⟨g,cap,cur,hv,hg,rest⟩
 . exact .inl h
 . exact .inr ⟨g,cap,cur,hv,Nat.le_trans hb hg,rest⟩
theorem A8.ge {w:World}{base:Nat}{v:Value}{zs:List Int}(h:A8 w base v zs):∀k,v.ownBlock=some k->base<=k:=fun k hk=>(World.ownsRow.lt h k hk).1
theorem A8.apart {w w':World}{base:Nat}{v v':Value}{zs zs':List Int}(h:A8 w base v zs)(h':A8 w' w.heap.size v' zs'):v.ownBlock=none\/v.ownBlock≠v'.ownBlock:=by
 cases hv:v.ownBlock with
 |none=>exact .inl rfl
 |some k=>
  refine .inr fun e=>?_
  have h1:=(World.ownsRow.lt h k hv).2;have h2:=h'.ge k e.symm;omega
theorem Dp {w:World}{base:Nat}{v:Value}{zs:List Int}{x:Int}(h:w.ownsRow base 2 1 v (zs.length+1) (zs.map (Value.int .i64)++[.int .i64 x])):A8 w base v (zs++[x]):=by
 unfold A8;simpa using h
theorem Tryz.FL:(Tryz.prog.info? 2).map (fun i=>(i.zero,i.size,i.bytes))=some (some (.int .i64 0),1,8):=by kernel_rfl
theorem Bj (w:World)(A:Obj)(i:Nat):(w.alloc A).heap[i]? = if i=w.heap.size then some A else w.heap[i]?:=Array.getElem?_push
theorem AD (w:World)(A:Obj):(w.alloc A).heap.size=w.heap.size+1:=Array.size_push _
theorem C9 (w:World):w.drew.heap=w.heap:=rfl
theorem Fy {w w1:World}{o:Obj}(k:AC (w.alloc o) w1):w.heap.size<w1.heap.size:=by
 have:=k.size;rw[AD] at this;omega
theorem AS {w w1:World}{cs:Array Value}{t:TypeId}(k:AC (w.alloc (.cells cs t)) w1)(i:Nat):w1.cell? ⟨w.heap.size,i,none⟩=cs[i]?:=by
 rw[k.cell (by rw[AD];omega),cell_of_row (w.alloc (.cells cs t)) w.heap.size i cs t (0,0) (heap_alloc_new w _)]
theorem Ce {w w1:World}{o:Obj}(k:AC (w.alloc o) w1):w1.heap[w.heap.size]? = some o:=
 (Below.block k w.heap.size (by rw[AD];omega)).trans (heap_alloc_new w o)
abbrev nU (l:List UInt8):Value:= .string ⟨l.toArray⟩
theorem Ac {P:Program}{fn:Func}{p:Tmp}{ty:TypeId}(h:fn.results=#[.cell p ty])(tmps:Array Value)(w:World)(g:Nat)(t:TypeId)(cs:Array Value)(fr:Nat×Nat)(d:TypeDesc)
  (hp:tmps.getD p undef = .pointer (some ⟨g,0,none⟩)) (hg:w.heap[g]? = some (.cells cs t fr))
  (hu:P.underlying ty=some d) (hd:(match d with | .struct _ | .array _ _=>true|_=>false)=true) (hi:(P.info? ty).map (·.size)=some cs.size):
  (results fn tmps).run P w = .ok (.agg cs) w:=results_cell_row h tmps w g t cs fr d hp hg hu hd hi
theorem AZ {P:Program}{fn:Func}{p u:Tmp}{ty:TypeId}(h:fn.results=#[.cell p ty,.tmp u])(tmps:Array Value)(w:World)(g:Nat)(t:TypeId)(cs:Array Value)(fr:Nat×Nat)(d:TypeDesc)(v:Value)
  (hp:tmps.getD p undef = .pointer (some ⟨g,0,none⟩)) (hg:w.heap[g]? = some (.cells cs t fr)) (hv:tmps.getD u undef=v)
  (hu:P.underlying ty=some d) (hd:(match d with | .struct _ | .array _ _=>true|_=>false)=true) (hi:(P.info? ty).map (·.size)=some cs.size):
  (results fn tmps).run P w = .ok (.tuple #[.agg cs,v]) w:=by
 rw[results_cell_tmp h,hp,hv];simp[asAddr,run_loadVar_row w g t ty cs fr d hg hu hd hi,Result.andThen]
theorem PA {P:Program}{fn:Func}{p q:Tmp}{ty:TypeId}(h:fn.results=#[.cell p ty,.cell q ty])(tmps:Array Value)(w:World)(g g':Nat)(t t':TypeId)(cs cs':Array Value)(fr fr':Nat×Nat)(d:TypeDesc)
  (hp:tmps.getD p undef = .pointer (some ⟨g,0,none⟩)) (hg:w.heap[g]? = some (.cells cs t fr))
  (hq:tmps.getD q undef = .pointer (some ⟨g',0,none⟩)) (hg':w.heap[g']? = some (.cells cs' t' fr'))
  (hu:P.underlying ty=some d) (hd:(match d with | .struct _ | .array _ _=>true|_=>false)=true) (hi:(P.info? ty).map (·.size)=some cs.size) (hi':(P.info? ty).map (·.size)=some cs'.size):
  (results fn tmps).run P w = .ok (.tuple #[.agg cs,.agg cs']) w:=by
 have hp':tmps[p]?.getD undef = .pointer (some ⟨g,0,none⟩):=by simpa using hp
 have hq':tmps[q]?.getD undef = .pointer (some ⟨g',0,none⟩):=by simpa using hq
 simp[results,h,hp',hq',asAddr,run_loadVar_row w g t ty cs fr d hg hu hd hi,run_loadVar_row w g' t' ty cs' fr' d hg' hu hd hi']
section
section
variable {α:Type} {cf:α->List Value} {n:Nat}
def Xh (cf:α->List Value)(w:World)(b o:Nat)(x:α):Prop:=∀m u,(cf x)[m]? = some u->w.cell? ⟨b,o+m,none⟩=some u
def iR (cf:α->List Value)(n:Nat)(w:World)(v:Value)(xs:List α):Prop:=
 ∃(a:Option Addr) (cap:Nat),v = .slice a xs.length (xs.length+cap) /\
  (xs=[]\/∃b off,a=some ⟨b,off,none⟩/\b<w.heap.size/\∀i x,xs[i]? = some x->Xh cf w b (off+i*n) x)
theorem Xh.same {w w':World}{b o:Nat}{x:α}(h:Xh cf w b o x)(hh:w'.heap[b]? = w.heap[b]?):Xh cf w' b o x:=
 fun m u hm=>by
  have:=h m u hm;simp only[World.cell?,hh] at this ⊢;exact this
theorem Xh.keep {w w':World}{b o:Nat}{x:α}(h:Xh cf w b o x)(hb:b<w.heap.size)(k:AC w w'):Xh cf w' b o x:=h.same (Below.block k b hb)
theorem iR.keep {w w':World}{v:Value}{xs:List α}(h:iR cf n w v xs)(k:AC w w'):iR cf n w' v xs:=by
 obtain⟨a,cap,hv,h⟩:=h;refine⟨a,cap,hv,?_⟩;rcases h with h|⟨b,off,ha,hb,hc⟩
 . exact .inl h
 . exact .inr ⟨b,off,ha,Nat.lt_of_lt_of_le hb k.size,fun i x hx=>(hc i x hx).keep hb k⟩
def BW (cf:α->List Value)(e:TypeId)(n:Nat)(w:World)(base:Nat)(v:Value)(xs:List α):Prop:=w.ownsRow base e n v xs.length (xs.flatMap cf)
variable {e:TypeId}
theorem BW.keep {w w':World}{base:Nat}{v:Value}{xs:List α}(h:BW cf e n w base v xs)(k:AC w w'):BW cf e n w' base v xs:=
 World.ownsRow.kept h k.grownBy (by cases v.ownBlock<;>simp)
theorem BW.kept {w w':World}{base:Nat}{v:Value}{xs:List α}{row:Option Nat}(h:BW cf e n w base v xs)(hg:w.grownBy w' row)(hne:v.ownBlock=none\/v.ownBlock≠row):BW cf e n w' base v xs:=
 World.ownsRow.kept h hg hne
theorem BW.lt {w:World}{base:Nat}{v:Value}{xs:List α}(h:BW cf e n w base v xs):∀k,v.ownBlock=some k->base<=k/\k<w.heap.size:=World.ownsRow.lt h
theorem BW.ge {w:World}{base:Nat}{v:Value}{xs:List α}(h:BW cf e n w base v xs):∀k,v.ownBlock=some k->base<=k:=fun k hk=>(h.lt k hk).1
theorem De {w:World}{base:Nat}{v:Value}{xs:List α}{x:α}(h:w.ownsRow base e n v (xs.length+1) (xs.flatMap cf++cf x)):BW cf e n w base v (xs++[x]):=by
 unfold BW;rw[List.flatMap_append];simpa using h
theorem LR (w:World):BW cf e n (w.alloc (.cells #[] e)) w.heap.size (.slice (some ⟨w.heap.size,0,none⟩) 0 0) []:=
 World.ownsRow_lit w #[] 0 (Nat.le_refl _) (by decide) (by simp)
theorem S7 (hn:∀x,(cf x).length=n):∀(xs:List α) (i:Nat) (x:α) (m:Nat),xs[i]? = some x->m<n->(xs.flatMap cf)[i*n+m]? = (cf x)[m]?
 | [],i,x,m,h,_=>by simp at h
 |y::r,0,x,m,h,hm=>by
  simp at h;subst h;rw[List.flatMap_cons,List.getElem?_append_left (by rw[hn];omega)];simp
 |y::r,i+1,x,m,h,hm=>by
  have ih:=S7 hn r i x m (by simpa using h) hm;have e1:(i+1)*n+m=n+(i*n+m):=by rw[Nat.add_mul];omega
  rw[List.flatMap_cons,List.getElem?_append_right (by rw[hn];omega),hn,e1,Nat.add_sub_cancel_left,ih]
theorem BW.shape {w:World}{base:Nat}{v:Value}{xs:List α}(h:BW cf e n w base v xs):∃a c,v = .slice a xs.length c:=by
 rcases h.2 with ⟨rfl,hz⟩|⟨g,cap,cur,rfl,_⟩
 . exact⟨none,0,by rw[hz]⟩
 . exact⟨_,_,rfl⟩
theorem BW.rd (hn:∀x,(cf x).length=n){w:World}{base:Nat}{v:Value}{xs:List α}(h:BW cf e n w base v xs):iR cf n w v xs:=by
 have h2:=h;have hlt:=h.lt;rcases h.2 with ⟨rfl,hz⟩|⟨g,cap,cur,rfl,hb,hg,hcap,_,hs,_⟩
 ·
  have:xs=[]:=List.eq_nil_of_length_eq_zero hz;subst this;exact⟨none,0,rfl,.inl rfl⟩
 ·
  obtain⟨x,rfl⟩:∃x,cap=xs.length+x:=⟨cap-xs.length,by omega⟩;refine⟨_,x,rfl,.inr ⟨g,0,rfl,(hlt g rfl).2,fun i y hy m u hm=>?_⟩⟩;have hi:i<xs.length:=(List.getElem?_eq_some_iff.1 hy).1;have hmn:m<n:=by have:=(List.getElem?_eq_some_iff.1 hm).1;rw[hn] at this;exact this
  have hb2:i*n+m<xs.length*n:=by
   have h3:(i+1)*n<=xs.length*n:=Nat.mul_le_mul_right n hi;rw[Nat.add_mul] at h3;omega
  rw[Nat.zero_add,World.ownsRow.cellAt h2 (i*n+m) hb2,S7 hn xs i y m hy hmn];exact hm
end
end
def YG (w:World)(v:Value)(FW:List (List Int)):Prop:=
 ∃(a:Option Addr) (cap:Nat),v = .slice a FW.length cap /\
  (FW=[]\/∃b off,a=some ⟨b,off,none⟩/\b<w.heap.size/\∀i,i<FW.length->∃vi,w.cell? ⟨b,off+i,none⟩=some vi/\Rd w vi (FW.getD i []))
theorem YG.keep {w w':World}{v:Value}{FW:List (List Int)}(h:YG w v FW)(k:AC w w'):YG w' v FW:=by
 obtain⟨a,cap,hv,h⟩:=h;refine⟨a,cap,hv,?_⟩;rcases h with h|⟨b,off,ha,hb,hc⟩
 . exact .inl h
 ·
  refine .inr ⟨b,off,ha,Nat.lt_of_lt_of_le hb k.size,fun i hi=>?_⟩;obtain⟨vi,h1,h2⟩:=hc i hi;exact⟨vi,(k.cell hb).trans h1,h2.keep k⟩
theorem Rd.mJ {w w':World}{v:Value}{zs:List Int}{row:Option Nat}(h:Rd w v zs)(hg:w.grownBy w' row)(hne:v.ownBlock=none\/v.ownBlock≠row):Rd w' v zs:=by
 obtain⟨a,cap,rfl,h⟩:=h;refine⟨a,cap,rfl,?_⟩;rcases h with h|⟨b,off,rfl,hb,hc⟩
 . exact .inl h
 ·
  refine .inr ⟨b,off,rfl,Nat.lt_of_lt_of_le hb hg.size,fun i hi=>?_⟩;rw[World.cell?_of_block (w:=w) (hg.block b hb (fun e=>by rcases hne with h|h<;>simp[Value.ownBlock] at h;exact h e))];exact hc i hi
def kP:Value->Nat
 | .slice _ _ c=>c
 |_=>0
structure G1 (w:World)(x u:Value)(zs:List Int):Prop where
 rd:Rd w u zs
 ne:u.ownBlock=none\/u.ownBlock≠x.ownBlock
 lt:∀k,u.ownBlock=some k->k<w.heap.size
 cap:zs.length<=kP u
theorem G1.keep {w w':World}{x u:Value}{zs:List Int}(h:G1 w x u zs)(k:AC w w'):G1 w' x u zs:=
 ⟨h.rd.keep k,h.ne,fun j hj=>Nat.lt_of_lt_of_le (h.lt j hj) k.size,h.cap⟩
theorem G1.grow {w w':World}{x x' u:Value}{zs:List Int}(h:G1 w x u zs)(hg:w.grownBy w' x.ownBlock)(hb:x'.ownBlock=x.ownBlock\/x'.ownBlock=some w.heap.size):G1 w' x' u zs:=by
 refine⟨h.rd.mJ hg h.ne,?_,fun j hj=>Nat.lt_of_lt_of_le (h.lt j hj) hg.size,h.cap⟩;rcases hb with hb|hb
 . rw[hb];exact h.ne
 ·
  cases hu:u.ownBlock with
  |none=>exact .inl rfl
  |some k=>exact .inr (fun e=>by rw[hb] at e;have:=h.lt k hu;have:=Option.some.inj e;omega)
structure Mp (w:World)(base:Nat)(x:Value)(vs:List Value)(FW:List (List Int)):Prop where
 row:w.ownsRow base 26 1 x FW.length vs
 each:∀i u,vs[i]? = some u->G1 w x u (FW.getD i [])
theorem Mp.keep {w w':World}{base:Nat}{x:Value}{vs:List Value}{FW:List (List Int)}(h:Mp w base x vs FW)(k:AC w w'):Mp w' base x vs FW:=
 ⟨World.ownsRow.kept h.row k.grownBy (by cases x.ownBlock<;>simp),fun i u hu=>(h.each i u hu).keep k⟩
theorem Mp.lt {w:World}{base:Nat}{x:Value}{vs:List Value}{FW:List (List Int)}(h:Mp w base x vs FW):∀k,x.ownBlock=some k->base<=k/\k<w.heap.size:=World.ownsRow.lt h.row
theorem Mp.rd {w:World}{base:Nat}{x:Value}{vs:List Value}{FW:List (List Int)}(h:Mp w base x vs FW):YG w x FW:=by
 have hl:=h.row.1;have hlt:=h.lt;have h2:=h.row;rcases h.row.2 with ⟨rfl,hz⟩|⟨g,cap,cur,rfl,hb,hg,_⟩
 . exact⟨none,0,by rw[hz],.inl (List.eq_nil_of_length_eq_zero hz)⟩
 ·
  refine⟨_,_,rfl,.inr ⟨g,0,rfl,(hlt g rfl).2,fun i hi=>?_⟩⟩;have hi':i<vs.length:=by omega
  refine⟨vs[i],?_,(h.each i _ (List.getElem?_eq_getElem hi')).rd⟩;rw[Nat.zero_add,World.ownsRow.cellAt h2 i (by omega),List.getElem?_eq_getElem hi']
def jg (w:World)(v:Value)(FW:List (List Int)):Prop:=
 ∃(a:Option Addr) (cap:Nat),v = .slice a FW.length cap /\
  (FW=[]\/∃b off,a=some ⟨b,off,none⟩/\b<w.heap.size/\∀i,i<FW.length->∃vi,w.cell? ⟨b,off+i,none⟩=some vi/\Rd w vi (FW.getD i [])/\(FW.getD i []).length<=kP vi)
theorem jg.rd {w:World}{v:Value}{FW:List (List Int)}(h:jg w v FW):YG w v FW:=by
 obtain⟨a,cap,hv,h⟩:=h;refine⟨a,cap,hv,?_⟩;rcases h with h|⟨b,off,ha,hb,hc⟩
 . exact .inl h
 ·
  refine .inr ⟨b,off,ha,hb,fun i hi=>?_⟩;obtain⟨vi,h1,h2,_⟩:=hc i hi;exact⟨vi,h1,h2⟩
theorem Mp.push {w w':World}{base:Nat}{x x' u:Value}{vs:List Value}{FW:List (List Int)}{zs:List Int}(h:Mp w base x vs FW)(hu:G1 w x u zs)
  (ho:w'.ownsRow base 26 1 x' (FW.length+1) (vs++[u])) (hg:w.grownBy w' x.ownBlock) (hb:x'.ownBlock=x.ownBlock\/x'.ownBlock=some w.heap.size):Mp w' base x' (vs++[u]) (FW++[zs]):=by
 have hl:=h.row.1;refine⟨by rw[List.length_append];exact ho,fun i y hy=>?_⟩;by_cases hi:i<vs.length
 ·
  rw[List.getElem?_append_left hi] at hy;have:=(h.each i y hy).grow hg hb;rw[List.getD_eq_getElem?_getD,List.getElem?_append_left (by omega),<-List.getD_eq_getElem?_getD];exact this
 ·
  have hi2:i=vs.length:=by
   have:=(List.getElem?_eq_some_iff.1 hy).1;simp at this;omega
  subst hi2;rw[List.getElem?_append_right (Nat.le_refl _),Nat.sub_self] at hy;simp only[List.getElem?_cons_zero,Option.some.injEq] at hy;subst hy;rw[List.getD_eq_getElem?_getD,List.getElem?_append_right (by omega),show vs.length-FW.length=0 by omega];exact hu.grow hg hb
def Dy (k p v g:Int):Bool:=
 decide ((1<=k/\k<=4)/\(0<=p/\p<=2)/\(0<=g/\g<=9)/\(k=4->p=0)/\(2<k->g=0)/\((k=2\/k=3)->1<=v/\v<=9)/\(¬(k=2\/k=3)->v=0))
abbrev Dd:=Int×Int×Int×Int
def zD:Dd:=(0,0,0,0)
def FZ (d:Dd):Bool:=Dy d.1 d.2.1 d.2.2.1 d.2.2.2
def Rm (d:Dd):Int:=if d.1=1 then 1 else if d.1=2 then 1 else if d.1=3 then 2 else 0
def NN (ds:List Dd):Nat->Int
 | 0=>0
 |k+1=>NN ds k+Rm (ds.getD k zD)
def Pw (AA:List (List Dd)):Nat->Int
 | 0=>0
 |i+1=>Pw AA i+NN (AA.getD i []) (AA.getD i []).length
theorem eH (d:Dd):0<=Rm d/\Rm d<=2:=by
 unfold Rm
 repeat' split
 all_goals omega
theorem Vz (ds:List Dd):∀k:Nat,0<=NN ds k/\NN ds k<=2*k
 | 0=>by simp[NN]
 |k+1=>by have:=Vz ds k;have:=eH (ds.getD k zD);rw[NN];omega
def Ch (i:Nat)(own:List Int)(ds:List Dd):Nat->Option (List Int)
 | 0=>some own
 |k+1=>match Ch i own ds k with
  |none=>none
  |some o=>
   if (ds.getD k zD).2.2.2=0 then some o
   else if o.getD (ds.getD k zD).2.2.2.toNat 0≠0/\(o.getD (ds.getD k zD).2.2.2.toNat 0≠(i:Int)+1\/k=0\/(ds.getD (k-1) zD).2.2.2≠(ds.getD k zD).2.2.2) then none
   else some (o.set (ds.getD k zD).2.2.2.toNat ((i:Int)+1))
def EZ (AA:List (List Dd)):Nat->Option (List Int)
 | 0=>some (List.replicate 10 0)
 |i+1=>match EZ AA i with
  |none=>none
  |some o=>Ch i o (AA.getD i []) (AA.getD i []).length
def JS (AA:List (List Dd)):Bool:=(EZ AA AA.length).isSome
def Cy:List (List Dd)->Nat
 | []=>0
 |d::r=>d.length+Cy r
def Ft (ds:List Dd):Bool:=ds.all FZ&&decide (ds.length<=5)
def AW (AA:List (List Dd)):Bool:=
 decide (1<=AA.length/\AA.length<=3)&&AA.all Ft&&decide (Cy AA<=12)&&decide (Pw AA AA.length<=6)&&JS AA
theorem Jt {i:Nat}{own:List Int}{ds:List Dd}{k:Nat}(h:Ch i own ds k=none):∀n:Nat,k<=n->Ch i own ds n=none
 | 0,hn=>by
  obtain rfl:k=0:=by omega
  exact h
 |n+1,hn=>by
  by_cases e:k=n+1
  . rw[<-e];exact h
  . rw[Ch,Jt h n (by omega)]
theorem Ju {AA:List (List Dd)}{i:Nat}(h:EZ AA i=none):∀n:Nat,i<=n->EZ AA n=none
 | 0,hn=>by
  obtain rfl:i=0:=by omega
  exact h
 |n+1,hn=>by
  by_cases e:i=n+1
  . rw[<-e];exact h
  . rw[EZ,Ju h n (by omega)]
theorem JT {i:Nat}{own:List Int}{ds:List Dd}:∀ {k:Nat} {o:List Int},Ch i own ds k=some o->o.length=own.length
 | 0,o,h=>by simp only[Ch,Option.some.injEq] at h;rw[<-h]
 |k+1,o,h=>by
  rw[Ch] at h;split at h
  . cases h
  ·
   rename_i o' ho';have ih:=JT ho';split at h
   . simp only[Option.some.injEq] at h;rw[<-h];exact ih
   ·
    split at h
    . cases h
    . simp only[Option.some.injEq] at h;rw[<-h,List.length_set];exact ih
theorem Lq {AA:List (List Dd)}:∀ {i:Nat} {o:List Int},EZ AA i=some o->o.length=10
 | 0,o,h=>by simp only[EZ,Option.some.injEq] at h;rw[<-h];simp
 |i+1,o,h=>by
  rw[EZ] at h;split at h
  . cases h
  ·
   rename_i o' ho';rw[JT h];exact Lq ho'
theorem BR {α:Type}{f:α->Bool}{l:List α}(z:α)(h:l.all f=true)(i:Nat)(hi:i<l.length):f (l.getD i z)=true:=by
 rw[List.getD_eq_getElem?_getD,List.getElem?_eq_getElem hi];exact List.all_eq_true.1 h _ (List.getElem_mem hi)
theorem cZ {α:Type}{f:α->Bool}{l:List α}(z:α)(h:∀i,i<l.length->f (l.getD i z)=true):l.all f=true:=by
 rw[List.all_eq_true];intro x hx;obtain⟨i,hi,rfl⟩:=List.getElem_of_mem hx;have:=h i hi
 rwa [List.getD_eq_getElem?_getD,List.getElem?_eq_getElem hi] at this
theorem ON {α:Type}{f:α->Bool}{l:List α}(z:α)(i:Nat)(hi:i<l.length)(h:f (l.getD i z)=false):l.all f=false:=by
 cases hb:l.all f
 . rfl
 . rw[BR z hb i hi] at h;cases h
abbrev Ev:=Int×Int×Bool×Int×Int×Int
def zE:Ev:=(0,0,false,0,0,0)
def Vu (e:Ev):Int:=e.2.2.2.2.2
def B5:List Ev:=[(-1,-1,false,0,0,0),(-1,-1,false,1,0,1),(-1,-1,false,2,0,2)]
def Ck (i k:Nat)(d:Dd)(c:Int):List Ev:=
 if d.1=4 then [] else if d.1=3 then [((i:Int),(k:Int),true,d.2.1,0,c),((i:Int),(k:Int),false,d.2.1,d.2.2.1,c)]
 else if d.1=2 then [((i:Int),(k:Int),false,d.2.1,d.2.2.1,c)] else [((i:Int),(k:Int),true,d.2.1,0,c)]
def C8 (g:Int)(at0:Nat)(f:List Int):List Int:=if 0<g/\f.getD g.toNat 0=0 then f.set g.toNat (at0:Int) else f
def Co (g:Int)(at0:Nat)(f:List Int):Int:=if 0<g then (C8 g at0 f).getD g.toNat 0 else (at0:Int)
def ET (i k:Nat)(d:Dd)(s:List Ev×List Int):List Ev×List Int:=
 if d.1=4 then s else (s.1++Ck i k d (Co d.2.2.2 s.1.length s.2),C8 d.2.2.2 s.1.length s.2)
def BO (i:Nat)(ds:List Dd)(out:List Ev):Nat->List Ev×List Int
 | 0=>(out,List.replicate 10 0)
 |k+1=>ET i k (ds.getD k zD) (BO i ds out k)
def Az (AA:List (List Dd)):Nat->List Ev
 | 0=>B5
 |i+1=>(BO i (AA.getD i []) (Az AA i) (AA.getD i []).length).1
def AB (AA:List (List Dd)):List Ev:=if AW AA=true then Az AA AA.length else []
theorem Wq (i k:Nat)(d:Dd)(c:Int)(h:d.1=1\/d.1=2\/d.1=3\/d.1=4):((Ck i k d c).length:Int)=Rm d:=by
 unfold Ck Rm;rcases h with h|h|h|h<;>simp[h]
theorem CG {d:Dd}(h:FZ d=true):d.1=1\/d.1=2\/d.1=3\/d.1=4:=by
 simp[FZ,Dy] at h;omega
theorem Bv {d:Dd}(h:FZ d=true):0<=d.2.1/\d.2.1<=2/\0<=d.2.2.2/\d.2.2.2<=9/\(2<d.1->d.2.2.2=0):=by
 simp[FZ,Dy] at h;omega
theorem Pp {i:Nat}{ds:List Dd}{out:List Ev}(hok:∀j,j<ds.length->FZ (ds.getD j zD)=true):∀k:Nat,k<=ds.length->((BO i ds out k).1.length:Int)=out.length+NN ds k
 | 0,_=>by simp[BO,NN]
 |k+1,h=>by
  have ih:=Pp (i:=i) (out:=out) hok k (by omega);have hk:=CG (hok k (by omega));rw[BO,ET,NN];split
  ·
   rename_i h4;rw[ih];unfold Rm;rw[h4];simp
  ·
   have:=Wq i k (ds.getD k zD) (Co (ds.getD k zD).2.2.2 (BO i ds out k).1.length (BO i ds out k).2) hk;rw[List.length_append];omega
theorem Hf {AA:List (List Dd)}(hok:∀i,i<AA.length->Ft (AA.getD i [])=true):∀n:Nat,n<=AA.length->((Az AA n).length:Int)=3+Pw AA n
 | 0,_=>by simp[Az,B5,Pw]
 |n+1,h=>by
  have ih:=Hf hok n (by omega);have hn:=hok n (by omega);simp only[Ft,Bool.and_eq_true,decide_eq_true_eq] at hn;rw[Az,Pp (fun j hj=>BR zD hn.1 j hj) _ (Nat.le_refl _),ih,Pw];omega
def Ib (AA:List (List Dd))(out:List Ev)(j:Nat):Prop:=
 ∃(i k c:Nat) (rd:Bool) (vl:Int),out[j]? = some ((i:Int),(k:Int),rd,((AA.getD i []).getD k zD).2.1,vl,(c:Int))/\i<AA.length/\k<(AA.getD i []).length /\
  (rd=true->vl=0)/\(rd=false->vl=((AA.getD i []).getD k zD).2.2.1)/\c<=j /\
  ∃(k':Nat) (rd':Bool) (pl' vl':Int),out[c]? = some ((i:Int),(k':Int),rd',pl',vl',(c:Int))/\k'<(AA.getD i []).length /\
   (c≠j->((AA.getD i []).getD k zD).1≠3->((AA.getD i []).getD k zD).2.2.2≠0/\((AA.getD i []).getD k' zD).2.2.2=((AA.getD i []).getD k zD).2.2.2)
theorem IA {α:Type}{l:List α}{j:Nat}{x:α}(t:List α)(h:l[j]? = some x):(l++t)[j]? = some x:=by
 rw[List.getElem?_append_left (List.getElem?_eq_some_iff.1 h).1];exact h
theorem Ib.more {AA:List (List Dd)}{out:List Ev}{j:Nat}(h:Ib AA out j)(t:List Ev):Ib AA (out++t) j:=by
 obtain⟨i,k,c,rd,vl,h1,h2,h3,h4,h5,h6,k',rd',pl',vl',g1,g2,g3⟩:=h;exact⟨i,k,c,rd,vl,IA t h1,h2,h3,h4,h5,h6,k',rd',pl',vl',IA t g1,g2,g3⟩
def U9 (AA:List (List Dd))(i:Nat)(out:List Ev)(f:List Int):Prop:=
 f.length=10/\∀g:Nat,0<g->g<10->f.getD g 0=0\/∃(c k':Nat) (rd':Bool) (pl' vl':Int),f.getD g 0=(c:Int)/\out[c]? = some ((i:Int),(k':Int),rd',pl',vl',(c:Int))/\k'<(AA.getD i []).length/\((AA.getD i []).getD k' zD).2.2.2=(g:Int)
theorem B9 (o:List Int)(g:Nat)(x:Int)(j:Nat)(hg:g<o.length):(o.set g x).getD j 0=if g=j then x else o.getD j 0:=by
 rw[List.getD_eq_getElem?_getD,List.getElem?_set];by_cases e:g=j
 . subst e;rw[if_pos rfl,if_pos hg,if_pos rfl];rfl
 . rw[if_neg e,if_neg e,List.getD_eq_getElem?_getD]
theorem MN (i k:Nat)(d:Dd)(c:Int)(h4:d.1≠4):∃rd vl,(Ck i k d c)[0]? = some ((i:Int),(k:Int),rd,d.2.1,vl,c)/\(rd=true->vl=0)/\(rd=false->vl=d.2.2.1):=by
 unfold Ck;rw[if_neg h4];split
 . exact⟨true,0,rfl,by simp,by simp⟩
 ·
  split
  . exact⟨false,d.2.2.1,rfl,by simp,by simp⟩
  . exact⟨true,0,rfl,by simp,by simp⟩
theorem Ut {AA:List (List Dd)}{i k:Nat}{out:List Ev}{f:List Int}(hi:i<AA.length)(hk:k<(AA.getD i []).length)(hok:FZ ((AA.getD i []).getD k zD)=true)
  (hG:∀j,3<=j->j<out.length->Ib AA out j) (hF:U9 AA i out f):
  (∀j,3<=j->j<(ET i k ((AA.getD i []).getD k zD) (out,f)).1.length->Ib AA (ET i k ((AA.getD i []).getD k zD) (out,f)).1 j)/\U9 AA i (ET i k ((AA.getD i []).getD k zD) (out,f)).1 (ET i k ((AA.getD i []).getD k zD) (out,f)).2:=by
 obtain⟨d,hd⟩:∃d,d=(AA.getD i []).getD k zD:=⟨_,rfl⟩;rw[<-hd] at hok ⊢;by_cases h4:d.1=4
 . rw[ET,if_pos h4];exact⟨hG,hF⟩
 rw[ET,if_neg h4];dsimp only;obtain⟨r0,r1,r2,r3,r4⟩:=Bv hok;obtain⟨g,hg⟩:=Int.eq_ofNat_of_zero_le r2;obtain⟨hl,hf⟩:=hF
 have hcls:∃(c k':Nat) (rd':Bool) (pl' vl':Int),Co d.2.2.2 out.length f=(c:Int)/\c<=out.length/\(out++Ck i k d (Co d.2.2.2 out.length f))[c]? = some ((i:Int),(k':Int),rd',pl',vl',(c:Int))/\k'<(AA.getD i []).length /\
   (c≠out.length->d.2.2.2≠0/\((AA.getD i []).getD k' zD).2.2.2=d.2.2.2)/\(c=out.length->k'=k):=by
  obtain⟨rd,vl,ho,_,_⟩:=MN i k d (Co d.2.2.2 out.length f) h4
  have new:Co d.2.2.2 out.length f=(out.length:Int)->(out++Ck i k d (Co d.2.2.2 out.length f))[out.length]? = some ((i:Int),(k:Int),rd,d.2.1,vl,((out.length:Nat):Int)):=fun e=>by
   rw[List.getElem?_append_right (Nat.le_refl _),Nat.sub_self,ho,e]
  by_cases hg0:g=0
  ·
   have e:Co d.2.2.2 out.length f=(out.length:Int):=by unfold Co;rw[hg,if_neg (by omega)]
   exact⟨out.length,k,rd,d.2.1,vl,e,Nat.le_refl _,new e,hk,fun h=>absurd rfl h,fun _=>rfl⟩
  ·
   have gp:(0:Int)<d.2.2.2:=by rw[hg];omega
   have g10:g<10:=by rw[hg] at r3;omega
   rcases hf g (by omega) g10 with h0|⟨c,k',rd',pl',vl',e1,e2,e3,e4⟩
   ·
    have e:Co d.2.2.2 out.length f=(out.length:Int):=by
     unfold Co C8;rw[if_pos gp,hg,Int.toNat_natCast,if_pos ⟨by omega,h0⟩,B9 f g _ g (by omega),if_pos rfl]
    exact⟨out.length,k,rd,d.2.1,vl,e,Nat.le_refl _,new e,hk,fun h=>absurd rfl h,fun _=>rfl⟩
   ·
    have cl:c<out.length:=(List.getElem?_eq_some_iff.1 e2).1;by_cases hc0:(c:Int)=0
    ·
     have e:Co d.2.2.2 out.length f=(out.length:Int):=by
      unfold Co C8;rw[if_pos gp,hg,Int.toNat_natCast,if_pos ⟨by omega,by rw[e1];exact hc0⟩,B9 f g _ g (by omega),if_pos rfl]
     exact⟨out.length,k,rd,d.2.1,vl,e,Nat.le_refl _,new e,hk,fun h=>absurd rfl h,fun _=>rfl⟩
    ·
     have e:Co d.2.2.2 out.length f=(c:Int):=by
      unfold Co C8;rw[if_pos gp,hg,Int.toNat_natCast,if_neg (by rw[e1];omega),e1]
     exact⟨c,k',rd',pl',vl',e,by omega,IA _ e2,e3,fun _=>⟨by omega,by rw[e4,hg]⟩,fun h=>by omega⟩
 obtain⟨c,k',rd',pl',vl',hc,hcl,hce,hk',hcg,hcn⟩:=hcls;rw[hc] at hce ⊢;refine⟨fun j hj3 hj=>?_,?_⟩
 ·
  by_cases hold:j<out.length
  . exact (hG j hj3 hold).more _
  ·
   have e1:(out++Ck i k d (c:Int))[j]? = (Ck i k d (c:Int))[j-out.length]?:=List.getElem?_append_right (by omega);have hjl:j-out.length<(Ck i k d (c:Int)).length:=by rw[List.length_append] at hj;omega
   have form:∃rd vl,(Ck i k d (c:Int))[j-out.length]? = some ((i:Int),(k:Int),rd,d.2.1,vl,(c:Int))/\(rd=true->vl=0)/\(rd=false->vl=d.2.2.1)/\(j≠out.length->d.1=3):=by
    by_cases hz:j-out.length=0
    ·
     obtain⟨rd,vl,ho,h5,h6⟩:=MN i k d (c:Int) h4;exact⟨rd,vl,by rw[hz];exact ho,h5,h6,fun h=>by omega⟩
    ·
     unfold Ck at hjl ⊢;rw[if_neg h4] at hjl ⊢;split at hjl
     ·
      rename_i h3;rw[if_pos h3];have:j-out.length=1:=by simp at hjl;omega
      rw[this];exact⟨false,d.2.2.1,rfl,by simp,by simp,fun _=>h3⟩
     ·
      split at hjl
      . simp at hjl;omega
      . simp at hjl;omega
   obtain⟨rd,vl,h1,h5,h6,h7⟩:=form;refine⟨i,k,c,rd,vl,by rw[e1,<-hd];exact h1,hi,hk,h5,by rw[<-hd];exact h6,by omega,k',rd',pl',vl',hce,hk',fun hcj h3=>?_⟩;rw[<-hd] at h3 ⊢
   have:j=out.length:=by
    apply Classical.byContradiction;intro hne;exact h3 (h7 hne)
   exact hcg (by omega)
 ·
  refine⟨by unfold C8;split<;>simp[hl],fun q hq0 hq=>?_⟩
  have TI:f.getD q 0=0\/∃(c' k'':Nat) (rd'':Bool) (pl'' vl'':Int),f.getD q 0=(c':Int)/\(out++Ck i k d (c:Int))[c']? = some ((i:Int),(k'':Int),rd'',pl'',vl'',(c':Int))/\k''<(AA.getD i []).length/\((AA.getD i []).getD k'' zD).2.2.2=(q:Int):=by
   rcases hf q hq0 hq with h0|⟨c',k'',rd'',pl'',vl'',e1,e2,e3,e4⟩
   . exact .inl h0
   . exact .inr ⟨c',k'',rd'',pl'',vl'',e1,IA _ e2,e3,e4⟩
  unfold C8;split
  ·
   rename_i hcond;rw[hg,Int.toNat_natCast] at hcond ⊢;rw[B9 f g _ q (by rw[hg] at r3;omega)];by_cases e:g=q
   ·
    subst e;rw[if_pos rfl];right
    have ec:c=out.length:=by
     have:Co d.2.2.2 out.length f=(out.length:Int):=by
      unfold Co C8;rw[if_pos (by rw[hg];exact hcond.1),hg,Int.toNat_natCast,if_pos hcond,B9 f g _ g (by rw[hg] at r3;omega),if_pos rfl]
     omega
    have ek:=hcn ec;subst ek;refine⟨out.length,k',rd',pl',vl',rfl,?_,hk',by rw[<-hd,hg]⟩;rw[ec] at hce;rw[ec];exact hce
   . rw[if_neg e];exact TI
  . exact TI
theorem Pq {AA:List (List Dd)}{i:Nat}{out:List Ev}(hi:i<AA.length)(hok:∀j,j<(AA.getD i []).length->FZ ((AA.getD i []).getD j zD)=true)(hG:∀j,3<=j->j<out.length->Ib AA out j):
  ∀k:Nat,k<=(AA.getD i []).length->(∃t,(BO i (AA.getD i []) out k).1=out++t)/\(∀j,3<=j->j<(BO i (AA.getD i []) out k).1.length->Ib AA (BO i (AA.getD i []) out k).1 j)/\U9 AA i (BO i (AA.getD i []) out k).1 (BO i (AA.getD i []) out k).2
 | 0,_=>⟨⟨[],by simp[BO]⟩,hG,by simp[BO],fun g _ hg => .inl (by simp only[BO];rw[List.getD_eq_getElem?_getD,List.getElem?_replicate,if_pos hg];rfl)⟩
 |k+1,h=>by
  obtain⟨⟨t,ht⟩,h2,h3⟩:=Pq hi hok hG k (by omega);have:=Ut (k:=k) hi (by omega) (hok k (by omega)) h2 h3;refine⟨?_,this⟩;rw[BO,ET];split
  . exact⟨t,ht⟩
  . exact⟨t++Ck i k ((AA.getD i []).getD k zD) (Co ((AA.getD i []).getD k zD).2.2.2 (BO i (AA.getD i []) out k).1.length (BO i (AA.getD i []) out k).2),by simp only;rw[ht,List.append_assoc]⟩
theorem JP {AA:List (List Dd)}(hok:∀i,i<AA.length->Ft (AA.getD i [])=true):∀n:Nat,n<=AA.length->(∃t,Az AA n=B5++t)/\∀j,3<=j->j<(Az AA n).length->Ib AA (Az AA n) j
 | 0,_=>⟨⟨[],by simp[Az]⟩,fun j h1 h2=>by simp[Az,B5] at h2;omega⟩
 |n+1,h=>by
  obtain⟨⟨t,ht⟩,h2⟩:=JP hok n (by omega);have hn:=hok n (by omega);simp only[Ft,Bool.and_eq_true,decide_eq_true_eq] at hn;obtain⟨⟨t2,ht2⟩,h3,_⟩:=Pq (i:=n) (out:=Az AA n) (by omega) (fun j hj=>BR zD hn.1 j hj) h2 (AA.getD n []).length (Nat.le_refl _);rw[Az];exact⟨⟨t++t2,by rw[ht2,ht,List.append_assoc]⟩,h3⟩
def Aj (e:Ev):Bool:=e.2.2.1
def JC (p:Int)(e:Ev):Bool:=!e.2.2.1&&(e.2.2.2.1==p)
def Be (f:Ev->Bool)(l:List Ev):Nat->List Int
 | 0=>[]
 |k+1=>if f (l.getD k zE)=true then Be f l k++[(k:Int)] else Be f l k
def AX (f:Ev->Bool)(l:List Ev):List Int:=if l.length<=12 then Be f l l.length else []
def kR (l:List Ev):List Int:=if l.length<=12 then l.map Vu else []
theorem Cw (f:Ev->Bool)(l:List Ev):∀k:Nat,(Be f l k).length<=k
 | 0=>by simp[Be]
 |k+1=>by
  have ih:=Cw f l k;rw[Be];split
  . simp;omega
  . omega
theorem EI (f:Ev->Bool)(l:List Ev):∀(k:Nat) (x:Int),x∈Be f l k->0<=x/\x<(k:Int)
 | 0,x,h=>by simp[Be] at h
 |k+1,x,h=>by
  rw[Be] at h;split at h
  ·
   rcases List.mem_append.1 h with h|h
   . have:=EI f l k x h;omega
   . simp at h;omega
  . have:=EI f l k x h;omega
theorem GV (f:Ev->Bool)(l:List Ev):∀k:Nat,(Be f l k).Pairwise (·<·)
 | 0=>by simp[Be]
 |k+1=>by
  have ih:=GV f l k;rw[Be];split
  ·
   rw[List.pairwise_append];refine⟨ih,by simp,fun a ha b hb=>?_⟩;simp at hb;have:=EI f l k a ha;omega
  . exact ih
theorem Lx (f:Ev->Bool)(l:List Ev)(k:Nat):∀n:Nat,k<=n->∃t,Be f l n=Be f l k++t
 | 0,h=>by
  obtain rfl:k=0:=by omega
  exact⟨[],by simp⟩
 |n+1,h=>by
  by_cases e:k=n+1
  . subst e;exact⟨[],by simp⟩
  ·
   obtain⟨t,ht⟩:=Lx f l k n (by omega);rw[Be];split
   . exact⟨t++[(n:Int)],by rw[ht,List.append_assoc]⟩
   . exact⟨t,ht⟩
theorem TG {l:List Ev}:∀k:Nat,(∀j,j<k->0<=(l.getD j zE).2.2.2.1/\(l.getD j zE).2.2.2.1<=2)->(Be Aj l k).length+(Be (JC 0) l k).length+(Be (JC 1) l k).length+(Be (JC 2) l k).length=k
 | 0,_=>by simp[Be]
 |k+1,h=>by
  have ih:=TG (l:=l) k (fun j hj=>h j (by omega));have hp:=h k (by omega);obtain⟨e,he⟩:∃e,e=l.getD k zE:=⟨_,rfl⟩;rw[<-he] at hp;simp only[Be,<-he];clear he;obtain⟨a,b,r,p,v,c⟩:=e;simp only at hp;cases r
  ·
   have hr:Aj (a,b,false,p,v,c)=false:=rfl;have:p=0\/p=1\/p=2:=by omega
   rcases this with rfl|rfl|rfl
   ·
    have t0:JC 0 (a,b,false,0,v,c)=true:=rfl;have t1:JC 1 (a,b,false,0,v,c)=false:=rfl;have t2:JC 2 (a,b,false,0,v,c)=false:=rfl;simp only[hr,t0,t1,t2,if_true,Bool.false_eq_true,if_false,List.length_append,List.length_cons,List.length_nil];omega
   ·
    have t0:JC 0 (a,b,false,1,v,c)=false:=rfl;have t1:JC 1 (a,b,false,1,v,c)=true:=rfl;have t2:JC 2 (a,b,false,1,v,c)=false:=rfl;simp only[hr,t0,t1,t2,if_true,Bool.false_eq_true,if_false,List.length_append,List.length_cons,List.length_nil];omega
   ·
    have t0:JC 0 (a,b,false,2,v,c)=false:=rfl;have t1:JC 1 (a,b,false,2,v,c)=false:=rfl;have t2:JC 2 (a,b,false,2,v,c)=true:=rfl;simp only[hr,t0,t1,t2,if_true,Bool.false_eq_true,if_false,List.length_append,List.length_cons,List.length_nil];omega
  ·
   have hr:Aj (a,b,true,p,v,c)=true:=rfl;have t:∀q,JC q (a,b,true,p,v,c)=false:=fun _=>rfl
   simp only[hr,t,if_true,Bool.false_eq_true,if_false,List.length_append,List.length_cons,List.length_nil];omega
theorem Kg {l t:List Ev}(h:l=B5++t):l.getD 0 zE=(-1,-1,false,0,0,0)/\l.getD 1 zE=(-1,-1,false,1,0,1)/\l.getD 2 zE=(-1,-1,false,2,0,2):=by
 subst h;exact⟨rfl,rfl,rfl⟩
theorem UI {l t:List Ev}(h:l=B5++t)(p:Nat)(hp:p<3):∃r,Be (JC (p:Int)) l l.length=(p:Int)::r:=by
 obtain⟨h0,h1,h2⟩:=Kg h;have hl:3<=l.length:=by rw[h];simp[B5]
 obtain⟨r,hr⟩:=Lx (JC (p:Int)) l 3 l.length hl
 have e:∃q,Be (JC (p:Int)) l 3=(p:Int)::q:=by
  have:p=0\/p=1\/p=2:=by omega
  simp only[Be,h0,h1,h2,JC];rcases this with rfl|rfl|rfl
  . exact⟨[],by simp⟩
  . exact⟨[],by simp⟩
  . exact⟨[],by simp⟩
 obtain⟨q,hq⟩:=e;exact⟨q++r,by rw[hr,hq];rfl⟩
theorem Lo {AA:List (List Dd)}{out:List Ev}{j:Nat}(hok:∀i,i<AA.length->Ft (AA.getD i [])=true)(h:Ib AA out j):0<=(out.getD j zE).2.2.2.1/\(out.getD j zE).2.2.2.1<=2:=by
 obtain⟨i,k,c,rd,vl,h1,h2,h3,_⟩:=h;have hi:=hok i h2;simp only[Ft,Bool.and_eq_true,decide_eq_true_eq] at hi;have:=Bv (BR zD hi.1 k h3);rw[List.getD_eq_getElem?_getD,h1];exact⟨this.1,this.2.1⟩
theorem Ir {AA:List (List Dd)}(h:AW AA=true):(Az AA AA.length).length<=12/\((Az AA AA.length).length:Int)=3+Pw AA AA.length /\
  (Be Aj (Az AA AA.length) (Az AA AA.length).length).length+(Be (JC 0) (Az AA AA.length) (Az AA AA.length).length).length+(Be (JC 1) (Az AA AA.length) (Az AA AA.length).length).length+(Be (JC 2) (Az AA AA.length) (Az AA AA.length).length).length=(Az AA AA.length).length /\
  (∀p:Nat,p<3->∃r,Be (JC (p:Int)) (Az AA AA.length) (Az AA AA.length).length=(p:Int)::r)/\∀j,3<=j->j<(Az AA AA.length).length->Ib AA (Az AA AA.length) j:=by
 simp only[AW,Bool.and_eq_true,decide_eq_true_eq] at h;obtain⟨⟨⟨⟨h1,h2⟩,h3⟩,h4⟩,_⟩:=h;have hok:∀i,i<AA.length->Ft (AA.getD i [])=true:=fun i hi=>BR [] h2 i hi
 have hl:=Hf hok AA.length (Nat.le_refl _);obtain⟨⟨t,ht⟩,hg⟩:=JP hok AA.length (Nat.le_refl _);refine⟨by omega,hl,TG _ (fun j hj=>?_),fun p hp=>UI ht p hp,hg⟩;by_cases hj3:3<=j
 . exact Lo hok (hg j hj3 hj)
 ·
  obtain⟨b0,b1,b2⟩:=Kg ht;have:j=0\/j=1\/j=2:=by omega
  rcases this with rfl|rfl|rfl
  . rw[b0];decide
  . rw[b1];decide
  . rw[b2];decide
def GQ (ds:List Dd)(k:Nat):Bool:=decide (0<k)&&((ds.getD k zD).2.2.2 != 0)&&((ds.getD k zD).2.2.2==(ds.getD (k-1) zD).2.2.2)
def MC (out:List Ev):Int:=Vu (out.getD (out.length-1) zE)
def Mn (out:List Ev)(go:Bool):Int:=if go=true then MC out else (out.length:Int)
def Jn (i:Nat)(ds:List Dd)(out:List Ev):Nat->List Ev
 | 0=>out
 |k+1=>Jn i ds out k++Ck i k (ds.getD k zD) (Mn (Jn i ds out k) (GQ ds k))
def Ro (AA:List (List Dd)):Nat->List Ev
 | 0=>B5
 |i+1=>Jn i (AA.getD i []) (Ro AA i) (AA.getD i []).length
def pU (ds:List Dd):Prop:=∀k j,k<ds.length->j<k->(ds.getD k zD).2.2.2≠0->(ds.getD j zD).2.2.2=(ds.getD k zD).2.2.2->(ds.getD (k-1) zD).2.2.2=(ds.getD k zD).2.2.2
theorem P9 {i:Nat}{own:List Int}{ds:List Dd}(hl:own.length=10):∀(k:Nat) (o:List Int),Ch i own ds k=some o->(∀j,j<k->FZ (ds.getD j zD)=true) ->
  ∀j,j<k->(ds.getD j zD).2.2.2≠0->o.getD (ds.getD j zD).2.2.2.toNat 0=(i:Int)+1
 | 0,o,h,_,j,hj,_=>by omega
 |k+1,o',h,hok,j,hj,h0=>by
  rw[Ch] at h
  cases hq:Ch i own ds k with
  |none=>rw[hq] at h;cases h
  |some o=>
   rw[hq] at h;have ih:=P9 hl k o hq (fun j hj=>hok j (by omega));have hol:=JT hq;simp only at h;have okj:=Bv (hok j hj);split at h
   ·
    rename_i hz;simp only[Option.some.injEq] at h;subst h;by_cases e:j=k
    . subst e;exact absurd hz h0
    . exact ih j (by omega) h0
   ·
    rename_i hz;split at h
    . cases h
    ·
     simp only[Option.some.injEq] at h;subst h;have Ku:=Bv (hok k (by omega));rw[B9 o _ _ _ (by omega)];by_cases e:(ds.getD k zD).2.2.2.toNat=(ds.getD j zD).2.2.2.toNat
     . rw[if_pos e]
     ·
      rw[if_neg e];by_cases e2:j=k
      . subst e2;exact absurd rfl e
      . exact ih j (by omega) h0
theorem WG {i:Nat}{own:List Int}{ds:List Dd}(hl:own.length=10){o:List Int}(h:Ch i own ds ds.length=some o)(hok:∀j,j<ds.length->FZ (ds.getD j zD)=true):pU ds:=by
 intro k j hk hj h0 he
 have step:∃o',Ch i own ds (k+1)=some o':=by
  cases hq:Ch i own ds (k+1) with
  |none=>rw[Jt hq ds.length (by omega)] at h;cases h
  |some o'=>exact⟨o',rfl⟩
 obtain⟨o',ho'⟩:=step;rw[Ch] at ho'
 cases hq:Ch i own ds k with
 |none=>rw[hq] at ho';cases ho'
 |some o1=>
  rw[hq] at ho';have hown:=P9 hl k o1 hq (fun j hj=>hok j (by omega)) j hj (by rw[he];exact h0);rw[he] at hown;simp only at ho';rw[if_neg h0] at ho';split at ho'
  . cases ho'
  ·
   rename_i hn;apply Classical.byContradiction;intro hc;exact hn ⟨by rw[hown];omega,.inr (.inr hc)⟩
theorem Q6 {AA:List (List Dd)}(hb:AW AA=true):∀i,i<AA.length->pU (AA.getD i []):=by
 intro i hi;simp only[AW,Bool.and_eq_true,decide_eq_true_eq] at hb;obtain⟨⟨⟨⟨_,h2⟩,_⟩,_⟩,hg⟩:=hb;have hok:=BR [] h2 i hi;simp only[Ft,Bool.and_eq_true,decide_eq_true_eq] at hok
 have hs:∀n,n<=AA.length->∃o,EZ AA n=some o:=by
  intro n hn
  cases hq:EZ AA n with
  |none=>rw[JS,Ju hq AA.length hn] at hg;cases hg
  |some o=>exact⟨o,rfl⟩
 obtain⟨o,ho⟩:=hs i (by omega);obtain⟨o',ho'⟩:=hs (i+1) (by omega);rw[EZ,ho] at ho';exact WG (Lq ho) ho' (fun j hj=>BR zD hok.1 j hj)
theorem UN (out t:List Ev)(e:Ev):MC (out++(t++[e]))=Vu e:=by
 unfold MC;rw[<-List.append_assoc,List.length_append,List.getD_eq_getElem?_getD];simp
theorem NJ {i:Nat}{ds:List Dd}{out:List Ev}(ht:pU ds)(hok:∀j,j<ds.length->FZ (ds.getD j zD)=true)(ho:1<=out.length):
  ∀k:Nat,k<=ds.length->Jn i ds out k=(BO i ds out k).1/\(BO i ds out k).2.length=10/\1<=(BO i ds out k).1.length /\
   (∀g:Nat,0<g->g<10->(∀j,j<k->(ds.getD j zD).2.2.2≠(g:Int))->(BO i ds out k).2.getD g 0=0) /\
   (∀j,j<k->(ds.getD j zD).2.2.2≠0->(BO i ds out k).2.getD (ds.getD j zD).2.2.2.toNat 0≠0) /\
   (0<k->(ds.getD (k-1) zD).2.2.2≠0->(BO i ds out k).2.getD (ds.getD (k-1) zD).2.2.2.toNat 0=MC (BO i ds out k).1)
 | 0,_=>⟨rfl,by simp[BO],ho,fun g _ hg _=>by simp only[BO];rw[List.getD_eq_getElem?_getD,List.getElem?_replicate,if_pos hg];rfl,fun j hj=>by omega,fun h=>by omega⟩
 |k+1,hk=>by
  obtain⟨h1,h2,h3,h4,h5,h6⟩:=NJ ht hok ho k (by omega);have hd:=hok k (by omega);obtain⟨r0,r1,r2,r3,r4⟩:=Bv hd;have hkd:=CG hd;rw[Jn,BO,h1,Nat.add_sub_cancel];generalize hS:BO i ds out k=S at h2 h3 h4 h5 h6;obtain⟨L,f⟩:=S;simp only at h2 h3 h4 h5 h6;generalize hdd:ds.getD k zD=d at hd r0 r1 r2 r3 r4 hkd;have hg:GQ ds k=(decide (0<k)&&(d.2.2.2 != 0)&&(d.2.2.2==(ds.getD (k-1) zD).2.2.2)):=by rw[GQ,hdd]
  have old5:∀j,j<k->(ds.getD j zD).2.2.2≠0->(ds.getD j zD).2.2.2.toNat<10:=fun j hj _=>by
   have:=Bv (hok j (by omega));omega
  by_cases ko:d.1=4
  ·
   have g0:d.2.2.2=0:=r4 (by omega);have e1:Ck i k d (Mn L (GQ ds k))=[]:=by unfold Ck;rw[if_pos ko]
   rw[ET,if_pos ko,e1,List.append_nil];refine⟨rfl,h2,h3,fun g hg0 hg10 hn=>h4 g hg0 hg10 (fun j hj=>hn j (by omega)),fun j hj hne=>?_,fun _ hne=>absurd g0 hne⟩;by_cases e:j=k
   . subst e;rw[hdd] at hne;exact absurd g0 hne
   . exact h5 j (by omega) hne
  ·
   rw[ET,if_neg ko];by_cases g0:d.2.2.2=0
   ·
    have e1:Mn L (GQ ds k)=Co d.2.2.2 L.length f:=by
     rw[hg,g0];simp[Mn,Co]
    have e2:C8 d.2.2.2 L.length f=f:=by unfold C8;rw[if_neg (by rw[g0];omega)]
    rw[e1];simp only;rw[e2];refine⟨by trivial,h2,by rw[List.length_append];omega,fun g hg0 hg10 hn=>h4 g hg0 hg10 (fun j hj=>hn j (by omega)),fun j hj hne=>?_,fun _ hne=>absurd g0 hne⟩;by_cases e:j=k
    . subst e;rw[hdd] at hne;exact absurd g0 hne
    . exact h5 j (by omega) hne
   ·
    have gp:(0:Int)<d.2.2.2:=by omega
    have k2:d.1=1\/d.1=2:=by
     apply Classical.byContradiction;intro hn;exact g0 (r4 (by omega))
    have one:∀c,∃e,Ck i k d c=[e]/\Vu e=c:=by
     intro c;unfold Ck;rcases k2 with e|e
     . exact⟨_,by rw[if_neg ko,if_neg (by omega),if_neg (by omega)],rfl⟩
     . exact⟨_,by rw[if_neg ko,if_neg (by omega),if_pos e],rfl⟩
    have fin:∀c,MC (L++Ck i k d c)=c:=fun c=>by
     obtain⟨e,he,hc⟩:=one c;rw[he,<-hc];exact UN L [] e
    by_cases hgo:0<k/\(ds.getD (k-1) zD).2.2.2=d.2.2.2
    ·
     obtain⟨k0,hgo⟩:=hgo;have e0:GQ ds k=true:=by rw[hg,hgo];simp[k0,g0]
     have f0:f.getD d.2.2.2.toNat 0≠0:=by have:=h5 (k-1) (by omega) (by rw[hgo];exact g0);rw[hgo] at this;exact this
     have f1:f.getD d.2.2.2.toNat 0=MC L:=by have:=h6 k0 (by rw[hgo];exact g0);rw[hgo] at this;exact this
     have e2:C8 d.2.2.2 L.length f=f:=by unfold C8;rw[if_neg (fun h=>f0 h.2)]
     have e1:Mn L (GQ ds k)=Co d.2.2.2 L.length f:=by
      rw[e0];unfold Mn Co;rw[if_pos rfl,if_pos gp,e2,f1]
     have e3:Co d.2.2.2 L.length f=f.getD d.2.2.2.toNat 0:=by unfold Co;rw[if_pos gp,e2]
     rw[e1];simp only;rw[e2];refine⟨by trivial,h2,by rw[List.length_append];omega,fun g hg0 hg10 hn=>h4 g hg0 hg10 (fun j hj=>hn j (by omega)),fun j hj hne=>?_,fun _ _=>?_⟩
     ·
      by_cases e:j=k
      . subst e;rw[hdd];exact f0
      . exact h5 j (by omega) hne
     . rw[fin,e3]
    ·
     have none:∀j,j<k->(ds.getD j zD).2.2.2≠d.2.2.2:=by
      intro j hj he;refine hgo ⟨by omega,?_⟩;have:=ht k j (by omega) hj (by rw[hdd];exact g0) (by rw[hdd];exact he);rw[hdd] at this;exact this
     obtain⟨g,hgg⟩:=Int.eq_ofNat_of_zero_le r2;have g10:g<10:=by omega
     have f0:f.getD d.2.2.2.toNat 0=0:=by
      rw[hgg,Int.toNat_natCast];exact h4 g (by omega) g10 (fun j hj=>by rw[<-hgg];exact none j hj)
     have e0:GQ ds k=false:=by
      rw[hg];by_cases k0:0<k
      ·
       have:¬(d.2.2.2=(ds.getD (k-1) zD).2.2.2):=fun e=>hgo ⟨k0,e.symm⟩
       have e:(d.2.2.2==(ds.getD (k-1) zD).2.2.2)=false:=by simpa using this
       rw[e,Bool.and_false]
      . simp[k0]
     have e2:C8 d.2.2.2 L.length f=f.set d.2.2.2.toNat (L.length:Int):=by unfold C8;rw[if_pos ⟨gp,f0⟩]
     have e3:Co d.2.2.2 L.length f=(L.length:Int):=by
      unfold Co;rw[if_pos gp,e2,B9 f _ _ _ (by omega),if_pos rfl]
     have e1:Mn L (GQ ds k)=Co d.2.2.2 L.length f:=by rw[e0,e3];simp[Mn]
     rw[e1];simp only;rw[e2];refine⟨by trivial,by rw[List.length_set];exact h2,by rw[List.length_append];omega,fun q hq0 hq10 hn=>?_,fun j hj hne=>?_,fun _ _=>?_⟩
     ·
      have hqk:=hn k (by omega);rw[hdd] at hqk;rw[B9 f _ _ _ (by omega),if_neg (by omega)];exact h4 q hq0 hq10 (fun j hj=>hn j (by omega))
     ·
      by_cases e:j=k
      ·
       subst e;rw[hdd,B9 f _ _ _ (by omega),if_pos rfl];omega
      ·
       have nj:=none j (by omega);have okj:=Bv (hok j (by omega));rw[B9 f _ _ _ (by omega),if_neg (by omega)];exact h5 j (by omega) hne
     . rw[fin,e3,B9 f _ _ _ (by omega),if_pos rfl]
theorem NO {AA:List (List Dd)}(hb:AW AA=true):∀n:Nat,n<=AA.length->Ro AA n=Az AA n/\1<=(Az AA n).length
 | 0,_=>⟨rfl,by simp[Az,B5]⟩
 |n+1,h=>by
  obtain⟨h1,h2⟩:=NO hb n (by omega);have ht:=Q6 hb n (by omega);simp only[AW,Bool.and_eq_true,decide_eq_true_eq] at hb;obtain⟨⟨⟨⟨_,ha⟩,_⟩,_⟩,_⟩:=hb;have hok:=BR [] ha n (by omega);simp only[Ft,Bool.and_eq_true,decide_eq_true_eq] at hok;obtain⟨q1,_,q3,_⟩:=NJ (i:=n) ht (fun j hj=>BR zD hok.1 j hj) h2 (AA.getD n []).length (Nat.le_refl _);rw[Ro,Az,h1,q1];exact⟨rfl,q3⟩
theorem VX (a i:Nat)(ha:a<4096):Ya (a:Int) (i:Int)=a.testBit i:=by
 unfold Ya;have hd:a / 2 ^ i<=a:=Nat.div_le_self _ _;have e:((a:Int) / 2 ^ (i:Int).toNat)=((a / 2 ^ i:Nat):Int):=by simp
 rw[e,show (1:Int)=((1:Nat):Int) from rfl,KE _ _ (by omega) (by omega),Nat.and_one_is_mod,Nat.testBit_eq_decide_div_mod_eq];generalize a / 2 ^ i % 2=r;rw[Bool.eq_iff_iff,beq_iff_eq,decide_eq_true_eq];omega
theorem BT (a i:Nat)(ha:a<4096)(hi:i<12):BK (a:Int) (i:Int)=a.testBit i:=by
 have h1:CX (i:Int) 0 11=true:=by unfold CX;simp;omega
 have h2:CX (a:Int) 0 4095=true:=by unfold CX;simp;omega
 simp[BK,h1,h2,VX a i ha]
theorem Pz (a i:Nat)(ha:a<4096)(hi:i<12):Fo (a:Int) (i:Int)=((a ||| 2 ^ i:Nat):Int):=by
 have h1:CX (i:Int) 0 11=true:=by unfold CX;simp;omega
 rw[Yq _ _ (by omega) h1,Mm _ (by omega) (by omega)];have hq:(2:Nat) ^ i<2 ^ 12:=Nat.pow_lt_pow_right (by omega) hi;have e:((2:Int) ^ (i:Int).toNat)=((2 ^ i:Nat):Int):=by simp
 rw[e,Iu a _ (by omega) (by omega)]
theorem Z2 (a i:Nat)(ha:a<4096)(hi:i<12):a ||| 2 ^ i<4096:=by
 have hq:(2:Nat) ^ i<2 ^ 12:=Nat.pow_lt_pow_right (by omega) hi;exact Nat.or_lt_two_pow (n:=12) ha hq
theorem qb (s:Int)(n:Nat)(x:Int):x∈qa s n↔∃k:Nat,k<n/\x=k/\BK s k=true:=by
 induction n with
 |zero=>simp[qa]
 |succ n ih=>
  unfold qa;rw[List.mem_append,ih];constructor
  ·
   rintro (⟨k,hk,rfl,h⟩|h)
   . exact⟨k,by omega,rfl,h⟩
   ·
    split at h
    ·
     rename_i hs;simp at h;exact⟨n,by omega,h,hs⟩
    . simp at h
  ·
   rintro⟨k,hk,rfl,h⟩;by_cases hkn:k=n
   . subst hkn;right;simp[h]
   . exact .inl ⟨k,by omega,rfl,h⟩
def J5 (zs:List Int):Bool:=zs.all (IX zs.length)
def gy (a b:List Int):Bool:=decide (a.length=b.length)&&J5 a&&J5 b
def Gf (f:Int->Int->Int)(a b:List Int):List Int:=if gy a b=true then List.zipWith f a b else []
def Kv (a b:Int):Int:=bits .or .i64 a b
def US (a b:Int):Int:=bits .andNot .i64 a b
def aB (x:Int)(b:List Int):Nat->Int
 | 0=>0
 |k+1=>if BK x k=true then Kv (aB x b k) (b.getD k 0) else aB x b k
def Ei (k:Nat)(st:List Int):Nat->List Int
 | 0=>st
 |i+1=>if BK ((Ei k st i).getD i 0) k=true then (Ei k st i).set i (Kv ((Ei k st i).getD i 0) ((Ei k st i).getD k 0)) else Ei k st i
def Cm (zs:List Int):Nat->List Int
 | 0=>zs
 |k+1=>Ei k (Cm zs k) zs.length
def Qz (zs:List Int):List Int:=if J5 zs=true then Cm zs zs.length else []
theorem P0 {zs:List Int}{i:Nat}(h:i<zs.length):zs.getD i 0∈zs:=by
 rw[List.getD_eq_getElem?_getD,List.getElem?_eq_getElem h];exact List.getElem_mem h
theorem Xb {zs:List Int}(h:∀i,i<zs.length->IX zs.length (zs.getD i 0)=true):J5 zs=true:=by
 unfold J5;rw[List.all_eq_true];intro x hx;obtain⟨i,hi,rfl⟩:=List.getElem_of_mem hx;have:=h i hi
 rwa [List.getD_eq_getElem?_getD,List.getElem?_eq_getElem hi] at this
theorem Q0 {zs:List Int}(h:J5 zs=true){i:Nat}(hi:i<zs.length):IX zs.length (zs.getD i 0)=true:=by
 unfold J5 at h;rw[List.all_eq_true] at h;exact h _ (P0 hi)
theorem Kt {n s:Int}:IX n s=true↔(0<=n/\n<=12)/\0<=s/\s<2 ^ n.toNat:=by unfold IX;rw[decide_eq_true_eq]
theorem Xc {zs:List Int}(h:J5 zs=true):zs.length<=12:=by
 by_cases h0:zs.length=0
 . omega
 . have:=Kt.1 (Q0 h (i:=0) (by omega));omega
theorem UX {n s:Int}(h:IX n s=true):0<=s/\s<=4095:=by
 have h1:=Kt.1 h;have:=Qe n.toNat (by omega);omega
theorem XT {a b:List Int}:gy a b=true↔a.length=b.length/\J5 a=true/\J5 b=true:=by
 unfold gy;rw[Bool.and_eq_true,Bool.and_eq_true,decide_eq_true_eq,and_assoc]
theorem Fg {n:Nat}{s:Int}(h:IX n s=true):n<=12/\∃a:Nat,s=a/\a<2 ^ n/\a<4096:=by
 have h1:=Kt.1 h;have h2:=UX h;obtain⟨a,rfl⟩:=Int.eq_ofNat_of_zero_le h2.1;refine⟨by omega,a,rfl,?_,by omega⟩;have:=h1.2.2;simp at this
 exact_mod_cast this
theorem Gk {n a:Nat}(hn:n<=12)(ha:a<2 ^ n):IX n a=true:=by
 rw[Kt];refine⟨by omega,by omega,?_⟩;simp
 exact_mod_cast ha
theorem Rx {n:Nat}{s:Int}(h:IX n s=true){j:Nat}(hj:BK s j=true):j<n:=by
 obtain⟨hn,a,rfl,ha,h12⟩:=Fg h
 have hj12:j<12:=by
  have:CX (j:Int) 0 11=true:=by unfold BK at hj;simp at hj;exact hj.1.1
  unfold CX at this;simp at this;omega
 rw[BT a j h12 hj12] at hj;apply Classical.byContradiction;intro hnj;have hp:(2:Nat) ^ n<=2 ^ j:=Nat.pow_le_pow_right (by omega) (by omega);rw[Nat.testBit_lt_two_pow (by omega)] at hj;cases hj
theorem Ci (s:Int){j:Nat}(hj:12<=j):BK s j=false:=by
 have:CX (j:Int) 0 11=false:=by unfold CX;simp;omega
 simp[BK,this]
theorem gH {n:Nat}{s t:Int}(hs:IX n s=true)(ht:IX n t=true)(h:∀j:Nat,j<n->BK s j=BK t j):s=t:=by
 obtain⟨hn,a,rfl,ha,ha'⟩:=Fg hs;obtain⟨_,b,rfl,hb,hb'⟩:=Fg ht
 congr 1
 apply Nat.eq_of_testBit_eq;intro j;by_cases hj:j<n
 ·
  have:=h j hj
  rwa [BT a j ha' (by omega),BT b j hb' (by omega)] at this
 ·
  have hp:(2:Nat) ^ n<=2 ^ j:=Nat.pow_le_pow_right (by omega) (by omega);rw[Nat.testBit_lt_two_pow (by omega),Nat.testBit_lt_two_pow (by omega)]
theorem TV {n:Nat}(hn:n<=12):IX n 0=true:=Gk (a:=0) hn (Nat.two_pow_pos n)
theorem Q8 (j:Nat):BK 0 j=false:=by
 by_cases hj:j<12
 . rw[show (0:Int)=((0:Nat):Int) from rfl,BT 0 j (by omega) hj,Nat.zero_testBit]
 . exact Ci _ (by omega)
theorem Lv (a b:Nat)(ha:a<9223372036854775808)(hb:b<9223372036854775808):bits .andNot .i64 (a:Int) (b:Int)=((a &&& (18446744073709551615-b):Nat):Int):=by
 have hx:a &&& (18446744073709551615-b)<=a:=Nat.and_le_left;show IntKind.i64.wrap ((BitVec.ofInt 64 (a:Int) &&& ~~~ BitVec.ofInt 64 (b:Int)).toNat:Int)=_;rw[BitVec.toNat_and,BitVec.toNat_not,Eu a ha,Eu b hb,IntKind.wrap_i64,show (2:Nat) ^ 64-1-b=18446744073709551615-b from rfl];omega
theorem Wp {n:Nat}{s t:Int}(hs:IX n s=true)(ht:IX n t=true):IX n (Kv s t)=true/\∀j:Nat,BK (Kv s t) j=(BK s j||BK t j):=by
 obtain⟨hn,a,rfl,ha,ha'⟩:=Fg hs;obtain⟨_,b,rfl,hb,hb'⟩:=Fg ht;have e:Kv (a:Int) (b:Int)=((a ||| b:Nat):Int):=Iu a b (by omega) (by omega);have hl:a ||| b<2 ^ n:=Nat.or_lt_two_pow ha hb;have hl':a ||| b<4096:=Nat.or_lt_two_pow (n:=12) ha' hb';rw[e];refine⟨Gk hn hl,fun j=>?_⟩;by_cases hj:j<12
 . rw[BT _ j hl' hj,BT _ j ha' hj,BT _ j hb' hj,Nat.testBit_or]
 . rw[Ci _ (by omega),Ci _ (by omega),Ci _ (by omega)];rfl
theorem gI {n:Nat}{s t:Int}(hs:IX n s=true)(ht:IX n t=true):IX n (US s t)=true/\∀j:Nat,BK (US s t) j=(BK s j&&!BK t j):=by
 obtain⟨hn,a,rfl,ha,ha'⟩:=Fg hs;obtain⟨_,b,rfl,hb,hb'⟩:=Fg ht;have e:US (a:Int) (b:Int)=((a &&& (18446744073709551615-b):Nat):Int):=Lv a b (by omega) (by omega);have hl:a &&& (18446744073709551615-b)<=a:=Nat.and_le_left;rw[e];refine⟨Gk hn (by omega),fun j=>?_⟩;by_cases hj:j<12
 ·
  have h2:(18446744073709551615-b).testBit j=!b.testBit j:=by
   have e2:18446744073709551615-b=2 ^ 64-(b+1):=by omega
   rw[e2,Nat.testBit_two_pow_sub_succ (by omega)];have:j<64:=by omega
   simp[this]
  rw[BT _ j (by omega) hj,BT _ j ha' hj,BT _ j hb' hj,Nat.testBit_and,h2]
 . rw[Ci _ (by omega),Ci _ (by omega),Ci _ (by omega)];rfl
theorem Ou {n:Nat}{s:Int}(hs:IX n s=true){i:Nat}(hi:i<n):IX n (Fo s i)=true/\∀j:Nat,BK (Fo s i) j=(BK s j||decide (i=j)):=by
 obtain⟨hn,a,rfl,ha,ha'⟩:=Fg hs;rw[Pz a i ha' (by omega)];have hp:(2:Nat) ^ i<2 ^ n:=Nat.pow_lt_pow_right (by omega) hi;have hl:a ||| 2 ^ i<2 ^ n:=Nat.or_lt_two_pow ha hp;refine⟨Gk hn hl,fun j=>?_⟩;by_cases hj:j<12
 . rw[BT _ j (Z2 a i ha' (by omega)) hj,BT _ j ha' hj,Nat.testBit_or,Nat.testBit_two_pow]
 ·
  have:¬i=j:=by omega
  rw[Ci _ (by omega),Ci _ (by omega)];simp[this]
def C5 (n:Nat)(zs:List Int):Prop:=n<=12/\zs.length=n/\∀i,i<n->IX n (zs.getD i 0)=true
theorem ZX {zs:List Int}:J5 zs=true↔C5 zs.length zs:=by
 constructor
 . intro h;exact⟨Xc h,rfl,fun i hi=>Q0 h hi⟩
 . intro h;exact Xb h.2.2
theorem C5.b {n:Nat}{zs:List Int}(h:C5 n zs):J5 zs=true:=by
 obtain⟨h1,rfl,h2⟩:=h;exact ZX.2 ⟨h1,rfl,h2⟩
theorem Wa {n:Nat}{a b:List Int}(ha:a.length=n)(hb:b.length=n)(h:∀i,i<n->a.getD i 0=b.getD i 0):a=b:=by
 apply List.ext_getElem (by omega);intro i h1 h2;have:=h i (by omega);rw[List.getD_eq_getElem?_getD,List.getD_eq_getElem?_getD,List.getElem?_eq_getElem h1,List.getElem?_eq_getElem h2] at this;exact this
def Ap (zs:List Int)(i j:Nat):Bool:=BK (zs.getD i 0) j
theorem C5.ext {n:Nat}{a b:List Int}(ha:C5 n a)(hb:C5 n b)(h:∀i j,i<n->j<n->Ap a i j=Ap b i j):a=b:=
 Wa ha.2.1 hb.2.1 fun i hi=>gH (ha.2.2 i hi) (hb.2.2 i hi) fun j hj=>h i j hi hj
theorem C5.lt {n:Nat}{a:List Int}(ha:C5 n a){i j:Nat}(hi:i<n)(h:Ap a i j=true):j<n:=Rx (ha.2.2 i hi) h
theorem FI (zs:List Int)(i j:Nat)(x:Int)(hi:i<zs.length):(zs.set i x).getD j 0=if i=j then x else zs.getD j 0:=by
 rw[List.getD_eq_getElem?_getD,List.getD_eq_getElem?_getD,List.getElem?_set];by_cases h:i=j
 . subst h;simp[hi]
 . simp[h]
theorem C5.set {n:Nat}{a:List Int}(ha:C5 n a){i:Nat}{x:Int}(hx:IX n x=true):C5 n (a.set i x):=by
 obtain⟨h1,h2,h3⟩:=ha;refine⟨h1,by simp[h2],fun j hj=>?_⟩;by_cases hi:i<a.length
 ·
  rw[FI a i j x hi];split
  . exact hx
  . exact h3 j hj
 . rw[List.set_eq_of_length_le (by omega)];exact h3 j hj
theorem C5.zero {n:Nat}(hn:n<=12):C5 n (List.replicate n 0):=by
 refine⟨hn,by simp,fun i hi=>?_⟩;rw[List.getD_eq_getElem?_getD,List.getElem?_replicate,if_pos hi];exact TV hn
theorem IB (n i j:Nat):Ap (List.replicate n 0) i j=false:=by
 unfold Ap;rw[List.getD_eq_getElem?_getD,List.getElem?_replicate];split<;>exact Q8 j
theorem OC {n k:Nat}{st:List Int}(hk:k<n)(hst:C5 n st)(m:Nat)(hm:m<=n):
  C5 n (Ei k st m)/\∀i j:Nat,i<n->Ap (Ei k st m) i j=(Ap st i j||(decide (i<m)&&Ap st i k&&Ap st k j)):=by
 induction m with
 |zero=>exact⟨hst,fun i j _=>by simp[Ei]⟩
 |succ m ih=>
  have ih:=ih (by omega);have hmn:m<n:=by omega
  have hkk:∀j,Ap (Ei k st m) k j=Ap st k j:=by
   intro j;rw[ih.2 k j hk];cases Ap st k j<;>simp
  have hmk:Ap (Ei k st m) m k=Ap st m k:=by rw[ih.2 m k hmn];simp
  have tT:∀j,Ap (Ei k st m) m j=Ap st m j:=by intro j;rw[ih.2 m j hmn];simp
  unfold Ei
  cases hb:BK ((Ei k st m).getD m 0) k with
  |false=>
   have hb':Ap st m k=false:=by rw[<-hmk];exact hb
   refine⟨by simpa using ih.1,fun i j hi=>?_⟩;simp only[Bool.false_eq_true,if_false];rw[ih.2 i j hi];by_cases e:i=m
   . subst e;simp[hb']
   ·
    have:(i<m+1)↔i<m:=by omega
    simp[this]
  |true=>
   have hb':Ap st m k=true:=by rw[<-hmk];exact hb
   have ho:=Wp (ih.1.2.2 m hmn) (ih.1.2.2 k hk);refine⟨by simpa using ih.1.set ho.1,fun i j hi=>?_⟩;simp only[if_true];have e1:=ih.2 i j hi;have e2:=hkk j;have e3:=tT j;unfold Ap at e1 e2 e3 ⊢;rw[FI _ _ _ _ (by rw[ih.1.2.1];exact hmn)];by_cases e:m=i
   ·
    subst e;simp only[if_true];rw[ho.2 j,e2,e3];unfold Ap at hb';rw[hb'];simp
   ·
    have:(i<m+1)↔i<m:=by omega
    simp only[e,if_false];rw[e1];simp[this]
theorem Se {n:Nat}{zs:List Int}(hz:C5 n zs)(m:Nat)(hm:m<=n):C5 n (Cm zs m):=by
 induction m with
 |zero=>exact hz
 |succ m ih=>
  show C5 n (Ei m (Cm zs m) zs.length);rw[hz.2.1];exact (OC (by omega) (ih (by omega)) n (Nat.le_refl _)).1
theorem ER {n:Nat}{zs:List Int}(hz:C5 n zs)(m:Nat)(hm:m<n){i:Nat}(hi:i<n)(j:Nat):
  Ap (Cm zs (m+1)) i j=(Ap (Cm zs m) i j||(Ap (Cm zs m) i m&&Ap (Cm zs m) m j)):=by
 show Ap (Ei m (Cm zs m) zs.length) i j=_;rw[hz.2.1,(OC hm (Se hz m (by omega)) n (Nat.le_refl _)).2 i j hi];simp[hi]
def Fx (p:Nat->Nat->Bool)(i:Nat)(st:List Int):Nat->List Int
 | 0=>st
 |k+1=>if p i k=true then (Fx p i st k).set i (Fo ((Fx p i st k).getD i 0) k) else Fx p i st k
def Jk (p:Nat->Nat->Bool)(n:Nat):Nat->List Int
 | 0=>List.replicate n 0
 |i+1=>Fx p i (Jk p n i) n
def VY (k:Nat):Int:=wrap64 (2 ^ (k:Int).toNat)
def GF (p:Nat->Nat->Bool)(i:Nat)(st:List Int):Nat->List Int
 | 0=>st
 |k+1=>if p i k=true then (GF p i st k).set i (US ((GF p i st k).getD i 0) (VY k)) else GF p i st k
def Hl (p:Nat->Nat->Bool)(n:Nat)(st:List Int):Nat->List Int
 | 0=>st
 |i+1=>GF p i (Hl p n st i) n
theorem To {p:Nat->Nat->Bool}{i k:Nat}(st:List Int)(h:p i k=true):Fx p i st (k+1)=(Fx p i st k).set i (Fo ((Fx p i st k).getD i 0) k):=if_pos h
theorem RY {p:Nat->Nat->Bool}{i k:Nat}(st:List Int)(h:p i k=false):Fx p i st (k+1)=Fx p i st k:=if_neg (by simp[h])
theorem UW {p:Nat->Nat->Bool}{i k:Nat}(st:List Int)(h:p i k=true):GF p i st (k+1)=(GF p i st k).set i (US ((GF p i st k).getD i 0) (VY k)):=if_pos h
theorem SQ {p:Nat->Nat->Bool}{i k:Nat}(st:List Int)(h:p i k=false):GF p i st (k+1)=GF p i st k:=if_neg (by simp[h])
theorem Va:∀k:Nat,k<12->VY k=Fo 0 k:=by decide +kernel
theorem gG {n k:Nat}(hn:n<=12)(hk:k<n):IX n (VY k)=true/\∀j:Nat,BK (VY k) j=decide (k=j):=by
 rw[Va k (by omega)];have h:=Ou (TV hn) hk;exact⟨h.1,fun j=>by rw[h.2 j,Q8];simp⟩
theorem N3 {p:Nat->Nat->Bool}{n i:Nat}{st:List Int}(hi:i<n)(hst:C5 n st):∀m:Nat,m<=n ->
  C5 n (Fx p i st m)/\∀a j:Nat,a<n->Ap (Fx p i st m) a j=(Ap st a j||(decide (i=a)&&decide (j<m)&&p i j))
 | 0,_=>⟨hst,fun a j _=>by simp[Fx]⟩
 |m+1,hm=>by
  have ih:=N3 hi hst m (by omega) (p:=p)
  cases hp:p i m with
  |false=>
   rw[RY st hp];refine⟨ih.1,fun a j ha=>?_⟩;rw[ih.2 a j ha];by_cases e:j=m
   . subst e;simp[hp]
   ·
    have d:decide (j<m+1)=decide (j<m):=decide_eq_decide.2 (by omega);rw[d]
  |true=>
   rw[To st hp];have ha:=Ou (ih.1.2.2 i hi) (show m<n by omega);refine⟨ih.1.set ha.1,fun a j Xq=>?_⟩;have e1:=ih.2 a j Xq;unfold Ap at e1 ⊢;rw[FI _ _ _ _ (by rw[ih.1.2.1];exact hi)];by_cases e:i=a
   ·
    subst e;simp only[if_true];rw[ha.2 j,e1];by_cases e2:m=j
    . subst e2;simp[hp]
    ·
     have d:decide (j<m+1)=decide (j<m):=decide_eq_decide.2 (by omega);rw[d];simp[e2]
   . simp only[e,if_false];rw[e1];simp[e]
theorem Mh {p:Nat->Nat->Bool}{n:Nat}(hn:n<=12):∀m:Nat,m<=n ->
  C5 n (Jk p n m)/\∀a j:Nat,a<n->Ap (Jk p n m) a j=(decide (a<m)&&decide (j<n)&&p a j)
 | 0,_=>⟨C5.zero hn,fun a j _=>by unfold Jk;rw[IB];simp⟩
 |m+1,hm=>by
  have ih:=Mh hn m (by omega) (p:=p);have h1:=N3 (p:=p) (show m<n by omega) ih.1 n (Nat.le_refl _);refine⟨h1.1,fun a j ha=>?_⟩;show Ap (Fx p m (Jk p n m) n) a j=_;rw[h1.2 a j ha,ih.2 a j ha];by_cases e:m=a
  . subst e;simp
  ·
   have d:decide (a<m+1)=decide (a<m):=decide_eq_decide.2 (by omega);rw[d];simp[e]
theorem N4 {p:Nat->Nat->Bool}{n i:Nat}{st:List Int}(hi:i<n)(hst:C5 n st):∀m:Nat,m<=n ->
  C5 n (GF p i st m)/\∀a j:Nat,a<n->Ap (GF p i st m) a j=(Ap st a j&&!(decide (i=a)&&decide (j<m)&&p i j))
 | 0,_=>⟨hst,fun a j _=>by simp[GF]⟩
 |m+1,hm=>by
  have ih:=N4 hi hst m (by omega) (p:=p)
  cases hp:p i m with
  |false=>
   rw[SQ st hp];refine⟨ih.1,fun a j ha=>?_⟩;rw[ih.2 a j ha];by_cases e:j=m
   . subst e;simp[hp]
   ·
    have d:decide (j<m+1)=decide (j<m):=decide_eq_decide.2 (by omega);rw[d]
  |true=>
   rw[UW st hp];have hb:=gG hst.1 (show m<n by omega);have ha:=gI (ih.1.2.2 i hi) hb.1;refine⟨ih.1.set ha.1,fun a j Xq=>?_⟩;have e1:=ih.2 a j Xq;unfold Ap at e1 ⊢;rw[FI _ _ _ _ (by rw[ih.1.2.1];exact hi)];by_cases e:i=a
   ·
    subst e;simp only[if_true];rw[ha.2 j,e1,hb.2 j];by_cases e2:m=j
    . subst e2;simp[hp]
    ·
     have d:decide (j<m+1)=decide (j<m):=decide_eq_decide.2 (by omega);rw[d];simp[e2]
   . simp only[e,if_false];rw[e1];simp[e]
theorem Gn {p:Nat->Nat->Bool}{n:Nat}{st:List Int}(hst:C5 n st):∀m:Nat,m<=n ->
  C5 n (Hl p n st m)/\∀a j:Nat,a<n->Ap (Hl p n st m) a j=(Ap st a j&&!(decide (a<m)&&decide (j<n)&&p a j))
 | 0,_=>⟨hst,fun a j _=>by simp[Hl]⟩
 |m+1,hm=>by
  have ih:=Gn hst m (by omega) (p:=p);have h1:=N4 (p:=p) (show m<n by omega) ih.1 n (Nat.le_refl _);refine⟨h1.1,fun a j ha=>?_⟩;show Ap (GF p m (Hl p n st m) n) a j=_;rw[h1.2 a j ha,ih.2 a j ha];by_cases e:m=a
  . subst e;simp
  ·
   have d:decide (a<m+1)=decide (a<m):=decide_eq_decide.2 (by omega);rw[d];simp[e]
def KU (es:List Ev)(i k:Nat):Bool:=decide (i<k)&&((decide (i<3)&&decide (3<=k))||(decide (3<=i)&&((es.getD i zE).1==(es.getD k zE).1)))
def Rf (es:List Ev):List Int:=Jk (KU es) es.length es.length
def ZK (es:List Ev)(i k:Nat):Bool:=(es.getD i zE).2.2.2.1 != (es.getD k zE).2.2.2.1
def Wu (es:List Ev):List Int:=Hl (ZK es) es.length (Rf es) es.length
theorem YZ {es:List Ev}{i j:Nat}(h:j<=i):KU es i j=false:=by unfold KU;simp;omega
theorem LX {es:List Ev}(h:es.length<=12):C5 es.length (Rf es)/\∀a j:Nat,a<es.length->Ap (Rf es) a j=(decide (j<es.length)&&KU es a j):=by
 have h1:=Mh (p:=KU es) h es.length (Nat.le_refl _);exact⟨h1.1,fun a j ha=>by unfold Rf;rw[h1.2 a j ha];simp[ha]⟩
theorem Qd {es:List Ev}(h:es.length<=12):C5 es.length (Wu es)/\∀a j:Nat,a<es.length->Ap (Wu es) a j=(decide (j<es.length)&&KU es a j&&!ZK es a j):=by
 have h1:=LX h;have h2:=Gn (p:=ZK es) h1.1 es.length (Nat.le_refl _);refine⟨h2.1,fun a j ha=>?_⟩;unfold Wu;rw[h2.2 a j ha,h1.2 a j ha];by_cases hj:j<es.length
 . simp[ha,hj]
 . simp[hj]
def Ee (d:Dd):Bool:=(d.1==3)||decide (0<d.2.2.2)
def PL (ds:List Dd)(lo hi:Nat):Bool:=(List.range hi).any (fun j=>decide (lo<j)&&((ds.getD j zD).1==4))
theorem Uv {ds:List Dd}{lo hi:Nat}(h:∀j,lo<j->j<hi->(ds.getD j zD).1≠4):PL ds lo hi=false:=by
 unfold PL;rw[List.any_eq_false];intro j hj;rw[List.mem_range] at hj;by_cases hl:lo<j
 ·
  have:=h j hl hj;simp[hl];simpa using this
 . simp[hl]
def jA (AA:List (List Dd))(e:Ev):Dd:=(AA.getD e.1.toNat []).getD e.2.1.toNat zD
def mI (AA:List (List Dd))(a b:Ev):Bool:=!(Aj a)&&Aj b&&(Vu a != Vu b)&&(!PL (AA.getD a.1.toNat []) a.2.1.toNat b.2.1.toNat&&!Ee (jA AA a)&&!Ee (jA AA b))
def UM (AA:List (List Dd))(es:List Ev)(i k:Nat):Bool:=decide (3<=i)&&KU es i k&&mI AA (es.getD i zE) (es.getD k zE)
def WW (AA:List (List Dd))(es:List Ev):List Int:=Hl (UM AA es) es.length (Rf es) es.length
theorem WX {AA:List (List Dd)}{es:List Ev}(h:es.length<=12):C5 es.length (WW AA es)/\∀a j:Nat,a<es.length->Ap (WW AA es) a j=(decide (j<es.length)&&KU es a j&&!UM AA es a j):=by
 have h1:=LX h;have h2:=Gn (p:=UM AA es) h1.1 es.length (Nat.le_refl _);refine⟨h2.1,fun a j ha=>?_⟩;unfold WW;rw[h2.2 a j ha,h1.2 a j ha];by_cases hj:j<es.length
 . simp[ha,hj]
 . simp[hj]
abbrev An (AA:List (List Dd))(c k:Nat):Dd:=(AA.getD c []).getD k zD
def Ag (AA:List (List Dd))(c k:Nat):Nat:=(BO c (AA.getD c []) (Az AA c) k).1.length
def FO (d:Dd):Nat:=if d.1=4 then 0 else if d.1=3 then 2 else 1
theorem Wr (i k:Nat)(d:Dd)(c:Int):(Ck i k d c).length=FO d:=by
 unfold Ck FO;split
 . rfl
 ·
  split
  . rfl
  . split<;>rfl
def DZ (AA:List (List Dd))(c k:Nat):Int:=Co (An AA c k).2.2.2 (Ag AA c k) (BO c (AA.getD c []) (Az AA c) k).2
theorem Lh (AA:List (List Dd))(c k:Nat):(BO c (AA.getD c []) (Az AA c) (k+1)).1=(BO c (AA.getD c []) (Az AA c) k).1++Ck c k (An AA c k) (DZ AA c k):=by
 rw[BO,ET];split
 ·
  rename_i h;have e:Ck c k (An AA c k) (DZ AA c k)=[]:=by unfold Ck;rw[if_pos h]
  rw[e,List.append_nil]
 . rfl
theorem MJ (AA:List (List Dd))(c k:Nat):Ag AA c (k+1)=Ag AA c k+FO (An AA c k):=by
 unfold Ag;rw[Lh,List.length_append,Wr]
theorem MK (AA:List (List Dd))(c:Nat):Ag AA c 0=(Az AA c).length:=rfl
theorem TU (AA:List (List Dd))(c:Nat):(Az AA (c+1)).length=Ag AA c (AA.getD c []).length:=rfl
theorem Kk (AA:List (List Dd))(c k:Nat):∀n:Nat,k<=n->∃t,(BO c (AA.getD c []) (Az AA c) n).1=(BO c (AA.getD c []) (Az AA c) k).1++t
 | 0,h=>by
  obtain rfl:k=0:=by omega
  exact⟨[],by simp⟩
 |n+1,h=>by
  by_cases e:k=n+1
  . subst e;exact⟨[],by simp⟩
  ·
   obtain⟨t,ht⟩:=Kk AA c k n (by omega);exact⟨t++Ck c n (An AA c n) (DZ AA c n),by rw[Lh,ht,List.append_assoc]⟩
theorem GP (AA:List (List Dd))(c:Nat):∀n:Nat,c<=n->∃t,Az AA n=Az AA c++t
 | 0,h=>by
  obtain rfl:c=0:=by omega
  exact⟨[],by simp⟩
 |n+1,h=>by
  by_cases e:c=n+1
  . subst e;exact⟨[],by simp⟩
  ·
   obtain⟨t,ht⟩:=GP AA c n (by omega);obtain⟨t2,h2⟩:=Kk AA n 0 (AA.getD n []).length (Nat.zero_le _);refine⟨t++t2,?_⟩;show (BO n (AA.getD n []) (Az AA n) (AA.getD n []).length).1=_;rw[h2];show Az AA n++t2=_;rw[ht,List.append_assoc]
theorem Zu {AA:List (List Dd)}{c k n:Nat}(hc:c<n)(hk:k<(AA.getD c []).length){i:Nat}{e:Ev}(h:(Ck c k (An AA c k) (DZ AA c k))[i]? = some e):(Az AA n)[Ag AA c k+i]? = some e:=by
 obtain⟨t1,h1⟩:=GP AA (c+1) n hc;obtain⟨t2,h2⟩:=Kk AA c (k+1) (AA.getD c []).length hk;rw[h1];refine IA t1 ?_;show (BO c (AA.getD c []) (Az AA c) (AA.getD c []).length).1[Ag AA c k+i]? = some e;rw[h2];refine IA t2 ?_;rw[Lh,List.getElem?_append_right (by unfold Ag;omega)];show (Ck c k (An AA c k) (DZ AA c k))[Ag AA c k+i-Ag AA c k]? = some e;rw[show Ag AA c k+i-Ag AA c k=i by omega];exact h
theorem Sy (AA:List (List Dd))(c:Nat){j:Nat}(h0:Ag AA c 0<=j):∀k:Nat,j<Ag AA c k->∃k' i,k'<k/\i<FO (An AA c k')/\j=Ag AA c k'+i
 | 0,h=>by omega
 |k+1,h=>by
  by_cases hj:j<Ag AA c k
  ·
   obtain⟨k',i,h1,h2,h3⟩:=Sy AA c h0 k hj;exact⟨k',i,by omega,h2,h3⟩
  ·
   rw[MJ] at h;exact⟨k,j-Ag AA c k,by omega,by omega,by omega⟩
theorem Vy (AA:List (List Dd)){j:Nat}(h3:3<=j):∀n:Nat,j<(Az AA n).length->∃c k i,c<n/\k<(AA.getD c []).length/\i<FO (An AA c k)/\j=Ag AA c k+i
 | 0,h=>by simp[Az,B5] at h;omega
 |n+1,h=>by
  by_cases hj:j<(Az AA n).length
  ·
   obtain⟨c,k,i,h1,h2⟩:=Vy AA h3 n hj;exact⟨c,k,i,by omega,h2⟩
  ·
   rw[TU] at h;obtain⟨k,i,h1,h2⟩:=Sy AA n (by rw[MK];omega) _ h;exact⟨n,k,i,by omega,h1,h2⟩
theorem Ot (AA:List (List Dd))(c:Nat){k k':Nat}(h:k<=k'):Ag AA c k<=Ag AA c k':=by
 obtain⟨t,ht⟩:=Kk AA c k k' h;unfold Ag;rw[ht,List.length_append];omega
theorem Hm {AA:List (List Dd)}{c c' k k':Nat}(hk:k<(AA.getD c []).length)(h:c<c'\/(c=c'/\k<k')):Ag AA c k+FO (An AA c k)<=Ag AA c' k':=by
 rcases h with h|⟨rfl,h⟩
 ·
  have h1:=Ot AA c (k:=k+1) (k':=(AA.getD c []).length) hk;rw[MJ] at h1;obtain⟨t,ht⟩:=GP AA (c+1) c' h;have h2:=Ot AA c' (Nat.zero_le k');rw[MK,ht,List.length_append,TU] at h2;omega
 ·
  have h1:=Ot AA c (k:=k+1) (k':=k') h;rw[MJ] at h1;exact h1
theorem IJ (AA:List (List Dd))(c k:Nat):3<=Ag AA c k:=by
 obtain⟨t,ht⟩:=GP AA 0 c (Nat.zero_le _);have h:=Ot AA c (Nat.zero_le k);rw[MK,ht,List.length_append] at h;simp[Az,B5] at h;omega
abbrev Bi (AA:List (List Dd))(c k:Nat):Int:=(An AA c k).2.2.2
def bH (AA:List (List Dd))(c:Nat):Prop:=∀k,k<(AA.getD c []).length->FZ (An AA c k)=true
theorem B7 {AA:List (List Dd)}(h:AW AA=true){c:Nat}(hc:c<AA.length):bH AA c:=by
 simp only[AW,Bool.and_eq_true,decide_eq_true_eq] at h;obtain⟨⟨⟨⟨_,h2⟩,_⟩,_⟩,_⟩:=h;have h3:=BR [] h2 c hc;unfold Ft at h3;rw[Bool.and_eq_true] at h3;exact fun k hk=>BR zD h3.1 k hk
theorem WB {AA:List (List Dd)}{c k:Nat}(h:bH AA c)(hk:k<(AA.getD c []).length):0<=Bi AA c k/\Bi AA c k<=9/\(2<(An AA c k).1->Bi AA c k=0):=
 ⟨(Bv (h k hk)).2.2.1,(Bv (h k hk)).2.2.2.1,(Bv (h k hk)).2.2.2.2⟩
theorem S8 (AA:List (List Dd))(c:Nat):∀k:Nat,(BO c (AA.getD c []) (Az AA c) k).2.length=10
 | 0=>by simp[BO]
 |k+1=>by
  have ih:=S8 AA c k;rw[BO,ET];split
  . exact ih
  ·
   show (C8 _ _ _).length=10;unfold C8;split
   . rw[List.length_set];exact ih
   . exact ih
theorem V9 {AA:List (List Dd)}{c:Nat}(hok:bH AA c){g:Nat}(h0:0<g)(h9:g<=9):∀k:Nat,k<=(AA.getD c []).length ->
  ((BO c (AA.getD c []) (Az AA c) k).2.getD g 0=0/\∀j,j<k->Bi AA c j≠g) \/
  ∃j,j<k/\Bi AA c j=g/\(∀i,i<j->Bi AA c i≠g)/\(BO c (AA.getD c []) (Az AA c) k).2.getD g 0=(Ag AA c j:Int)
 | 0,_ => .inl ⟨by
   show (List.replicate 10 (0:Int)).getD g 0=0;rw[List.getD_eq_getElem?_getD,List.getElem?_replicate]
   split<;>rfl,fun j hj=>by omega⟩
 |k+1,hk=>by
  have ih:=V9 hok h0 h9 k (by omega);have hl:=S8 AA c k;have hd:=WB hok (k:=k) (by omega);have hkk:=CG (hok k (by omega));by_cases h4:(An AA c k).1=4
  ·
   have e:(BO c (AA.getD c []) (Az AA c) (k+1)).2=(BO c (AA.getD c []) (Az AA c) k).2:=by
    rw[BO,ET,if_pos h4]
   have hg:Bi AA c k=0:=hd.2.2 (by omega);rw[e];rcases ih with ⟨h1,h2⟩|⟨j,h1,h2,h3,h5⟩
   ·
    refine .inl ⟨h1,fun j hj=>?_⟩;by_cases e:j=k
    . subst e;omega
    . exact h2 j (by omega)
   . exact .inr ⟨j,by omega,h2,h3,h5⟩
  ·
   have e:(BO c (AA.getD c []) (Az AA c) (k+1)).2=C8 (Bi AA c k) (Ag AA c k) (BO c (AA.getD c []) (Az AA c) k).2:=by
    rw[BO,ET,if_neg h4];rfl
   rw[e];by_cases hg:Bi AA c k=(g:Int)
   ·
    rcases ih with ⟨h1,h2⟩|⟨j,h1,h2,h3,h5⟩
    ·
     refine .inr ⟨k,by omega,hg,h2,?_⟩;unfold C8;rw[hg,Int.toNat_natCast,if_pos ⟨by omega,h1⟩,B9 _ _ _ _ (by omega),if_pos rfl]
    ·
     refine .inr ⟨j,by omega,h2,h3,?_⟩;have h6:=IJ AA c j;unfold C8;rw[hg,Int.toNat_natCast,if_neg (by rw[h5];omega)];exact h5
   ·
    have e2:(C8 (Bi AA c k) (Ag AA c k) (BO c (AA.getD c []) (Az AA c) k).2).getD g 0=(BO c (AA.getD c []) (Az AA c) k).2.getD g 0:=by
     unfold C8;split
     ·
      rename_i hp;have hx:(Bi AA c k).toNat<=9:=by have:=hd.2.1;omega
      rw[B9 _ _ _ _ (by omega),if_neg (by omega)]
     . rfl
    rw[e2];rcases ih with ⟨h1,h2⟩|⟨j,h1,h2,h3,h5⟩
    ·
     refine .inl ⟨h1,fun j hj=>?_⟩;by_cases e:j=k
     . subst e;exact hg
     . exact h2 j (by omega)
    . exact .inr ⟨j,by omega,h2,h3,h5⟩
theorem Jo {AA:List (List Dd)}{c k:Nat}(hok:bH AA c)(hk:k<(AA.getD c []).length)(h4:(An AA c k).1≠4):
  (Bi AA c k=0/\DZ AA c k=(Ag AA c k:Int))\/(Bi AA c k≠0/\∃j,j<=k/\Bi AA c j=Bi AA c k/\(∀i,i<j->Bi AA c i≠Bi AA c k)/\DZ AA c k=(Ag AA c j:Int)):=by
 have hd:=WB hok hk;by_cases hg:Bi AA c k=0
 ·
  refine .inl ⟨hg,?_⟩;unfold DZ Co;rw[if_neg (by have:(An AA c k).2.2.2=0:=hg;omega)]
 ·
  obtain⟨g,hgg⟩:=Int.eq_ofNat_of_zero_le hd.1;have hgg':Bi AA c k=(g:Int):=hgg;have h9:g<=9:=by have:=hd.2.1;omega
  refine .inr ⟨hg,?_⟩;have h1:=V9 hok (g:=g) (by omega) h9 (k+1) hk
  have e:(BO c (AA.getD c []) (Az AA c) (k+1)).2=C8 (Bi AA c k) (Ag AA c k) (BO c (AA.getD c []) (Az AA c) k).2:=by
   rw[BO,ET,if_neg h4];rfl
  rw[e] at h1;rcases h1 with ⟨_,h2⟩|⟨j,h1,h2,h3,h5⟩
  . exact absurd hgg' (h2 k (by omega))
  ·
   refine⟨j,by omega,by rw[hgg'];exact h2,fun i hi=>by rw[hgg'];exact h3 i hi,?_⟩;unfold DZ Co;rw[if_pos (by have:(An AA c k).2.2.2=(g:Int):=hgg';omega)];have hq:(An AA c k).2.2.2.toNat=g:=by have:(An AA c k).2.2.2=(g:Int):=hgg';omega
   rw[hq];exact h5
theorem Ks {AA:List (List Dd)}{c c' k k':Nat}(hk:k<(AA.getD c []).length)(hk':k'<(AA.getD c' []).length)(h1:0<FO (An AA c k))(h2:0<FO (An AA c' k'))(e:Ag AA c k=Ag AA c' k'):c=c'/\k=k':=by
 by_cases hc:c<c'
 . have:=Hm (k':=k') hk (.inl hc);omega
 by_cases hc':c'<c
 . have:=Hm (k':=k) hk' (.inl hc');omega
 obtain rfl:c=c':=by omega
 refine⟨rfl,?_⟩;by_cases hkk:k<k'
 . have:=Hm (c':=c) (k':=k') hk (.inr ⟨rfl,hkk⟩);omega
 by_cases hkk':k'<k
 . have:=Hm (c':=c) (k':=k) hk' (.inr ⟨rfl,hkk'⟩);omega
 omega
theorem Gi {AA:List (List Dd)}{c k:Nat}(hok:bH AA c)(hk:k<(AA.getD c []).length)(hg:Bi AA c k≠0):(An AA c k).1≠4/\(An AA c k).1≠3/\0<FO (An AA c k):=by
 have hd:=WB hok hk;have hkk:=CG (hok k hk);have h3:¬ 2<(An AA c k).1:=fun h=>hg (hd.2.2 h)
 refine⟨by omega,by omega,?_⟩;unfold FO;rw[if_neg (by omega),if_neg (by omega)];omega
theorem JZ {d:Dd}(h:d.1≠4):0<FO d:=by
 unfold FO;rw[if_neg h];split<;>omega
theorem Kl {AA:List (List Dd)}{c c' k k':Nat}(hok:bH AA c)(hok':bH AA c')(hk:k<(AA.getD c []).length)(hk':k'<(AA.getD c' []).length)(h4:(An AA c k).1≠4)(h4':(An AA c' k').1≠4):
  DZ AA c k=DZ AA c' k'↔c=c'/\(k=k'\/(Bi AA c k≠0/\Bi AA c k=Bi AA c' k')):=by
 constructor
 ·
  intro e;rcases Jo hok hk h4 with ⟨g1,e1⟩|⟨g1,j,j1,j2,j3,e1⟩
  ·
   rcases Jo hok' hk' h4' with ⟨g2,e2⟩|⟨g2,j',l1,l2,l3,e2⟩
   ·
    rw[e1,e2] at e;obtain⟨rfl,rfl⟩:=Ks hk hk' (JZ h4) (JZ h4') (by omega);exact⟨rfl,.inl rfl⟩
   ·
    rw[e1,e2] at e;obtain⟨rfl,rfl⟩:=Ks (k':=j') hk (by omega) (JZ h4) (Gi (k:=j') hok' (by omega) (by rw[l2];exact g2)).2.2 (by omega);exact absurd (l2.symm.trans g1) g2
  ·
   rcases Jo hok' hk' h4' with ⟨g2,e2⟩|⟨g2,j',l1,l2,l3,e2⟩
   ·
    rw[e1,e2] at e;obtain⟨rfl,rfl⟩:=Ks (k:=j) (by omega) hk' (Gi (k:=j) hok (by omega) (by rw[j2];exact g1)).2.2 (JZ h4') (by omega);exact absurd (j2.symm.trans g2) g1
   ·
    rw[e1,e2] at e;obtain⟨rfl,rfl⟩:=Ks (k:=j) (k':=j') (by omega) (by omega) (Gi (k:=j) hok (by omega) (by rw[j2];exact g1)).2.2 (Gi (k:=j') hok' (by omega) (by rw[l2];exact g2)).2.2 (by omega);exact⟨rfl,.inr ⟨g1,by rw[<-j2,l2]⟩⟩
 ·
  rintro⟨rfl,rfl|⟨g1,g2⟩⟩
  . rfl
  ·
   rcases Jo hok hk h4 with ⟨g0,_⟩|⟨_,j,j1,j2,j3,e1⟩
   . exact absurd g0 g1
   rcases Jo hok' hk' h4' with ⟨g0,_⟩|⟨_,j',l1,l2,l3,e2⟩
   . rw[g0] at g2;exact absurd g2 g1
   rw[e1,e2]
   have:j=j':=by
    by_cases a:j<j'
    . exact absurd (by rw[j2,g2]) (l3 j a)
    by_cases a':j'<j
    . exact absurd (by rw[l2,g2]) (j3 j' a')
    omega
   rw[this]
end Go.Proofs.YtgakfkjjkobpiaaGreat
