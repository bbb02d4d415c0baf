/- Gathered texts. -/
import Derived.Test.YtflehmepjhikcaaDoorRows
import Derived.Below
import Derived.ChangeShapes
import Derived.LaidLaws
import Derived.LaidHandle
import Derived.Stop.LaidErr
import Derived.WalkKit
import Derived.ProofKit
import Derived.Laws.BitsAllLaws
import Derived.Laws.BitsLemmas
import Derived.Lib.IndexMore
import Derived.Lib.ParseIntB
import Derived.Lib.ItoaNum
import Derived.OpenShut
import Derived.WalkSmall
import Derived.Laws.Rows
import Derived.Laws.ResultCell
import Derived.Maps.AppendAt
import Derived.Laws.OwnMore
import Derived.OwnWalk
import Derived.Lib.Split
import Derived.Lib.Bytealg
import Derived.Shelf.Small.Strs
import Derived.Shelf.Strings.Search1
import Derived.Shelf.Strings.Search2
import Derived.Shelf.Strings.Search3
import Derived.Shelf.Strings.Count
import Derived.Shelf.LaysM
import Derived.Shelf.Strings.Shaped
import Derived.Shelf.Strings.Split
import Derived.Shelf.Strings.SplitShaped
import Derived.Shelf.Unicode.DecodeSlow
import Derived.Shelf.Unicode.DecodeAny
import Derived.Test.YtflehmepjhikcaaDoorProg
import Derived.RegionTactic
set_option maxRecDepth 100000
set_option maxHeartbeats 8000000
namespace Go.Proofs.YtflehmepjhikcaaDoor
open Go.ChangeShapes Go.RowKit
open Go.ChangeShapes Go.WideShapes Go.ChangeAt Go.RowKit
open Go.RowKit
open Go.RowKit Go.Lib in
open Go.RowKit in
open Go.Shelf
theorem vars_len {H:Type}{enc:TypeId×Value→H}{P:Program}{w:World}{sp:Nat→Bool}:∀ {ns:List String} {gs:List (DataW H)} {q:List MemPlace},DataW.TrodVars enc P w sp ns gs q→ns.length=gs.length
 | [],[],_,_=>rfl
 |_::_,_::_,_,⟨_,_,_,_,_,_,_,_,_,_,hs,_⟩=>congrArg (·+1) (vars_len hs)
 | [],_::_,_,h=>False.elim h
 |_::_,[],_,h=>False.elim h
theorem trod_if {H:Type}{enc:TypeId×Value→H}{P:Program}{w w':World}{sp sp':Nat→Bool}{t:TypeId}{ms:Array (String×TypeId)}(hi:P.underlying t=some (.interface ms)):
  ∀ {fuel:Nat} {cs:List Value} {r:DataW H×List MemPlace},DataW.trod enc P w 0 sp true fuel t cs=some r→DataW.trod enc P w' 0 sp' true fuel t cs=some r
 | 0,_,_,h=>by simp[DataW.trod] at h
 |fuel+1,cs,r,h=>by
  unfold DataW.trod at h ⊢;rw[hi] at h ⊢;rcases cs with _|⟨x,_|⟨y,l⟩⟩
  · simp at h
  · cases x<;>simp_all
  · cases x<;>simp at h
theorem vars_below {H:Type}{enc:TypeId×Value→H}{P:Program}{w w':World}{sp sp':Nat→Bool}(hb:Below w.heap.size w w'):∀ {ns:List String} {gs:List (DataW H)} {q:List MemPlace},
  (∀n∈ns,∃g t ms,P.globalNamed n=some g∧(P.globals[g]?).map (·.type)=some t∧P.underlying t=some (.interface ms))→DataW.TrodVars enc P w sp ns gs q→DataW.TrodVars enc P w' sp' ns gs q
 | [],[],_,_,h=>h
 |n::_,_::_,_,hn,⟨g,t,cs,fuel,p,q,h1,h2,h3,h4,hs,e⟩=>by
  obtain⟨g',t',ms,e1,e2,e3⟩:=hn n (List.mem_cons_self ..);obtain rfl:=Option.some.inj (h1.symm.trans e1);obtain rfl:=Option.some.inj (h2.symm.trans e2);refine⟨g,t,cs,fuel,p,q,h1,h2,?_,trod_if e3 h4,vars_below hb (fun m hm=>hn m (List.mem_cons_of_mem _ hm)) hs,e⟩;unfold World.var? at h3 ⊢;rw[h1,Option.bind_some] at h3 ⊢
  have hlt:g<w.heap.size:=by
   rcases Nat.lt_or_ge g w.heap.size with h|h
   · exact h
   · rw[Array.getElem?_eq_none h] at h3;cases h3
  rw[hb.block g hlt];exact h3
 | [],_::_,_,_,h=>False.elim h
 |_::_,[],_,_,h=>False.elim h
theorem errRow (u : TypeId) (h : Tryd.prog.typeName? 3 u = some "*errors.errorString") : u = 173 := by
 have star : "*" ++ "errors.errorString" = "*errors.errorString" := by decide
 exact typeName_ptr_named (nm := "errors.errorString") (by rw [star]; kernel_rfl) (by kernel_rfl) (by decide) u (by rw [star]; exact h)
theorem sent_cell {r : List (String × DataW Unit)} {n : String} {text : List UInt8} {W : World} {g : Nat} (h : laidMet Tryd.prog ((n, .iface "*errors.errorString" (.ptr (.agg [.lit (.string text)]))) :: r) W)
  (hg:Tryd.prog.globalNamed n=some g) (ht:(Tryd.prog.globals[g]?).map (·.type)=some 55):∃a,W.cell? ⟨g,0,none⟩=some (.iface 173 (.pointer (some a))):=by
 obtain⟨a,s,hv,-,-,-⟩:=laid_sentinel h hg ht Tryd.underlying55 errRow Tryd.underlying173 Tryd.underlying194 rfl rfl Tryd.underlying9 (by kernel_rfl) (by kernel_rfl);exact⟨a,by simpa using World.var?_cell hg hv 0⟩
theorem ret_bool {a b:Bool}(h:a=b):Ending.returned (.bool a) = .returned (.bool b):=by rw[h]
theorem ofInt_i64 (a:Nat)(ha:a<9223372036854775808):(BitVec.ofInt 64 (a:Int)).toNat=a:=ofInt_u64 a (by omega)
theorem i64_and_nat (a b:Nat)(ha:a<9223372036854775808)(hb:b<9223372036854775808):bits .and .i64 (a:Int) (b:Int)=((a &&& b:Nat):Int):=by
 have hx:a &&& b<2 ^ 63:=Nat.and_lt_two_pow _ (by omega);show IntKind.i64.wrap ((BitVec.ofInt 64 (a:Int) &&& BitVec.ofInt 64 (b:Int)).toNat:Int)=_;rw[BitVec.toNat_and,ofInt_i64 a ha,ofInt_i64 b hb,IntKind.wrap_i64];omega
theorem pow_le12 (n:Nat)(h:n≤12):(2:Int) ^ n≤4096∧(1:Int)≤2 ^ n:=by
 have:n=0∨n=1∨n=2∨n=3∨n=4∨n=5∨n=6∨n=7∨n=8∨n=9∨n=10∨n=11∨n=12:=by omega
 rcases this with rfl|rfl|rfl|rfl|rfl|rfl|rfl|rfl|rfl|rfl|rfl|rfl|rfl<;>decide
theorem wrap64_small (x:Int)(h1:-9223372036854775808≤x)(h2:x≤9223372036854775807):wrap64 x=x:=by
 simp only[wrap64];omega
def inB (x lo hi:Int):Bool:=decide (lo≤x∧x≤hi)
def okB (n s:Int):Bool:=decide ((0≤n∧n≤12)∧0≤s∧s<2 ^ n.toNat)
def bitB (s i:Int):Bool:=bits .and .i64 (s / 2 ^ i.toNat) 1==1
def inSetB (s i:Int):Bool:=inB i 0 11&&inB s 0 4095&&bitB s i
theorem take_snoc (l:List Int)(k:Nat)(h:k<l.length):l.take (k+1)=l.take k++[l.getD k 0]:=by
 rw[List.take_succ_eq_append_getElem h,List.getD_eq_getElem?_getD,List.getElem?_eq_getElem h];rfl
def joinHead (x:List UInt8):List (List UInt8)→List (List UInt8)
 | []=>[x]
 |y::ys=>(x++y)::ys
def splitL (b:UInt8):List UInt8→List (List UInt8)
 | []=>[[]]
 |c::r=>if c=b then []::splitL b r else joinHead [c] (splitL b r)
theorem splitL_ne (b:UInt8):∀s:List UInt8,splitL b s≠[]
 | []=>by simp[splitL]
 |c::r=>by
  unfold splitL;split
  · simp
  · cases h:splitL b r<;>simp[joinHead]
theorem joinHead_join (x y:List UInt8):∀l:List (List UInt8),joinHead x (joinHead y l)=joinHead (x++y) l
 | []=>rfl
 |z::zs=>by simp[joinHead]
theorem joinHead_nil (l:List (List UInt8))(h:l≠[]):joinHead [] l=l:=by
 cases l with
 |nil=>exact absurd rfl h
 |cons y ys=>rfl
def digV (acc:Int):List UInt8→Option Int
 | []=>some acc
 |c::r=>if 48≤c.toNat∧c.toNat≤57 then digV (acc*10+((c.toNat:Int)-48)) r else none
def negR (s:List UInt8):Bool:=match s with
 | []=>false
 |c::_=>decide (c=45)
def bodyR (s:List UInt8):List UInt8:=if negR s=true then s.drop 1 else s
def readO (s:List UInt8):Option Int:=
 if (bodyR s).length<1∨9<(bodyR s).length then none else
 match digV 0 (bodyR s) with
 |none=>none
 |some n=>if (bodyR s).head? = some 48∧(negR s=true∨1<s.length) then none else some (if negR s=true then -n else n)
def placeNo (w:List UInt8):Int:=if w=[120] then 0 else if w=[121] then 1 else if w=[122] then 2 else -1
abbrev Dd:=Int×Int×Int×Int
def zD:Dd:=(0,0,0,0)
abbrev Ev:=Int×Int×Bool×Int×Int×Int
def Keep (w w':World):Prop:=Below w.heap.size w w'
theorem Keep.refl (w:World):Keep w w:=Below.refl _ _
theorem Keep.size {w w':World}(h:Keep w w'):w.heap.size≤w'.heap.size:=Below.size h
theorem Keep.trans {a b c:World}(h:Keep a b)(k:Keep b c):Keep a c:=Below.trans h (Below.mono k h.size)
theorem Keep.drew {a w:World}(h:Keep a w):Keep a w.drew:=Below.drew h
theorem Keep.drewN {a w:World}(h:Keep a w)(n:Nat):Keep a (w.drewN n):=below_drewN h n
theorem Keep.alloc {a w:World}(h:Keep a w)(o:Obj):Keep a (w.alloc o):=Below.alloc h h.size o
theorem Keep.grown {a w w':World}{row:Option Nat}(h:Keep a w)(hg:w.grownBy w' row)(hr:∀k,row=some k→a.heap.size≤k):Keep a w':=Below.grown h hg h.size hr
theorem Keep.grownBy {w w':World}(h:Keep w w'):w.grownBy w' none:=⟨Below.os h,Below.tape h,Below.output h,Below.size h,fun k hk _=>Below.block h k hk⟩
theorem Keep.cell {w w':World}(h:Keep w w'){b o:Nat}(hb:b<w.heap.size):w'.cell? ⟨b,o,none⟩=w.cell? ⟨b,o,none⟩:=Below.cell h hb
theorem grown_trans {a b c:World}{row:Option Nat}(h:a.grownBy b row)(k:b.grownBy c row):a.grownBy c row:=
 ⟨k.os.trans h.os,k.tape.trans h.tape,k.output.trans h.output,Nat.le_trans h.size k.size,fun i hi hne=>(k.block i (Nat.lt_of_lt_of_le hi h.size) hne).trans (h.block i hi hne)⟩
def Rd (w:World)(v:Value)(zs:List Int):Prop:=
 ∃(a:Option Addr) (cap:Nat),v = .slice a zs.length cap ∧
  (zs=[]∨∃b off,a=some ⟨b,off,none⟩∧b<w.heap.size∧∀i,i<zs.length→w.cell? ⟨b,off+i,none⟩=some (.int .i64 (zs.getD i 0)))
theorem Rd.keep {w w':World}{v:Value}{zs:List Int}(h:Rd w v zs)(k:Keep w w'):Rd w' v zs:=by
 obtain⟨a,cap,hv,h⟩:=h;refine⟨a,cap,hv,?_⟩;rcases h with h|⟨b,off,ha,hb,hc⟩
 · exact .inl h
 · exact .inr ⟨b,off,ha,Nat.lt_of_lt_of_le hb k.size,fun i hi=>(k.cell hb).trans (hc i hi)⟩
def Own (w:World)(base:Nat)(v:Value)(zs:List Int):Prop:=w.ownsRow base 2 1 v zs.length (zs.map (Value.int .i64))
theorem Own.kept {w w':World}{base:Nat}{v:Value}{zs:List Int}{row:Option Nat}(h:Own w base v zs)(hg:w.grownBy w' row)(hne:v.ownBlock=none∨v.ownBlock≠row):Own w' base v zs:=
 World.ownsRow.kept h hg hne
theorem Own.keep {w w':World}{base:Nat}{v:Value}{zs:List Int}(h:Own w base v zs)(k:Keep w w'):Own w' base v zs:=
 Own.kept h k.grownBy (by cases v.ownBlock<;>simp)
theorem Own.rd {w:World}{base:Nat}{v:Value}{zs:List Int}(h:Own w base v zs):Rd w v zs:=by
 have hlt:=World.ownsRow.lt h;rcases h.2 with ⟨rfl,hn⟩|⟨g,cap,cur,rfl,hb,hg,rest⟩
 ·
  have:zs=[]:=List.eq_nil_of_length_eq_zero hn;subst this;exact⟨none,0,rfl,.inl rfl⟩
 ·
  refine⟨some ⟨g,0,none⟩,cap,rfl,.inr ⟨g,0,rfl,(hlt g rfl).2,fun i hi=>?_⟩⟩;have hc:=World.ownsRow.cellAt h i (by simpa using hi);rw[Nat.zero_add,hc,List.getElem?_map,List.getElem?_eq_getElem hi,List.getD_eq_getElem?_getD,List.getElem?_eq_getElem hi];rfl
theorem Own.base_le {w:World}{base base':Nat}{v:Value}{zs:List Int}(h:Own w base v zs)(hb:base'≤base):Own w base' v zs:=by
 refine⟨h.1,?_⟩;rcases h.2 with h|⟨g,cap,cur,hv,hg,rest⟩
 · exact .inl h
 · exact .inr ⟨g,cap,cur,hv,Nat.le_trans hb hg,rest⟩
theorem Own.ge {w:World}{base:Nat}{v:Value}{zs:List Int}(h:Own w base v zs):∀k,v.ownBlock=some k→base≤k:=fun k hk=>(World.ownsRow.lt h k hk).1
theorem Own.apart {w w':World}{base:Nat}{v v':Value}{zs zs':List Int}(h:Own w base v zs)(h':Own w' w.heap.size v' zs'):v.ownBlock=none∨v.ownBlock≠v'.ownBlock:=by
 cases hv:v.ownBlock with
 |none=>exact .inl rfl
 |some k=>
  refine .inr fun e=>?_
  have h1:=(World.ownsRow.lt h k hv).2;have h2:=h'.ge k e.symm;omega
theorem own_hit {w:World}{base:Nat}{v:Value}{zs:List Int}{x:Int}(h:w.ownsRow base 2 1 v (zs.length+1) (zs.map (Value.int .i64)++[.int .i64 x])):Own w base v (zs++[x]):=by
 unfold Own;simpa using h
theorem Tryd.infoI:(Tryd.prog.info? 2).map (fun i=>(i.zero,i.size,i.bytes))=some (some (.int .i64 0),1,8):=by kernel_rfl
theorem heap_size (w:World)(A:Obj):(w.alloc A).heap.size=w.heap.size+1:=Array.size_push _
theorem heap_drew (w:World):w.drew.heap=w.heap:=rfl
theorem box_cell {w w1:World}{cs:Array Value}{t:TypeId}(k:Keep (w.alloc (.cells cs t)) w1)(i:Nat):w1.cell? ⟨w.heap.size,i,none⟩=cs[i]?:=by
 rw[k.cell (by rw[heap_size];omega),cell_of_row (w.alloc (.cells cs t)) w.heap.size i cs t (0,0) (heap_alloc_new w _)]
abbrev strV (l:List UInt8):Value:= .string ⟨l.toArray⟩
theorem results_row_tmp {P:Program}{fn:Func}{p u:Tmp}{ty:TypeId}(h:fn.results=#[.cell p ty,.tmp u])(tmps:Array Value)(w:World)(g:Nat)(t:TypeId)(cs:Array Value)(fr:Nat×Nat)(d:TypeDesc)(v:Value)
  (hp:tmps.getD p undef = .pointer (some ⟨g,0,none⟩)) (hg:w.heap[g]? = some (.cells cs t fr)) (hv:tmps.getD u undef=v)
  (hu:P.underlying ty=some d) (hd:(match d with | .struct _ | .array _ _=>true|_=>false)=true) (hi:(P.info? ty).map (·.size)=some cs.size):
  (results fn tmps).run P w = .ok (.tuple #[.agg cs,v]) w:=by
 rw[results_cell_tmp h,hp,hv];simp[asAddr,run_loadVar_row w g t ty cs fr d hg hu hd hi,Result.andThen]
section
section
variable {α:Type} {cf:α→List Value} {n:Nat}
def AtT (cf:α→List Value)(w:World)(b o:Nat)(x:α):Prop:=∀m u,(cf x)[m]? = some u→w.cell? ⟨b,o+m,none⟩=some u
def RdT (cf:α→List Value)(n:Nat)(w:World)(v:Value)(xs:List α):Prop:=
 ∃(a:Option Addr) (cap:Nat),v = .slice a xs.length (xs.length+cap) ∧
  (xs=[]∨∃b off,a=some ⟨b,off,none⟩∧b<w.heap.size∧∀i x,xs[i]? = some x→AtT cf w b (off+i*n) x)
theorem AtT.same {w w':World}{b o:Nat}{x:α}(h:AtT cf w b o x)(hh:w'.heap[b]? = w.heap[b]?):AtT cf w' b o x:=
 fun m u hm=>by
  have:=h m u hm;simp only[World.cell?,hh] at this ⊢;exact this
theorem AtT.keep {w w':World}{b o:Nat}{x:α}(h:AtT cf w b o x)(hb:b<w.heap.size)(k:Keep w w'):AtT cf w' b o x:=h.same (Below.block k b hb)
theorem RdT.keep {w w':World}{v:Value}{xs:List α}(h:RdT cf n w v xs)(k:Keep w w'):RdT cf n w' v xs:=by
 obtain⟨a,cap,hv,h⟩:=h;refine⟨a,cap,hv,?_⟩;rcases h with h|⟨b,off,ha,hb,hc⟩
 · exact .inl h
 · exact .inr ⟨b,off,ha,Nat.lt_of_lt_of_le hb k.size,fun i x hx=>(hc i x hx).keep hb k⟩
def AppT (cf:α→List Value)(e:TypeId)(n:Nat)(w:World)(base:Nat)(v:Value)(xs:List α):Prop:=w.ownsRow base e n v xs.length (xs.flatMap cf)
variable {e:TypeId}
theorem AppT.keep {w w':World}{base:Nat}{v:Value}{xs:List α}(h:AppT cf e n w base v xs)(k:Keep w w'):AppT cf e n w' base v xs:=
 World.ownsRow.kept h k.grownBy (by cases v.ownBlock<;>simp)
theorem AppT.kept {w w':World}{base:Nat}{v:Value}{xs:List α}{row:Option Nat}(h:AppT cf e n w base v xs)(hg:w.grownBy w' row)(hne:v.ownBlock=none∨v.ownBlock≠row):AppT cf e n w' base v xs:=
 World.ownsRow.kept h hg hne
theorem AppT.lt {w:World}{base:Nat}{v:Value}{xs:List α}(h:AppT cf e n w base v xs):∀k,v.ownBlock=some k→base≤k∧k<w.heap.size:=World.ownsRow.lt h
theorem AppT.ge {w:World}{base:Nat}{v:Value}{xs:List α}(h:AppT cf e n w base v xs):∀k,v.ownBlock=some k→base≤k:=fun k hk=>(h.lt k hk).1
theorem flat_at (hn:∀x,(cf x).length=n):∀(xs:List α) (i:Nat) (x:α) (m:Nat),xs[i]? = some x→m<n→(xs.flatMap cf)[i*n+m]? = (cf x)[m]?
 | [],i,x,m,h,_=>by simp at h
 |y::r,0,x,m,h,hm=>by
  simp at h;subst h;rw[List.flatMap_cons,List.getElem?_append_left (by rw[hn];omega)];simp
 |y::r,i+1,x,m,h,hm=>by
  have ih:=flat_at hn r i x m (by simpa using h) hm;have e1:(i+1)*n+m=n+(i*n+m):=by rw[Nat.add_mul];omega
  rw[List.flatMap_cons,List.getElem?_append_right (by rw[hn];omega),hn,e1,Nat.add_sub_cancel_left,ih]
theorem AppT.rd (hn:∀x,(cf x).length=n){w:World}{base:Nat}{v:Value}{xs:List α}(h:AppT cf e n w base v xs):RdT cf n w v xs:=by
 have h2:=h;have hlt:=h.lt;rcases h.2 with ⟨rfl,hz⟩|⟨g,cap,cur,rfl,hb,hg,hcap,_,hs,_⟩
 ·
  have:xs=[]:=List.eq_nil_of_length_eq_zero hz;subst this;exact⟨none,0,rfl,.inl rfl⟩
 ·
  obtain⟨x,rfl⟩:∃x,cap=xs.length+x:=⟨cap-xs.length,by omega⟩;refine⟨_,x,rfl,.inr ⟨g,0,rfl,(hlt g rfl).2,fun i y hy m u hm=>?_⟩⟩;have hi:i<xs.length:=(List.getElem?_eq_some_iff.1 hy).1;have hmn:m<n:=by have:=(List.getElem?_eq_some_iff.1 hm).1;rw[hn] at this;exact this
  have hb2:i*n+m<xs.length*n:=by
   have h3:(i+1)*n≤xs.length*n:=Nat.mul_le_mul_right n hi;rw[Nat.add_mul] at h3;omega
  rw[Nat.zero_add,World.ownsRow.cellAt h2 (i*n+m) hb2,flat_at hn xs i y m hy hmn];exact hm
end
end
def cE (e:Ev):List Value:=[.int .i64 e.1,.int .i64 e.2.1,.bool e.2.2.1,.int .i64 e.2.2.2.1,.int .i64 e.2.2.2.2.1,.int .i64 e.2.2.2.2.2]
theorem cE_len (e:Ev):(cE e).length=6:=rfl
abbrev RdE (w:World)(v:Value)(es:List Ev):Prop:=RdT cE 6 w v es
abbrev AppE (w:World)(base:Nat)(v:Value)(es:List Ev):Prop:=AppT cE 99 6 w base v es
theorem AppE.rd {w:World}{base:Nat}{v:Value}{es:List Ev}(h:AppE w base v es):RdE w v es:=AppT.rd cE_len h
def keyB (n reads:Int):Bool:=inB n 0 (reads-1)||inB n 100 102
def askP (reads:Int)(rs vs:List Int):Nat→Bool
 | 0=>true
 |k+1=>askP reads rs vs k&&(keyB (rs.getD k 0) reads&&inB (vs.getD k 0) 0 9)
def okA (reads:Int)(rs vs:List Int):Bool:=(decide (rs.length≤6)&&decide (rs.length=vs.length))&&askP reads rs vs rs.length
theorem askP_off {reads:Int}{rs vs:List Int}{k n:Nat}(h:askP reads rs vs k=false)(hk:k≤n):askP reads rs vs n=false:=by
 induction n with
 |zero=>
  obtain rfl:k=0:=by omega
  exact h
 |succ n ih=>
  by_cases e:k=n+1
  · rw[←e];exact h
  ·
   show (askP reads rs vs n&&_)=false;rw[ih (by omega),Bool.false_and]
theorem askP_at {reads:Int}{rs vs:List Int}{n:Nat}(h:askP reads rs vs n=true){i:Nat}(hi:i<n):keyB (rs.getD i 0) reads=true∧inB (vs.getD i 0) 0 9=true:=by
 induction n with
 |zero=>omega
 |succ n ih=>
  have h':(askP reads rs vs n&&(keyB (rs.getD n 0) reads&&inB (vs.getD n 0) 0 9))=true:=h;simp only[Bool.and_eq_true] at h';by_cases e:i=n
  · subst e;exact h'.2
  · exact ih h'.1 (by omega)
theorem okA_use {reads:Int}{rs vs:List Int}(h:okA reads rs vs=true):rs.length≤6∧rs.length=vs.length∧∀i,i<rs.length→keyB (rs.getD i 0) reads=true∧inB (vs.getD i 0) 0 9=true:=by
 unfold okA at h;simp only[Bool.and_eq_true,decide_eq_true_eq] at h;exact⟨h.1.1,h.1.2,fun i hi=>askP_at h.2 hi⟩
def segL (l:List UInt8)(f k:Nat):List UInt8:=(l.drop f).take (k-f)
def splitInv (b:UInt8)(l:List UInt8)(ws:List (List UInt8))(f k:Nat):Prop:=
 (k≤l.length∧f≤k∧ws++joinHead (segL l f k) (splitL b (l.drop k))=splitL b l)∨(k=l.length+1∧ws=splitL b l)
theorem splitInv_start (b:UInt8)(l:List UInt8):splitInv b l [] 0 0:=by
 refine .inl ⟨Nat.zero_le _,Nat.le_refl _,?_⟩;simp[segL,joinHead_nil _ (splitL_ne b l)]
theorem segL_snoc (l:List UInt8)(f k:Nat)(hf:f≤k)(hk:k<l.length):segL l f (k+1)=segL l f k++[l.getD k 0]:=by
 unfold segL;rw[show k+1-f=(k-f)+1 by omega,List.take_add_one,List.getElem?_drop,show f+(k-f)=k by omega,List.getElem?_eq_getElem hk];simp[List.getD_eq_getElem?_getD,List.getElem?_eq_getElem hk]
theorem drop_cons (l:List UInt8)(k:Nat)(hk:k<l.length):l.drop k=l.getD k 0::l.drop (k+1):=by
 rw[List.drop_eq_getElem_cons hk];simp[List.getD_eq_getElem?_getD,List.getElem?_eq_getElem hk]
theorem splitInv_miss {b:UInt8}{l:List UInt8}{ws:List (List UInt8)}{f k:Nat}(h:splitInv b l ws f k)(hk:k<l.length)(hb:¬l.getD k 0=b):splitInv b l ws f (k+1):=by
 rcases h with ⟨_,hf,he⟩|⟨hk',_⟩
 ·
  refine .inl ⟨hk,by omega,?_⟩;rw[←he,drop_cons l k hk,segL_snoc l f k hf hk]
  congr 1
  conv=>rhs;rw[splitL]
  rw[if_neg hb,joinHead_join]
 · omega
theorem splitInv_hit {b:UInt8}{l:List UInt8}{ws:List (List UInt8)}{f k:Nat}(h:splitInv b l ws f k)(hk:k<l.length)(hb:l.getD k 0=b):splitInv b l (ws++[segL l f k]) (k+1) (k+1):=by
 rcases h with ⟨_,hf,he⟩|⟨hk',_⟩
 ·
  refine .inl ⟨hk,Nat.le_refl _,?_⟩;have e1:segL l (k+1) (k+1)=[]:=by simp[segL]
  rw[←he,drop_cons l k hk,e1,joinHead_nil _ (splitL_ne b _)]
  conv=>rhs;rw[splitL]
  rw[if_pos hb];simp[joinHead]
 · omega
theorem splitInv_last {b:UInt8}{l:List UInt8}{ws:List (List UInt8)}{f:Nat}(h:splitInv b l ws f l.length):splitInv b l (ws++[segL l f l.length]) (l.length+1) (l.length+1):=by
 rcases h with ⟨_,hf,he⟩|⟨hk',_⟩
 ·
  refine .inr ⟨rfl,?_⟩;rw[←he];simp[splitL,joinHead]
 · omega
theorem splitInv_end {b:UInt8}{l:List UInt8}{ws:List (List UInt8)}{f k:Nat}(h:splitInv b l ws f k)(hk:l.length<k):ws=splitL b l:=by
 rcases h with ⟨hk',_⟩|⟨_,he⟩
 · omega
 · exact he
theorem splitInv_from {b:UInt8}{l:List UInt8}{ws:List (List UInt8)}{f k:Nat}(h:splitInv b l ws f k)(hk:k≤l.length):f≤k:=by
 rcases h with ⟨_,hf,_⟩|⟨hk',_⟩
 · exact hf
 · omega
theorem splitL_len (b:UInt8):∀l:List UInt8,(splitL b l).length≤l.length+1
 | []=>by simp[splitL]
 |c::r=>by
  have ih:=splitL_len b r;unfold splitL;split
  · simp;omega
  ·
   cases h:splitL b r with
   |nil=>simp[joinHead]
   |cons y ys=>rw[h] at ih;simp[joinHead] at ih ⊢;omega
theorem splitL_word (b:UInt8):∀(l:List UInt8) (x:List UInt8),x∈splitL b l→x.length≤l.length
 | [],x,h=>by simp[splitL] at h;subst h;simp
 |c::r,x,h=>by
  unfold splitL at h;split at h
  ·
   rcases List.mem_cons.1 h with rfl|h
   · simp
   · have:=splitL_word b r x h;simp;omega
  ·
   cases hs:splitL b r with
   |nil=>exact absurd hs (splitL_ne b r)
   |cons y ys=>
    rw[hs] at h;simp only[joinHead,List.mem_cons] at h;rcases h with rfl|h
    ·
     have:=splitL_word b r y (by rw[hs];simp);simp;omega
    ·
     have:=splitL_word b r x (by rw[hs];simp[h]);simp;omega
def p0R (x:List UInt8):List UInt8:=(splitL 61 x).getD 0 []
def p1R (x:List UInt8):List UInt8:=(splitL 61 x).getD 1 []
def pAt (x:List UInt8):Int:=if 0≤placeNo (p0R x) then 100+placeNo (p0R x) else (readO (p0R x)).getD 0
def pIs (x:List UInt8):Bool:=decide (0≤placeNo (p0R x))||((readO (p0R x)).isSome&&inB ((readO (p0R x)).getD 0) 0 5)
def pVl (x:List UInt8):Int:=(readO (p1R x)).getD 0
def pTw (x:List UInt8):Bool:=decide ((splitL 61 x).length=2)
def pOk (x:List UInt8):Bool:=pTw x&&(pIs x&&(readO (p1R x)).isSome)
def wsA (l:List UInt8):List (List UInt8):=splitL 32 l
def raT (l:List UInt8):Bool:=(wsA l).all pOk&&okA 6 ((wsA l).map pAt) ((wsA l).map pVl)
def raR (l:List UInt8):List Int:=if raT l=true then (wsA l).map pAt else []
def raV (l:List UInt8):List Int:=if raT l=true then (wsA l).map pVl else []
theorem raT_off {l:List UInt8}{k:Nat}(hk:k<(wsA l).length)(h:pOk ((wsA l).getD k [])=false):raT l=false:=by
 unfold raT
 have:(wsA l).all pOk=false:=by
  rw[Bool.eq_false_iff];intro q;rw[List.all_eq_true] at q;have hm:(wsA l).getD k []∈wsA l:=by rw[List.getD_eq_getElem?_getD,List.getElem?_eq_getElem hk];exact List.getElem_mem hk
  rw[q _ hm] at h;cases h
 rw[this,Bool.false_and]
theorem raT_end {l:List UInt8}(h:∀i,i<(wsA l).length→pOk ((wsA l).getD i [])=true):raT l=okA 6 ((wsA l).map pAt) ((wsA l).map pVl):=by
 unfold raT
 have:(wsA l).all pOk=true:=by
  rw[List.all_eq_true];intro x hx;obtain⟨i,hi,e⟩:=List.getElem_of_mem hx;have:=h i hi;rw[List.getD_eq_getElem?_getD,List.getElem?_eq_getElem hi] at this;rw[←e];exact this
 rw[this,Bool.true_and]
theorem map_take {f:List UInt8→Int}(ws:List (List UInt8)){k:Nat}(h:k<ws.length):(ws.take (k+1)).map f=(ws.take k).map f++[f (ws.getD k [])]:=by
 rw[List.take_add_one,List.getElem?_eq_getElem h,List.map_append,List.getD_eq_getElem?_getD,List.getElem?_eq_getElem h];rfl
theorem ra_len (l:List UInt8):(raR l).length≤6∧(raV l).length≤6:=by
 unfold raR raV;cases h:raT l
 · simp
 ·
  unfold raT at h;rw[Bool.and_eq_true] at h;obtain⟨h1,h2,-⟩:=okA_use h.2;rw[if_pos rfl,if_pos rfl];omega
def glueB (b:UInt8):List (List UInt8)→List UInt8
 | []=>[]
 | [t]=>t
 |t::r=>t++b::glueB b r
theorem glueB_cons (b:UInt8)(t:List UInt8){r:List (List UInt8)}(h:r≠[]):glueB b (t::r)=t++b::glueB b r:=by
 cases r with
 |nil=>exact absurd rfl h
 |cons _ _=>rfl
theorem glue_head (b c:UInt8){ws:List (List UInt8)}(h:ws≠[]):glueB b (joinHead [c] ws)=c::glueB b ws:=by
 cases ws with
 |nil=>exact absurd rfl h
 |cons t r=>
  cases r with
  |nil=>rfl
  |cons _ _=>rfl
theorem glue_split (b:UInt8):∀l:List UInt8,glueB b (splitL b l)=l
 | []=>rfl
 |c::r=>by
  unfold splitL;by_cases h:c=b
  · rw[if_pos h,glueB_cons b [] (splitL_ne b r),glue_split b r,h];rfl
  · rw[if_neg h,glue_head b c (splitL_ne b r),glue_split b r]
theorem split_two {b:UInt8}{x:List UInt8}(h:(splitL b x).length=2):x=(splitL b x).getD 0 []++b::(splitL b x).getD 1 []:=by
 have e:=glue_split b x;generalize splitL b x=ws at h e
 match ws,h with
 | [s,t],_=>exact e.symm
def dgA (n:Int):List UInt8:=[UInt8.ofNat (48+n.toNat)]
theorem digV_low:∀(xs:List UInt8) (a n:Int),0≤a→digV a xs=some n→a≤n
 | [],a,n,_,h=>by simp only[digV,Option.some.injEq] at h;omega
 |c::r,a,n,ha,h=>by
  unfold digV at h;by_cases hc:48≤c.toNat∧c.toNat≤57
  ·
   rw[if_pos hc] at h;have:=digV_low r _ n (by omega) h;omega
  · rw[if_neg hc] at h;cases h
theorem digV_cons {c:UInt8}{r:List UInt8}{n:Int}(h:digV 0 (c::r)=some n)(h0:c≠48):1≤n∧(r≠[]→10≤n):=by
 unfold digV at h;by_cases hc:48≤c.toNat∧c.toNat≤57
 ·
  rw[if_pos hc] at h;have hne:c.toNat≠48:=fun e=>h0 (UInt8.toNat_inj.1 e)
  have h1:=digV_low r _ n (by omega) h;refine⟨by omega,fun hr=>?_⟩
  cases r with
  |nil=>exact absurd rfl hr
  |cons d r=>
   unfold digV at h;by_cases hd:48≤d.toNat∧d.toNat≤57
   ·
    rw[if_pos hd] at h;have:=digV_low r _ n (by omega) h;omega
   · rw[if_neg hd] at h;cases h
 · rw[if_neg hc] at h;cases h
theorem read_one {x:List UInt8}{n:Int}(h:readO x=some n)(h0:0≤n)(h9:n≤9):x=dgA n:=by
 unfold readO at h;split at h
 · cases h
 ·
  rename_i hlen
  cases hd:digV 0 (bodyR x) with
  |none=>rw[hd] at h;cases h
  |some m=>
   rw[hd] at h;simp only at h;split at h
   · cases h
   ·
    rename_i hz;simp only[Option.some.injEq] at h
    cases hn:negR x with
    |true=>
     exfalso;rw[hn,if_pos rfl] at h
     cases hb:bodyR x with
     |nil=>rw[hb] at hlen;simp at hlen
     |cons c r=>
      rw[hb] at hd hz;have:=digV_cons hd (fun e=>hz ⟨by rw[e];rfl,.inl hn⟩);omega
    |false=>
     have hbx:bodyR x=x:=by unfold bodyR;rw[hn];rfl
     rw[hn,if_neg (by simp)] at h;rw[hbx] at hd hz hlen;subst h
     cases x with
     |nil=>simp at hlen
     |cons c r=>
      cases r with
      |nil=>
       unfold digV at hd;by_cases hc:48≤c.toNat∧c.toNat≤57
       ·
        rw[if_pos hc] at hd;simp only[digV,Option.some.injEq] at hd;unfold dgA;have:48+m.toNat=c.toNat:=by omega
        rw[this,UInt8.ofNat_toNat]
       · rw[if_neg hc] at hd;cases hd
      |cons d r=>
       have hc:c≠48:=fun e=>hz ⟨by rw[e];rfl,.inr (by simp)⟩
       have:=(digV_cons hd hc).2 (by simp);omega
def nmA (n:Int):List UInt8:=if 100≤n then [UInt8.ofNat (120+(n-100).toNat)] else dgA n
theorem place_text {x:List UInt8}(h:0≤placeNo x):x=[UInt8.ofNat (120+(placeNo x).toNat)]:=by
 unfold placeNo at h ⊢;split
 · rename_i e;rw[e];rfl
 ·
  split
  · rename_i e;rw[e];rfl
  ·
   split
   · rename_i e;rw[e];rfl
   · rename_i a b c;rw[if_neg a,if_neg b,if_neg c] at h;omega
theorem pair_text {x:List UInt8}(h:pOk x=true)(h2:inB (pVl x) 0 9=true):x=nmA (pAt x)++61::dgA (pVl x):=by
 unfold pOk at h;simp only[Bool.and_eq_true] at h;obtain⟨ht,hi,hf⟩:=h;unfold pTw at ht;have hs:=split_two (of_decide_eq_true ht)
 have e1:p1R x=dgA (pVl x):=by
  cases hr:readO (p1R x) with
  |none=>rw[hr] at hf;cases hf
  |some n=>
   have:pVl x=n:=by unfold pVl;rw[hr];rfl
   rw[this] at h2 ⊢;unfold inB at h2;have:=of_decide_eq_true h2;exact read_one hr this.1 this.2
 have e0:p0R x=nmA (pAt x):=by
  unfold pAt;by_cases hp:0≤placeNo (p0R x)
  ·
   rw[if_pos hp];unfold nmA;rw[if_pos (by omega),show 100+placeNo (p0R x)-100=placeNo (p0R x) by omega];exact place_text hp
  ·
   rw[if_neg hp];unfold pIs at hi;rw[decide_eq_false hp,Bool.false_or,Bool.and_eq_true] at hi
   cases hr:readO (p0R x) with
   |none=>rw[hr] at hi;cases hi.1
   |some n=>
    rw[hr] at hi;have h5:=of_decide_eq_true (show decide (0≤n∧n≤5)=true from hi.2);show _=nmA n;unfold nmA;rw[if_neg (by omega)];exact read_one hr h5.1 (by omega)
 rw[←e0,←e1];exact hs
def showP (rs vs:List Int):Nat→List UInt8
 | 0=>[]
 |k+1=>(if 0<k then showP rs vs k++[32] else showP rs vs k)++nmA (rs.getD k 0)++[61]++dgA (vs.getD k 0)
theorem glue_snoc (b:UInt8)(t:List UInt8):∀ {r:List (List UInt8)},r≠[]→glueB b (r++[t])=glueB b r++b::t
 | [],h=>absurd rfl h
 | [s],_=>rfl
 |s::u::r,_=>by
  show glueB b (s::(u::r++[t]))=_;rw[glueB_cons b s (by simp),glue_snoc b t (r:=u::r) (by simp),glueB_cons b s (by simp),List.append_assoc];rfl
theorem show_text {l:List UInt8}(h:raT l=true):showP (raR l) (raV l) (raR l).length=l:=by
 have hp:∀x,x∈wsA l→pOk x=true:=by
  have:=h;unfold raT at this;rw[Bool.and_eq_true,List.all_eq_true] at this;exact this.1
 have hk:okA 6 ((wsA l).map pAt) ((wsA l).map pVl)=true:=by
  unfold raT at h;rw[Bool.and_eq_true] at h;exact h.2
 obtain⟨h6,hl,hu⟩:=okA_use hk;have eR:raR l=(wsA l).map pAt:=by unfold raR;rw[if_pos h]
 have eV:raV l=(wsA l).map pVl:=by unfold raV;rw[if_pos h]
 rw[eR,eV,List.length_map]
 have key:∀k,k≤(wsA l).length→showP ((wsA l).map pAt) ((wsA l).map pVl) k=glueB 32 ((wsA l).take k):=by
  intro k
  induction k with
  |zero=>intro _;rfl
  |succ k ih=>
   intro hk1;have hlt:k<(wsA l).length:=by omega
   have hm:(wsA l).getD k []∈wsA l:=by rw[List.getD_eq_getElem?_getD,List.getElem?_eq_getElem hlt];exact List.getElem_mem hlt
   have g1:((wsA l).map pAt).getD k 0=pAt ((wsA l).getD k []):=by
    rw[List.getD_eq_getElem?_getD,List.getD_eq_getElem?_getD,List.getElem?_map,List.getElem?_eq_getElem hlt];rfl
   have g2:((wsA l).map pVl).getD k 0=pVl ((wsA l).getD k []):=by
    rw[List.getD_eq_getElem?_getD,List.getD_eq_getElem?_getD,List.getElem?_map,List.getElem?_eq_getElem hlt];rfl
   have hv:=(hu k (by rw[List.length_map];exact hlt)).2;rw[g2] at hv;have ht:=pair_text (hp _ hm) hv
   have e:(wsA l).take (k+1)=(wsA l).take k++[(wsA l).getD k []]:=by
    rw[List.take_add_one,List.getElem?_eq_getElem hlt,List.getD_eq_getElem?_getD,List.getElem?_eq_getElem hlt];rfl
   show (if 0<k then showP ((wsA l).map pAt) ((wsA l).map pVl) k++[32] else showP ((wsA l).map pAt) ((wsA l).map pVl) k)++nmA (((wsA l).map pAt).getD k 0)++[61]++dgA (((wsA l).map pVl).getD k 0)=_;rw[ih (by omega),g1,g2,e];generalize (wsA l).getD k []=x at ht;by_cases hk0:0<k
   ·
    rw[if_pos hk0,glue_snoc 32 x (by intro q;have:=congrArg List.length q;rw[List.length_take,List.length_nil] at this;omega)];have e2:nmA (pAt x)++[61]++dgA (pVl x)=x:=by rw[List.append_assoc];exact ht.symm
    rw[show ∀a b c d e:List UInt8,a++b++c++d++e=a++(b++(c++d++e)) from fun a b c d e=>by simp only[List.append_assoc],e2];rfl
   ·
    obtain rfl:k=0:=by omega
    rw[if_neg hk0];show ([]++nmA (pAt x)++[61]++dgA (pVl x))=x;rw[List.nil_append,List.append_assoc];exact ht.symm
 rw[key _ (Nat.le_refl _),List.take_length];exact glue_split 32 l
theorem index_cons (b c:UInt8)(l:List UInt8):Lib.index (b::l) [c]=if b=c then 0 else if Lib.index l [c]=-1 then -1 else Lib.index l [c]+1:=by
 rw[Lib.index];by_cases h:b=c
 ·
  subst h;simp[List.isPrefixOf]
 ·
  rw[if_neg h];have:([c]:List UInt8).isPrefixOf (b::l)=false:=by simp[List.isPrefixOf,Ne.symm h]
  rw[this];simp
theorem index_low (c:UInt8)(l:List UInt8):-1≤Lib.index l [c]:=Lib.index_ge l [c]
theorem sp_miss (c:UInt8):∀s:List UInt8,Lib.index s [c]=-1→splitL c s=[s]
 | [],_=>rfl
 |b::l,h=>by
  rw[index_cons] at h;by_cases e:b=c
  · rw[if_pos e] at h;cases h
  ·
   rw[if_neg e] at h;have hl:=index_low c l;by_cases e2:Lib.index l [c]=-1
   ·
    unfold splitL;rw[if_neg e,sp_miss c l e2];rfl
   · rw[if_neg e2] at h;omega
theorem sp_hit (c:UInt8):∀(s:List UInt8) (i:Nat),Lib.index s [c]=(i:Int)→splitL c s=s.take i::splitL c (s.drop (i+1))
 | [],i,h=>by simp[Lib.index] at h
 |b::l,i,h=>by
  rw[index_cons] at h;by_cases e:b=c
  ·
   rw[if_pos e] at h;obtain rfl:i=0:=by omega
   conv=>lhs;unfold splitL
   rw[if_pos e];rfl
  ·
   rw[if_neg e] at h;have hl:=index_low c l;by_cases e2:Lib.index l [c]=-1
   · rw[if_pos e2] at h;omega
   ·
    rw[if_neg e2] at h;obtain⟨j,rfl⟩:∃j:Nat,i=j+1:=⟨i-1,by omega⟩;have ih:=sp_hit c l j (by omega)
    conv=>lhs;unfold splitL
    rw[if_neg e,ih];rfl
theorem sp_all (c:UInt8):∀(k:Nat) (s:List UInt8),s.length≤k→Lib.splitK [c] 0 k s=splitL c s
 | 0,s,h=>by
  have:s=[]:=List.eq_nil_of_length_eq_zero (by omega);subst this;rfl
 |k+1,s,h=>by
  rw[Lib.splitK];split
  ·
   rename_i hm;rw[sp_miss c s (by simpa using hm)]
  ·
   rename_i hm;have hge:=index_low c s;have hne:Lib.index s [c]≠-1:=by simpa using hm
   obtain⟨i,hi⟩:∃i:Nat,Lib.index s [c]=(i:Int):=⟨(Lib.index s [c]).toNat,by omega⟩;rw[sp_hit c s i hi,hi,Int.toNat_natCast,Nat.add_zero];show _::Lib.splitK [c] 0 k (s.drop (i+1))=_;rw[sp_all c k _ (by rw[List.length_drop];omega)]
theorem sp_some (c:UInt8):∀(k:Nat) (s:List UInt8),((Lib.splitK [c] 0 k s).length≤k→Lib.splitK [c] 0 k s=splitL c s)∧(Lib.splitK [c] 0 k s).length≤k+1∧(k<(Lib.splitK [c] 0 k s).length→k<(splitL c s).length)
 | 0,s=>⟨fun h=>by simp[Lib.splitK] at h,by simp[Lib.splitK],fun _=>List.length_pos_iff.2 (splitL_ne c s)⟩
 |k+1,s=>by
  rw[Lib.splitK];split
  ·
   rename_i hm;rw[sp_miss c s (by simpa using hm)];exact⟨fun _=>rfl,by simp,fun h=>h⟩
  ·
   rename_i hm;have hge:=index_low c s;have hne:Lib.index s [c]≠-1:=by simpa using hm
   obtain⟨i,hi⟩:∃i:Nat,Lib.index s [c]=(i:Int):=⟨(Lib.index s [c]).toNat,by omega⟩;obtain⟨i1,i2,i3⟩:=sp_some c k (s.drop (i+1));rw[sp_hit c s i hi,hi,Int.toNat_natCast,Nat.add_zero];show ((_::Lib.splitK [c] 0 k (s.drop (i+1))).length≤k+1→_::Lib.splitK [c] 0 k (s.drop (i+1))=_)∧(_::Lib.splitK [c] 0 k (s.drop (i+1))).length≤k+1+1∧(k+1<(_::Lib.splitK [c] 0 k (s.drop (i+1))).length→_);simp only[List.length_cons];refine⟨fun h=>by rw[i1 (by omega)],by omega,fun h=>by have:=i3 (by omega);omega⟩
theorem spN (c:UInt8)(n:Nat)(hn:0<n)(s:List UInt8):(Lib.splitN s [c] n).length≤n∧((Lib.splitN s [c] n).length<n→Lib.splitN s [c] n=splitL c s)∧((Lib.splitN s [c] n).length=n→n≤(splitL c s).length):=by
 unfold Lib.splitN;by_cases h:n≤s.length+1
 ·
  rw[Nat.min_eq_left h];obtain⟨i1,i2,i3⟩:=sp_some c (n-1) s;exact⟨by omega,fun h=>i1 (by omega),fun h=>by have:=i3 (by omega);omega⟩
 ·
  rw[Nat.min_eq_right (by omega),Nat.add_sub_cancel];have e:=sp_all c s.length s (Nat.le_refl _);obtain⟨i1,i2,i3⟩:=sp_some c s.length s;rw[e] at i2 ⊢;exact⟨by omega,fun _=>rfl,fun h=>by omega⟩
def dgN (c:UInt8):Int:=Lib.indexByte [48,49,50,51,52,53,54,55,56,57] c
def akN (c:UInt8):Int:=if 0≤Lib.indexByte [120,121,122] c then 100+Lib.indexByte [120,121,122] c else dgN c
def rP (x:List UInt8):Bool:=decide (x.length=3)&&decide (x.getD 1 0=61)
def rR (x:List UInt8):Int:=akN (x.getD 0 0)
def rV (x:List UInt8):Int:=dgN (x.getD 2 0)
def goodB (r v:Int):Bool:=keyB r 6&&inB v 0 9
def keys:List UInt8:=[48,49,50,51,52,53,120,121,122]
def vals:List UInt8:=[48,49,50,51,52,53,54,55,56,57]
theorem all_keys:(List.range 256).all (fun a=>!keyB (akN (UInt8.ofNat a)) 6||keys.contains (UInt8.ofNat a))=true:=by decide +kernel
theorem all_vals:(List.range 256).all (fun a=>!inB (dgN (UInt8.ofNat a)) 0 9||vals.contains (UInt8.ofNat a))=true:=by decide +kernel
theorem key_mem {a:UInt8}(h:keyB (akN a) 6=true):a∈keys:=by
 have:=List.all_eq_true.1 all_keys a.toNat (by rw[List.mem_range];exact a.toNat_lt);rw[UInt8.ofNat_toNat,h,Bool.not_true,Bool.false_or] at this
 simpa using this
theorem val_mem {a:UInt8}(h:inB (dgN a) 0 9=true):a∈vals:=by
 have:=List.all_eq_true.1 all_vals a.toNat (by rw[List.mem_range];exact a.toNat_lt);rw[UInt8.ofNat_toNat,h,Bool.not_true,Bool.false_or] at this
 simpa using this
theorem all_fwd:keys.all (fun a=>vals.all (fun b=>pOk [a,61,b]&&(decide (pAt [a,61,b]=akN a)&&decide (pVl [a,61,b]=dgN b))))=true:=by decide +kernel
theorem three_of {x:List UInt8}(h:rP x=true):x=[x.getD 0 0,61,x.getD 2 0]:=by
 unfold rP at h;simp only[Bool.and_eq_true,decide_eq_true_eq] at h;obtain⟨h3,h1⟩:=h
 match x,h3 with
 | [a,b,c],_=>
  have:b=61:=h1;rw[this];rfl
theorem word_fwd {x:List UInt8}(h:rP x=true)(hg:goodB (rR x) (rV x)=true):pOk x=true∧pAt x=rR x∧pVl x=rV x:=by
 unfold goodB rR rV at hg;rw[Bool.and_eq_true] at hg;have e:=three_of h;have h1:=key_mem hg.1;have h2:=val_mem hg.2;unfold rR rV;generalize x.getD 0 0=a at *;generalize x.getD 2 0=b at *;have:=List.all_eq_true.1 (List.all_eq_true.1 all_fwd a h1) b h2;simp only[Bool.and_eq_true,decide_eq_true_eq] at this;rw[e];exact this
theorem all_nm:[0,1,2,3,4,5,100,101,102].all (fun r:Int=>decide ((nmA r).length=1)&&decide (akN ((nmA r).getD 0 0)=r))=true:=by decide +kernel
theorem all_dg:[0,1,2,3,4,5,6,7,8,9].all (fun r:Int=>decide ((dgA r).length=1)&&decide (dgN ((dgA r).getD 0 0)=r))=true:=by decide +kernel
theorem word_back {x:List UInt8}(h:pOk x=true)(hg:goodB (pAt x) (pVl x)=true):rP x=true∧rR x=pAt x∧rV x=pVl x:=by
 unfold goodB at hg;rw[Bool.and_eq_true] at hg;have e:=pair_text h hg.2
 have h1:pAt x∈[0,1,2,3,4,5,100,101,102]:=by
  have:=hg.1;unfold keyB inB at this;simp only[Bool.or_eq_true,decide_eq_true_eq] at this;simp only[List.mem_cons,List.not_mem_nil,or_false];omega
 have h2:pVl x∈[0,1,2,3,4,5,6,7,8,9]:=by
  have:=hg.2;unfold inB at this;simp only[decide_eq_true_eq] at this;simp only[List.mem_cons,List.not_mem_nil,or_false];omega
 have c1:=List.all_eq_true.1 all_nm _ h1;have c2:=List.all_eq_true.1 all_dg _ h2;simp only[Bool.and_eq_true,decide_eq_true_eq] at c1 c2;generalize hr:pAt x=r at *;generalize hv:pVl x=v at *;obtain⟨l1,e1⟩:=c1;obtain⟨l2,e2⟩:=c2;generalize nmA r=s at *;generalize dgA v=t at *
 match s,t,l1,l2 with
 | [a],[b],_,_=>
  subst e;exact⟨rfl,e1,e2⟩
def allG (f g:List UInt8→Int)(ws:List (List UInt8)):Bool:=ws.all (fun x=>goodB (f x) (g x))
theorem map_at (f:List UInt8→Int)(ws:List (List UInt8)){i:Nat}(hi:i<ws.length):(ws.map f).getD i 0=f (ws.getD i []):=by
 rw[List.getD_eq_getElem?_getD,List.getD_eq_getElem?_getD,List.getElem?_map,List.getElem?_eq_getElem hi];rfl
theorem mem_at (ws:List (List UInt8)){i:Nat}(hi:i<ws.length):ws.getD i []∈ws:=by
 rw[List.getD_eq_getElem?_getD,List.getElem?_eq_getElem hi];exact List.getElem_mem hi
theorem askP_all {reads:Int}{rs vs:List Int}:∀n:Nat,(∀i,i<n→keyB (rs.getD i 0) reads=true∧inB (vs.getD i 0) 0 9=true)→askP reads rs vs n=true
 | 0,_=>rfl
 |n+1,h=>by
  show (askP reads rs vs n&&(keyB (rs.getD n 0) reads&&inB (vs.getD n 0) 0 9))=true;rw[askP_all n (fun i hi=>h i (by omega)),(h n (by omega)).1,(h n (by omega)).2];rfl
theorem okA_map (f g:List UInt8→Int)(ws:List (List UInt8)):okA 6 (ws.map f) (ws.map g)=(decide (ws.length≤6)&&allG f g ws):=by
 rw[Bool.eq_iff_iff];constructor
 ·
  intro h;obtain⟨h6,-,hu⟩:=okA_use h;rw[List.length_map] at h6 hu;rw[Bool.and_eq_true,decide_eq_true_eq];refine⟨h6,List.all_eq_true.2 fun x hx=>?_⟩;obtain⟨i,hi,e⟩:=List.getElem_of_mem hx;have:=hu i hi;rw[map_at f ws hi,map_at g ws hi,List.getD_eq_getElem?_getD,List.getElem?_eq_getElem hi] at this;rw[←e];unfold goodB;rw[Bool.and_eq_true];exact this
 ·
  intro h;rw[Bool.and_eq_true,decide_eq_true_eq] at h;unfold okA;rw[List.length_map,List.length_map,decide_eq_true h.1,decide_eq_true rfl,Bool.true_and,Bool.true_and];refine askP_all _ fun i hi=>?_
  rw[map_at f ws hi,map_at g ws hi];have:=List.all_eq_true.1 h.2 _ (mem_at ws hi);unfold goodB at this;rw[Bool.and_eq_true] at this;exact this
def wsI (l:List UInt8):List (List UInt8):=Lib.splitN l [32] 7
def riT (l:List UInt8):Bool:=(wsI l).all rP&&okA 6 ((wsI l).map rR) ((wsI l).map rV)
theorem ri_seven (l:List UInt8):(wsI l).length≤7:=(spN 32 7 (by omega) l).1
theorem ri_same (l:List UInt8):riT l=raT l∧(raT l=true→(wsI l).map rR=raR l∧(wsI l).map rV=raV l):=by
 obtain⟨h7,hlt,heq⟩:=spN 32 7 (by omega) l;by_cases e:(Lib.splitN l [32] 7).length=7
 ·
  have h1:riT l=false:=by
   unfold riT;rw[okA_map,decide_eq_false (show ¬(wsI l).length≤6 by unfold wsI;omega)];simp
  have h2:raT l=false:=by
   unfold raT;rw[okA_map,decide_eq_false (show ¬(wsA l).length≤6 by have:=heq e;unfold wsA;omega)];simp
  rw[h1,h2];exact⟨rfl,fun q=>by cases q⟩
 ·
  have ew:wsI l=wsA l:=hlt (by omega)
  have fw:riT l=true→raT l=true∧(wsI l).map rR=(wsA l).map pAt∧(wsI l).map rV=(wsA l).map pVl:=by
   intro h;unfold riT at h;rw[okA_map,Bool.and_eq_true,Bool.and_eq_true,decide_eq_true_eq] at h;obtain⟨hp,h6,hg⟩:=h;rw[ew] at hp h6 hg ⊢;have hw:=fun x (hx:x∈wsA l)=>word_fwd (List.all_eq_true.1 hp x hx) (List.all_eq_true.1 hg x hx)
   refine⟨?_,List.map_congr_left fun x hx=>(hw x hx).2.1.symm,List.map_congr_left fun x hx=>(hw x hx).2.2.symm⟩;unfold raT;rw[okA_map,decide_eq_true h6,Bool.and_eq_true,Bool.true_and];refine⟨List.all_eq_true.2 fun x hx=>(hw x hx).1,List.all_eq_true.2 fun x hx=>?_⟩;rw[(hw x hx).2.1,(hw x hx).2.2];exact List.all_eq_true.1 hg x hx
  have bk:raT l=true→riT l=true:=by
   intro h;unfold raT at h;rw[okA_map,Bool.and_eq_true,Bool.and_eq_true,decide_eq_true_eq] at h;obtain⟨hp,h6,hg⟩:=h;have hw:=fun x (hx:x∈wsA l)=>word_back (List.all_eq_true.1 hp x hx) (List.all_eq_true.1 hg x hx)
   unfold riT;rw[okA_map,ew,decide_eq_true h6,Bool.and_eq_true,Bool.true_and];refine⟨List.all_eq_true.2 fun x hx=>(hw x hx).1,List.all_eq_true.2 fun x hx=>?_⟩;show goodB (rR x) (rV x)=true;rw[(hw x hx).2.1,(hw x hx).2.2];exact List.all_eq_true.1 hg x hx
  have both:riT l=raT l:=by
   rw[Bool.eq_iff_iff];exact⟨fun h=>(fw h).1,bk⟩
  refine⟨both,fun h=>?_⟩;obtain⟨-,a,b⟩:=fw (bk h);have eR:raR l=(wsA l).map pAt:=by unfold raR;rw[if_pos h]
  have eV:raV l=(wsA l).map pVl:=by unfold raV;rw[if_pos h]
  rw[eR,eV];exact⟨a,b⟩
def Tryd.lays137_ren:Go.Shelf.Ren:=⟨fun|137=>72|217=>85|266=>102|n=>n,fun|9=>9|5=>5|3=>3|n=>n,fun|n=>n⟩
theorem Tryd.lays137:Go.Proofs.Lays.n137 Tryd.prog Tryd.lays137_ren:={
 mixed:=by kernel_rfl
 f137:=Tryd.func72.trans (congrArg some (by kernel_rfl))
 f217:=Tryd.func85.trans (congrArg some (by kernel_rfl))
 f266:=Tryd.func102.trans (congrArg some (by kernel_rfl))
 t3:=Tryd.underlying3
 a3:=Tryd.isAgg3
 z3:=Tryd.sizeOf3
 v3:=Tryd.zeroValue3
 t5:=Tryd.underlying5
 a5:=Tryd.isAgg5
 z5:=Tryd.sizeOf5
 v5:=Tryd.zeroValue5
 t9:=Tryd.underlying9
 a9:=Tryd.isAgg9
 z9:=Tryd.sizeOf9
 v9:=Tryd.zeroValue9 }
theorem Tryd.strings_IndexByte (s:ByteArray)(c:Int)(w:World):
  Calls Tryd.prog 72 #[.string s,.int .u8 c] w fun e w'=>e = .returned (.int .i64 (Lib.indexByte s.data.toList c.toNat.toUInt8))∧w'=w:=Any.strings_IndexByte Tryd.lays137 s c w
def Tryd.lays147_ren:Go.Shelf.Ren:=⟨fun|147=>53|221=>71|268=>82|138=>83|143=>84|195=>98|197=>99|218=>100|219=>101|260=>108|217=>85|225=>109|224=>110|267=>111|266=>102|314=>115|n=>n,fun|9=>9|3=>3|31=>31|4=>4|0=>0|105=>154|21=>21|5=>5|46=>113|119=>166|139=>169|138=>168|146=>171|51=>170|n=>n,fun|1=>4|3=>5|4=>6|n=>n⟩
theorem Tryd.lays147:Go.Proofs.Lays.n147 Tryd.prog Tryd.lays147_ren:={
 mixed:=by kernel_rfl
 f138:=Tryd.func83.trans (congrArg some (by kernel_rfl))
 f143:=Tryd.func84.trans (congrArg some (by kernel_rfl))
 f147:=Tryd.func53.trans (congrArg some (by kernel_rfl))
 f195:=Tryd.func98.trans (congrArg some (by kernel_rfl))
 f197:=Tryd.func99.trans (congrArg some (by kernel_rfl))
 f217:=Tryd.func85.trans (congrArg some (by kernel_rfl))
 f218:=Tryd.func100.trans (congrArg some (by kernel_rfl))
 f219:=Tryd.func101.trans (congrArg some (by kernel_rfl))
 f221:=Tryd.func71.trans (congrArg some (by kernel_rfl))
 f224:=Tryd.func110.trans (congrArg some (by kernel_rfl))
 f225:=Tryd.func109.trans (congrArg some (by kernel_rfl))
 f260:=Tryd.func108.trans (congrArg some (by kernel_rfl))
 f266:=Tryd.func102.trans (congrArg some (by kernel_rfl))
 f267:=Tryd.func111.trans (congrArg some (by kernel_rfl))
 f268:=Tryd.func82.trans (congrArg some (by kernel_rfl))
 f314:=Tryd.func115.trans (congrArg some (by kernel_rfl))
 t0:=Tryd.underlying0
 a0:=Tryd.isAgg0
 z0:=Tryd.sizeOf0
 v0:=Tryd.zeroValue0
 t3:=Tryd.underlying3
 a3:=Tryd.isAgg3
 z3:=Tryd.sizeOf3
 v3:=Tryd.zeroValue3
 t4:=Tryd.underlying4
 a4:=Tryd.isAgg4
 z4:=Tryd.sizeOf4
 v4:=Tryd.zeroValue4
 t5:=Tryd.underlying5
 a5:=Tryd.isAgg5
 z5:=Tryd.sizeOf5
 v5:=Tryd.zeroValue5
 t9:=Tryd.underlying9
 a9:=Tryd.isAgg9
 z9:=Tryd.sizeOf9
 v9:=Tryd.zeroValue9
 t21:=Tryd.underlying21
 a21:=Tryd.isAgg21
 z21:=Tryd.sizeOf21
 v21:=Tryd.zeroValue21
 t31:=Tryd.underlying31
 a31:=Tryd.isAgg31
 z31:=Tryd.sizeOf31
 v31:=Tryd.zeroValue31
 t46:=Tryd.underlying113
 a46:=Tryd.isAgg113
 z46:=Tryd.sizeOf113
 v46:=Tryd.zeroValue113
 t51:=Tryd.underlying170
 a51:=Tryd.isAgg170
 z51:=Tryd.sizeOf170
 v51:=Tryd.zeroValue170
 t105:=Tryd.underlying154
 a105:=Tryd.isAgg154
 z105:=Tryd.sizeOf154
 v105:=Tryd.zeroValue154
 t119:=Tryd.underlying166
 a119:=Tryd.isAgg166
 z119:=Tryd.sizeOf166
 t138:=Tryd.underlying168
 a138:=Tryd.isAgg168
 z138:=Tryd.sizeOf168
 v138:=Tryd.zeroValue168
 t139:=Tryd.underlying169
 a139:=Tryd.isAgg169
 z139:=Tryd.sizeOf169
 v139:=Tryd.zeroValue169
 t146:=Tryd.underlying171
 a146:=Tryd.isAgg171
 z146:=Tryd.sizeOf171
 v146:=Tryd.zeroValue171
 g1:=by kernel_rfl
 g3:=by kernel_rfl
 g4:=by kernel_rfl }
theorem Tryd.strings_SplitN (s sep:ByteArray)(n:Nat)(m:Int)(w:World)(hs:s.size<4294967281)(hm:w.cell? ⟨4,0,none⟩=some (.int .i64 m))(h1:1≤sep.size)(hn:1≤n)(hn63:n≤9223372036854775807):
  Calls Tryd.prog 53 #[.string s,.string sep,.int .i64 n] w fun e w'=>
   e = .returned (.slice (some ⟨w.heap.size,0,none⟩) (Lib.splitB sep 0 (min n (s.size+1)-1) s).length (min n (s.size+1)))∧w'=w.alloc (.cells (Lib.cellsOf (Lib.splitB sep 0 (min n (s.size+1)-1) s) (min n (s.size+1))) 9):=Any.strings_SplitN Tryd.lays147 (by kernel_rfl) s sep n m w hs hm h1 hn hn63
abbrev nilVK:Value:= .slice none 0 0
abbrev askC (x y:Value):Obj:= .cells #[x,y] 27
def StK (w1 wr:World)(D:Nat)(x y:Value):Prop:=wr.heap[D]? = some (askC x y)∧w1.grownBy wr (some D)
theorem StK.start {w1:World}(x y:Value):StK w1 (w1.alloc (askC x y)) w1.heap.size x y:=
 ⟨heap_alloc_new w1 _,World.grownBy_alloc w1 _ (some w1.heap.size)⟩
theorem StK.size {w1 wr:World}{D:Nat}{x y:Value}(h:StK w1 wr D x y):D<wr.heap.size:=(Array.getElem?_eq_some_iff.1 h.1).1
theorem StK.keep {w1 wr wr':World}{D:Nat}{x y:Value}(h:StK w1 wr D x y)(hk:Keep wr wr'):StK w1 wr' D x y:=
 ⟨(Below.block hk D h.size).trans h.1,grown_trans h.2 ⟨Below.os hk,Below.tape hk,Below.output hk,Below.size hk,fun i hi _=>Below.block hk i hi⟩⟩
theorem StK.cells {w1 wr:World}{D:Nat}{x y:Value}(h:StK w1 wr D x y):
  wr.cell? ⟨D,0,none⟩=some x∧wr.cell? ⟨D,1,none⟩=some y:=
 ⟨cell_of_row wr D 0 _ _ (0,0) h.1,cell_of_row wr D 1 _ _ (0,0) h.1⟩
theorem StK.free {w1 wr:World}{D:Nat}{x y:Value}(h:StK w1 wr D x y)(i:Nat):wr.frozen? ⟨D,i,none⟩=false:=frozen_of_row wr D i _ _ h.1
theorem StK.set0 {w1 wr:World}{D:Nat}{x y:Value}(h:StK w1 wr D x y)(z:Value):StK w1 (wr.setCell ⟨D,0,none⟩ z) D z y:=
 ⟨by rw[heap_setCell_same wr D 0 _ _ _ h.1];rfl,grown_trans h.2 ⟨rfl,rfl,rfl,by simp,fun i _ hi=>heap_setCell_other wr ⟨D,0,none⟩ i _ (fun e=>hi (by simp[e]))⟩⟩
theorem StK.set1 {w1 wr:World}{D:Nat}{x y:Value}(h:StK w1 wr D x y)(z:Value):StK w1 (wr.setCell ⟨D,1,none⟩ z) D x z:=
 ⟨by rw[heap_setCell_same wr D 1 _ _ _ h.1];rfl,grown_trans h.2 ⟨rfl,rfl,rfl,by simp,fun i _ hi=>heap_setCell_other wr ⟨D,1,none⟩ i _ (fun e=>hi (by simp[e]))⟩⟩
theorem grown_setTK (w:World)(g j:Nat)(v:Value):w.grownBy (w.setCell ⟨g,j,none⟩ v) (some g):=
 ⟨rfl,rfl,rfl,by simp,fun i _ hi=>heap_setCell_other w ⟨g,j,none⟩ i _ (fun e=>hi (by simp[e]))⟩
theorem Own.otherK {wr wr':World}{base D:Nat}{v:Value}{zs:List Int}(h:Own wr base v zs)(hb:D<base)(hg:wr.grownBy wr' (some D)):Own wr' base v zs:=
 h.kept hg (by
  cases hu:v.ownBlock with
  |none=>exact .inl rfl
  |some k=>exact .inr (fun e=>by have:=h.ge k hu;have:=Option.some.inj e;omega))
structure AK (w w1 wr:World)(uR uV:Value)(rs vs:List Int):Prop where
 res:wr.heap[w.heap.size]? = some (askC nilVK nilVK)
 box:wr.heap[w.heap.size+1]? = some (askC uR uV)
 R:Own wr w1.heap.size uR rs
 V:Own wr w1.heap.size uV vs
 ap:uR.ownBlock=none∨uR.ownBlock≠uV.ownBlock
 old:∀i,i<w1.heap.size→i≠w.heap.size+1→wr.heap[i]? = w1.heap[i]?
 size:w1.heap.size≤wr.heap.size
 low:w.heap.size+1<w1.heap.size
 K:Keep w wr
theorem AK.lt {w w1 wr:World}{uR uV:Value}{rs vs:List Int}(h:AK w w1 wr uR uV rs vs):w.heap.size+1<wr.heap.size:=(Array.getElem?_eq_some_iff.1 h.box).1
theorem AK.start (w w1:World)(k:Keep ((w.alloc (askC nilVK nilVK)).alloc (askC nilVK nilVK)) w1):AK w w1 w1 nilVK nilVK [] []:=by
 have l1:((w.alloc (askC nilVK nilVK)).alloc (askC nilVK nilVK)).heap.size=w.heap.size+1+1:=by rw[heap_size,heap_size]
 refine⟨?_,?_,World.ownsRow_nil _ _ _ _,World.ownsRow_nil _ _ _ _,.inl rfl,fun _ _ _=>rfl,Nat.le_refl _,by have:=k.size;omega,(((Keep.refl w).alloc _).alloc _).trans k⟩
 ·
  have k0:Keep (w.alloc (askC nilVK nilVK)) ((w.alloc (askC nilVK nilVK)).alloc (askC nilVK nilVK)):=(Keep.refl _).alloc _;exact (Below.block (k0.trans k) _ (by rw[heap_size];omega)).trans (heap_alloc_new w _)
 ·
  have:=heap_alloc_new (w.alloc (askC nilVK nilVK)) (askC nilVK nilVK);rw[heap_size] at this;exact (Below.block k _ (by omega)).trans this
theorem AK.keep {w w1 wr wr':World}{uR uV:Value}{rs vs:List Int}(h:AK w w1 wr uR uV rs vs)(k:Keep wr wr'):AK w w1 wr' uR uV rs vs where
 res:=(Below.block k _ (by have:=h.lt;omega)).trans h.res
 box:=(Below.block k _ h.lt).trans h.box
 R:=h.R.keep k
 V:=h.V.keep k
 ap:=h.ap
 old:=fun i hi hne=>(Below.block k i (Nat.lt_of_lt_of_le hi h.size)).trans (h.old i hi hne)
 size:=Nat.le_trans h.size k.size
 low:=h.low
 K:=h.K.trans k
theorem AK.cells {w w1 wr:World}{uR uV:Value}{rs vs:List Int}(h:AK w w1 wr uR uV rs vs):
  wr.cell? ⟨w.heap.size+1,0,none⟩=some uR∧wr.cell? ⟨w.heap.size+1,1,none⟩=some uV:=
 ⟨cell_of_row wr _ 0 _ _ (0,0) h.box,cell_of_row wr _ 1 _ _ (0,0) h.box⟩
theorem AK.cell {w w1 wr:World}{uR uV:Value}{rs vs:List Int}(h:AK w w1 wr uR uV rs vs){a:Addr}(ha:a.block<w1.heap.size)(hne:a.block≠w.heap.size+1):wr.cell? a=w1.cell? a:=by
 unfold World.cell?;rw[h.old _ ha hne]
theorem ne_own {w:World}{base D:Nat}{v:Value}{zs:List Int}(h:Own w base v zs)(hD:D<base):some D≠v.ownBlock:=fun e=>by have:=h.ge D e.symm;omega
theorem AK.pushR {w w1 wr wa wb:World}{uR uV u:Value}{rs vs:List Int}{x:Int}(h:AK w w1 wr uR uV rs vs)(k:Keep wr wa)(o:Own wb w1.heap.size u (rs++[x]))(g:wa.grownBy wb uR.ownBlock)(hb:u.ownBlock=uR.ownBlock∨u.ownBlock=some wa.heap.size):
  AK w w1 (wb.setCell ⟨w.heap.size+1,0,none⟩ u) u uV (rs++[x]) vs:=by
 have h1:=h.keep k;have hl:=h1.lt;have hlow:=h.low;have e2:wb.heap[w.heap.size+1]? = some (askC uR uV):=(g.block _ hl (ne_own h1.R hlow)).trans h1.box;have g3:=grown_setTK wb (w.heap.size+1) 0 u
 have oV:Own wb w1.heap.size uV vs:=World.ownsRow.kept h1.V g (by
  rcases h1.ap with e|e
  · rw[e];cases uV.ownBlock<;>simp
  · exact .inr (fun q=>e q.symm))
 refine⟨?_,?_,o.otherK hlow g3,oV.otherK hlow g3,?_,fun i hi hne=>?_,?_,hlow,?_⟩
 · exact (g3.block _ (by have:=g.size;omega) (by simp)).trans ((g.block _ (by omega) (ne_own h1.R (by omega))).trans h1.res)
 · rw[heap_setCell_same wb _ 0 _ _ _ e2];rfl
 ·
  rcases hb with e|e
  · rw[e];exact h1.ap
  ·
   refine .inr (fun q=>?_);have:=(World.ownsRow.lt h1.V _ (q.symm.trans e)).2;omega
 ·
  have hs:=h1.size;exact (g3.block _ (by have:=g.size;omega) (fun e=>hne (Option.some.inj e))).trans ((g.block _ (by omega) (ne_own h1.R hi)).trans (h1.old i hi hne))
 · have:=g.size;have:=g3.size;have:=h1.size;omega
 · exact (h1.K.grown g (fun q hq=>by have:=h1.R.ge q hq;omega)).grown g3 (fun q hq=>by have:=Option.some.inj hq;omega)
theorem AK.pushV {w w1 wr wa wb:World}{uR uV u:Value}{rs vs:List Int}{x:Int}(h:AK w w1 wr uR uV rs vs)(k:Keep wr wa)(o:Own wb w1.heap.size u (vs++[x]))(g:wa.grownBy wb uV.ownBlock)(hb:u.ownBlock=uV.ownBlock∨u.ownBlock=some wa.heap.size):
  AK w w1 (wb.setCell ⟨w.heap.size+1,1,none⟩ u) uR u rs (vs++[x]):=by
 have h1:=h.keep k;have hl:=h1.lt;have hlow:=h.low;have e2:wb.heap[w.heap.size+1]? = some (askC uR uV):=(g.block _ hl (ne_own h1.V hlow)).trans h1.box;have g3:=grown_setTK wb (w.heap.size+1) 1 u;have oR:Own wb w1.heap.size uR rs:=World.ownsRow.kept h1.R g h1.ap;refine⟨?_,?_,oR.otherK hlow g3,o.otherK hlow g3,?_,fun i hi hne=>?_,?_,hlow,?_⟩
 · exact (g3.block _ (by have:=g.size;omega) (by simp)).trans ((g.block _ (by omega) (ne_own h1.V (by omega))).trans h1.res)
 · rw[heap_setCell_same wb _ 1 _ _ _ e2];rfl
 ·
  rcases hb with e|e
  · rw[e];exact h1.ap
  ·
   cases hu:uR.ownBlock with
   |none=>exact .inl rfl
   |some q=>exact .inr (fun q'=>by have:=(World.ownsRow.lt h1.R _ hu).2;rw[e] at q';have:=Option.some.inj q';omega)
 ·
  have hs:=h1.size;exact (g3.block _ (by have:=g.size;omega) (fun e=>hne (Option.some.inj e))).trans ((g.block _ (by omega) (ne_own h1.V hi)).trans (h1.old i hi hne))
 · have:=g.size;have:=g3.size;have:=h1.size;omega
 · exact (h1.K.grown g (fun q hq=>by have:=h1.V.ge q hq;omega)).grown g3 (fun q hq=>by have:=Option.some.inj hq;omega)
theorem step_append_at {P:Program}{w:World}{ops:Array Oper}{o:Oper}{a:Act}{K:Act→World→Prop}{Q:Exit→Act→World→Prop}{E:Prop}(hgd:o.guard=none)(s x:Operand)(t:TypeId)
  (ho:o.op = .call { callee:= .builtin .append,args:=#[s,x],argTypes:=#[t,t] })
  (base:Nat) (e:TypeId) (i:TypeInfo) (z:Value) (size bytes:Nat) (ht:P.underlying t=some (.slice e)) (hi:P.info? e=some i) (hz:i.zero=some z)
  (hsize:i.size=size) (hby:i.bytes=bytes) (hzs:z.cells.size=size) (hsz:0<size)
  (v:Value) (n:Nat) (xs:List Value) (hs:a.eval s=v) (hown:w.ownsRow base e size v n xs)
  (ad:Addr) (m c:Nat) (news:List Value) (hx:a.eval x = .slice (some ad) m c) (hl:news.length=m*size) (hnews:∀j u,news[j]? = some u→w.cell? (ad.add j)=some u) (h1:∀u∈news,u.oneCell'=true)
  (h63:n+m≤maxLen) (hbytes:(n+m)*bytes≤140737488355328) (hbase:base≤w.heap.size)
  (h:∀v' w',w'.ownsRow base e size v' (n+m) (xs++news)→w.grownBy w' v.ownBlock→(v'.ownBlock=v.ownBlock∨v'.ownBlock=some w.heap.size)→K (a.put o.dst v') w'):
  if Region.wanted o (yielded ops a.tmps)=true then Oper.wp P o a w K Q else E:=by
 have hw:Region.wanted o (yielded ops a.tmps)=true:=by simp[Region.wanted,hgd]
 rw[if_pos hw];obtain⟨v',w',hr,h2,h3,h4,h5⟩:=run_append_own_at (P:=P) w base t o.type e i z size bytes ht hi hz hsize hby hzs hsz v n xs hown ad m c news hl hnews h1 h63 hbytes hbase;unfold Oper.wp execOp;simp only[ho,resolve,invoke,builtin,Sem.run_bind,Sem.run_pure,Result.andThen_ok,List.map_toArray,List.map_cons,List.map_nil,hs,hx,hr];exact h v' w' h2 h3 h5
abbrev erV (a:Addr):Value:= .iface 173 (.pointer (some a))
abbrev rfV (s:ByteArray)(y:Value):Value:= .iface 78 (.agg #[.string s,y])
def NoAsk (w:World)(a:Addr):Prop:=w.cell? ⟨0,0,none⟩=some (erV a)
theorem NoAsk.out {w:World}{a:Addr}(h:NoAsk w a):w.cell? ⟨0,0,none⟩=some (erV a):=h
theorem NoAsk.keep {w w':World}{a:Addr}(h:NoAsk w a)(k:Keep w w'):NoAsk w' a:=(k.cell (World.block_lt_of_cell? w ⟨0,0,none⟩ h)).trans h
def RefV (a:Addr)(t:Bool)(v:Value):Prop:=(t=true∧v = .nilIface)∨(t=false∧∃s,v=rfV s (erV a))
theorem RefV.no {a:Addr}{v:Value}(h:RefV a false v):∃s,v=rfV s (erV a):=h.elim (fun q=>by cases q.1) (fun q=>q.2)
theorem RefV.yes {a:Addr}{v:Value}(h:RefV a true v):v = .nilIface:=h.elim (fun q=>q.2) (fun q=>by cases q.1)
def RowAt (w:World)(g:Nat)(zs:List Int):Prop:=
 ∃(cur:Array Value) (e:TypeId),w.heap[g]? = some (.cells cur e (0,0))∧cur.toList.take zs.length=zs.map (Value.int .i64)
theorem RowAt.lt {w:World}{g:Nat}{zs:List Int}(h:RowAt w g zs):g<w.heap.size:=by
 obtain⟨cur,e,hh,_⟩:=h;exact (Array.getElem?_eq_some_iff.1 hh).1
theorem RowAt.cell {w:World}{g:Nat}{zs:List Int}(h:RowAt w g zs){j:Nat}(hj:j<zs.length):w.cell? ⟨g,j,none⟩=some (.int .i64 (zs.getD j 0)):=by
 obtain⟨cur,e,hh,ht⟩:=h;rw[cell_of_row w g j cur e (0,0) hh];have h1:(cur.toList.take zs.length)[j]? = (zs.map (Value.int .i64))[j]?:=by rw[ht]
 rw[List.getElem?_take,if_pos hj,List.getElem?_map,List.getElem?_eq_getElem hj] at h1;rw[List.getD_eq_getElem?_getD,List.getElem?_eq_getElem hj]
 simpa using h1
theorem RowAt.free {w:World}{g:Nat}{zs:List Int}(h:RowAt w g zs)(j:Nat):w.frozen? ⟨g,j,none⟩=false:=by
 obtain⟨cur,e,hh,_⟩:=h;exact frozen_of_row w g j _ _ hh
theorem RowAt.kept {w w':World}{g:Nat}{zs:List Int}{row:Option Nat}(h:RowAt w g zs)(hg:w.grownBy w' row)(hne:row≠some g):RowAt w' g zs:=by
 have hlt:=h.lt;obtain⟨cur,e,hh,ht⟩:=h;exact⟨cur,e,by rw[hg.block g hlt (fun e=>hne e.symm)];exact hh,ht⟩
theorem RowAt.keep {w w':World}{g:Nat}{zs:List Int}(h:RowAt w g zs)(k:Keep w w'):RowAt w' g zs:=h.kept k.grownBy (by simp)
theorem grown_set (w:World)(g j:Nat)(v:Value):w.grownBy (w.setCell ⟨g,j,none⟩ v) (some g):=
 ⟨rfl,rfl,rfl,by simp,fun k _ hk=>heap_setCell_other w ⟨g,j,none⟩ k v (fun e=>hk (by simp[e]))⟩
theorem grown_draw (w:World)(n:Nat)(row:Option Nat):w.grownBy (w.drewN n) row:=⟨rfl,rfl,rfl,Nat.le_refl _,fun _ _ _=>rfl⟩
theorem grown_drew (w:World)(row:Option Nat):w.grownBy w.drew row:=⟨rfl,rfl,rfl,Nat.le_refl _,fun _ _ _=>rfl⟩
theorem RowAt.drewN {w:World}{g:Nat}{zs:List Int}(h:RowAt w g zs)(n:Nat):RowAt (w.drewN n) g zs:=h.kept (row:=none) (grown_draw w n none) (by simp)
theorem RowAt.drew {w:World}{g:Nat}{zs:List Int}(h:RowAt w g zs):RowAt w.drew g zs:=h.kept (row:=none) (grown_drew w none) (by simp)
theorem take_set_val (l:List Value)(zs:List Int)(j:Nat)(x:Int)(h:l.take zs.length=zs.map (Value.int .i64)):
  (l.set j (.int .i64 x)).take (zs.set j x).length=(zs.set j x).map (Value.int .i64):=by
 rw[List.length_set,List.take_set,h,List.map_set]
theorem RowAt.set {w:World}{g:Nat}{zs:List Int}(h:RowAt w g zs)(j:Nat)(x:Int):RowAt (w.setCell ⟨g,j,none⟩ (.int .i64 x)) g (zs.set j x):=by
 obtain⟨cur,e,hh,ht⟩:=h;refine⟨cur.setIfInBounds j (.int .i64 x),e,?_,?_⟩
 · rw[heap_setCell_same w g j _ _ _ hh]
 ·
  rw[Array.toList_setIfInBounds];exact take_set_val _ zs j x ht
def Row (w:World)(base:Nat)(v:Value)(zs:List Int):Prop:=
 (v = .slice none 0 0∧zs=[])∨∃g cap,v = .slice (some ⟨g,0,none⟩) zs.length cap∧base≤g∧RowAt w g zs
theorem Own.row {w:World}{base:Nat}{v:Value}{zs:List Int}(h:Own w base v zs):Row w base v zs:=by
 rcases h.2 with ⟨rfl,hn⟩|⟨g,cap,cur,rfl,hb,hg,_,_,_,ht⟩
 · exact .inl ⟨rfl,List.eq_nil_of_length_eq_zero hn⟩
 · exact .inr ⟨g,cap,rfl,hb,cur,_,hg,by rw[Nat.mul_one] at ht;exact ht⟩
theorem Row.lt {w:World}{base:Nat}{v:Value}{zs:List Int}(h:Row w base v zs):∀k,v.ownBlock=some k→base≤k∧k<w.heap.size:=by
 intro k hk;rcases h with ⟨rfl,_⟩|⟨g,cap,rfl,hb,hr⟩
 · simp[Value.ownBlock] at hk
 · simp[Value.ownBlock] at hk;subst hk;exact⟨hb,hr.lt⟩
theorem Row.ge {w:World}{base:Nat}{v:Value}{zs:List Int}(h:Row w base v zs):∀k,v.ownBlock=some k→base≤k:=fun k hk=>(h.lt k hk).1
theorem Row.kept {w w':World}{base:Nat}{v:Value}{zs:List Int}{row:Option Nat}(h:Row w base v zs)(hg:w.grownBy w' row)(hne:v.ownBlock=none∨v.ownBlock≠row):Row w' base v zs:=by
 rcases h with h|⟨g,cap,rfl,hb,hr⟩
 · exact .inl h
 ·
  refine .inr ⟨g,cap,rfl,hb,hr.kept hg ?_⟩;simp[Value.ownBlock] at hne;exact fun e=>hne e.symm
theorem Row.keep {w w':World}{base:Nat}{v:Value}{zs:List Int}(h:Row w base v zs)(k:Keep w w'):Row w' base v zs:=
 h.kept k.grownBy (by cases v.ownBlock<;>simp)
theorem Row.rd {w:World}{base:Nat}{v:Value}{zs:List Int}(h:Row w base v zs):Rd w v zs:=by
 rcases h with ⟨rfl,rfl⟩|⟨g,cap,rfl,hb,hr⟩
 · exact⟨none,0,rfl,.inl rfl⟩
 · exact⟨some ⟨g,0,none⟩,cap,rfl,.inr ⟨g,0,rfl,hr.lt,fun i hi=>by rw[Nat.zero_add];exact hr.cell hi⟩⟩
theorem Row.base_le {w:World}{base base':Nat}{v:Value}{zs:List Int}(h:Row w base v zs)(hb:base'≤base):Row w base' v zs:=by
 rcases h with h|⟨g,cap,hv,hg,hr⟩
 · exact .inl h
 · exact .inr ⟨g,cap,hv,Nat.le_trans hb hg,hr⟩
theorem Row.apart {w w':World}{base:Nat}{v v':Value}{zs zs':List Int}(h:Row w base v zs)(h':Row w' w.heap.size v' zs'):v.ownBlock=none∨v.ownBlock≠v'.ownBlock:=by
 cases hv:v.ownBlock with
 |none=>exact .inl rfl
 |some k=>
  refine .inr fun e=>?_
  have h1:=(h.lt k hv).2;have h2:=h'.ge k e.symm;omega
theorem row_new {w:World}{g n cap base:Nat}{zs:List Int}(h:RowAt w g zs)(hb:base≤g)(hn:zs.length=n):Row w base (.slice (some ⟨g,0,none⟩) n cap) zs:=by
 subst hn;exact .inr ⟨g,cap,rfl,hb,h⟩
theorem bitB_nat (a i:Nat)(ha:a<4096):bitB (a:Int) (i:Int)=a.testBit i:=by
 unfold bitB;have hd:a / 2 ^ i≤a:=Nat.div_le_self _ _;have e:((a:Int) / 2 ^ (i:Int).toNat)=((a / 2 ^ i:Nat):Int):=by simp
 rw[e,show (1:Int)=((1:Nat):Int) from rfl,i64_and_nat _ _ (by omega) (by omega),Nat.and_one_is_mod,Nat.testBit_eq_decide_div_mod_eq];generalize a / 2 ^ i % 2=r;rw[Bool.eq_iff_iff,beq_iff_eq,decide_eq_true_eq];omega
theorem inSetB_nat (a i:Nat)(ha:a<4096)(hi:i<12):inSetB (a:Int) (i:Int)=a.testBit i:=by
 have h1:inB (i:Int) 0 11=true:=by unfold inB;simp;omega
 have h2:inB (a:Int) 0 4095=true:=by unfold inB;simp;omega
 simp[inSetB,h1,h2,bitB_nat a i ha]
def webB (zs:List Int):Bool:=zs.all (okB zs.length)
theorem getD_mem {zs:List Int}{i:Nat}(h:i<zs.length):zs.getD i 0∈zs:=by
 rw[List.getD_eq_getElem?_getD,List.getElem?_eq_getElem h];exact List.getElem_mem h
theorem webB_all {zs:List Int}(h:∀i,i<zs.length→okB zs.length (zs.getD i 0)=true):webB zs=true:=by
 unfold webB;rw[List.all_eq_true];intro x hx;obtain⟨i,hi,rfl⟩:=List.getElem_of_mem hx;have:=h i hi
 rwa [List.getD_eq_getElem?_getD,List.getElem?_eq_getElem hi] at this
theorem webB_get {zs:List Int}(h:webB zs=true){i:Nat}(hi:i<zs.length):okB zs.length (zs.getD i 0)=true:=by
 unfold webB at h;rw[List.all_eq_true] at h;exact h _ (getD_mem hi)
theorem okB_iff {n s:Int}:okB n s=true↔(0≤n∧n≤12)∧0≤s∧s<2 ^ n.toNat:=by unfold okB;rw[decide_eq_true_eq]
theorem webB_len {zs:List Int}(h:webB zs=true):zs.length≤12:=by
 by_cases h0:zs.length=0
 · omega
 · have:=okB_iff.1 (webB_get h (i:=0) (by omega));omega
theorem okB_range {n s:Int}(h:okB n s=true):0≤s∧s≤4095:=by
 have h1:=okB_iff.1 h;have:=pow_le12 n.toNat (by omega);omega
theorem okB_nat {n:Nat}{s:Int}(h:okB n s=true):n≤12∧∃a:Nat,s=a∧a<2 ^ n∧a<4096:=by
 have h1:=okB_iff.1 h;have h2:=okB_range h;obtain⟨a,rfl⟩:=Int.eq_ofNat_of_zero_le h2.1;refine⟨by omega,a,rfl,?_,by omega⟩;have:=h1.2.2;simp at this
 exact_mod_cast this
theorem okB_of_nat {n a:Nat}(hn:n≤12)(ha:a<2 ^ n):okB n a=true:=by
 rw[okB_iff];refine⟨by omega,by omega,?_⟩;simp
 exact_mod_cast ha
theorem inSetB_iff {n:Nat}{s:Int}(h:okB n s=true){j:Nat}(hj:inSetB s j=true):j<n:=by
 obtain⟨hn,a,rfl,ha,h12⟩:=okB_nat h
 have hj12:j<12:=by
  have:inB (j:Int) 0 11=true:=by unfold inSetB at hj;simp at hj;exact hj.1.1
  unfold inB at this;simp at this;omega
 rw[inSetB_nat a j h12 hj12] at hj;apply Classical.byContradiction;intro hnj;have hp:(2:Nat) ^ n≤2 ^ j:=Nat.pow_le_pow_right (by omega) (by omega);rw[Nat.testBit_lt_two_pow (by omega)] at hj;cases hj
theorem ok_ext {n:Nat}{s t:Int}(hs:okB n s=true)(ht:okB n t=true)(h:∀j:Nat,j<n→inSetB s j=inSetB t j):s=t:=by
 obtain⟨hn,a,rfl,ha,ha'⟩:=okB_nat hs;obtain⟨_,b,rfl,hb,hb'⟩:=okB_nat ht
 congr 1
 apply Nat.eq_of_testBit_eq;intro j;by_cases hj:j<n
 ·
  have:=h j hj
  rwa [inSetB_nat a j ha' (by omega),inSetB_nat b j hb' (by omega)] at this
 ·
  have hp:(2:Nat) ^ n≤2 ^ j:=Nat.pow_le_pow_right (by omega) (by omega);rw[Nat.testBit_lt_two_pow (by omega),Nat.testBit_lt_two_pow (by omega)]
theorem ok_zero {n:Nat}(hn:n≤12):okB n 0=true:=okB_of_nat (a:=0) hn (Nat.two_pow_pos n)
def Web (n:Nat)(zs:List Int):Prop:=n≤12∧zs.length=n∧∀i,i<n→okB n (zs.getD i 0)=true
theorem web_iff {zs:List Int}:webB zs=true↔Web zs.length zs:=by
 constructor
 · intro h;exact⟨webB_len h,rfl,fun i hi=>webB_get h hi⟩
 · intro h;exact webB_all h.2.2
theorem Web.b {n:Nat}{zs:List Int}(h:Web n zs):webB zs=true:=by
 obtain⟨h1,rfl,h2⟩:=h;exact web_iff.2 ⟨h1,rfl,h2⟩
theorem list_ext {n:Nat}{a b:List Int}(ha:a.length=n)(hb:b.length=n)(h:∀i,i<n→a.getD i 0=b.getD i 0):a=b:=by
 apply List.ext_getElem (by omega);intro i h1 h2;have:=h i (by omega);rw[List.getD_eq_getElem?_getD,List.getD_eq_getElem?_getD,List.getElem?_eq_getElem h1,List.getElem?_eq_getElem h2] at this;exact this
def line (zs:List Int)(i j:Nat):Bool:=inSetB (zs.getD i 0) j
theorem Web.ext {n:Nat}{a b:List Int}(ha:Web n a)(hb:Web n b)(h:∀i j,i<n→j<n→line a i j=line b i j):a=b:=
 list_ext ha.2.1 hb.2.1 fun i hi=>ok_ext (ha.2.2 i hi) (hb.2.2 i hi) fun j hj=>h i j hi hj
theorem Web.lt {n:Nat}{a:List Int}(ha:Web n a){i j:Nat}(hi:i<n)(h:line a i j=true):j<n:=inSetB_iff (ha.2.2 i hi) h
theorem getD_set (zs:List Int)(i j:Nat)(x:Int)(hi:i<zs.length):(zs.set i x).getD j 0=if i=j then x else zs.getD j 0:=by
 rw[List.getD_eq_getElem?_getD,List.getD_eq_getElem?_getD,List.getElem?_set];by_cases h:i=j
 · subst h;simp[hi]
 · simp[h]
theorem Web.set {n:Nat}{a:List Int}(ha:Web n a){i:Nat}{x:Int}(hx:okB n x=true):Web n (a.set i x):=by
 obtain⟨h1,h2,h3⟩:=ha;refine⟨h1,by simp[h2],fun j hj=>?_⟩;by_cases hi:i<a.length
 ·
  rw[getD_set a i j x hi];split
  · exact hx
  · exact h3 j hj
 · rw[List.set_eq_of_length_le (by omega)];exact h3 j hj
theorem Web.zero {n:Nat}(hn:n≤12):Web n (List.replicate n 0):=by
 refine⟨hn,by simp,fun i hi=>?_⟩;rw[List.getD_eq_getElem?_getD,List.getElem?_replicate,if_pos hi];exact ok_zero hn
def RdS (w:World)(v:Value)(ws:List (List UInt8)):Prop:=
 ∃(a:Option Addr) (cap:Nat),v = .slice a ws.length cap ∧
  (ws=[]∨∃b off,a=some ⟨b,off,none⟩∧b<w.heap.size∧∀i,i<ws.length→w.cell? ⟨b,off+i,none⟩=some (strV (ws.getD i [])))
theorem RdS.keep {w w':World}{v:Value}{ws:List (List UInt8)}(h:RdS w v ws)(k:Keep w w'):RdS w' v ws:=by
 obtain⟨a,cap,hv,h⟩:=h;refine⟨a,cap,hv,?_⟩;rcases h with h|⟨b,off,ha,hb,hc⟩
 · exact .inl h
 · exact .inr ⟨b,off,ha,Nat.lt_of_lt_of_le hb k.size,fun i hi=>(k.cell hb).trans (hc i hi)⟩
def OwnS (w:World)(base:Nat)(v:Value)(ws:List (List UInt8)):Prop:=w.ownsRow base 9 1 v ws.length (ws.map strV)
theorem OwnS.keep {w w':World}{base:Nat}{v:Value}{ws:List (List UInt8)}(h:OwnS w base v ws)(k:Keep w w'):OwnS w' base v ws:=
 World.ownsRow.kept h k.grownBy (by cases v.ownBlock<;>simp)
theorem OwnS.rd {w:World}{base:Nat}{v:Value}{ws:List (List UInt8)}(h:OwnS w base v ws):RdS w v ws:=by
 have hlt:=World.ownsRow.lt h;rcases h.2 with ⟨rfl,hn⟩|⟨g,cap,cur,rfl,hb,hg,rest⟩
 ·
  have:ws=[]:=List.eq_nil_of_length_eq_zero hn;subst this;exact⟨none,0,rfl,.inl rfl⟩
 ·
  refine⟨some ⟨g,0,none⟩,cap,rfl,.inr ⟨g,0,rfl,(hlt g rfl).2,fun i hi=>?_⟩⟩;have hc:=World.ownsRow.cellAt h i (by simpa using hi);rw[Nat.zero_add,hc,List.getElem?_map,List.getElem?_eq_getElem hi,List.getD_eq_getElem?_getD,List.getElem?_eq_getElem hi];rfl
theorem OwnS.ge {w:World}{base:Nat}{v:Value}{ws:List (List UInt8)}(h:OwnS w base v ws):∀k,v.ownBlock=some k→base≤k:=fun k hk=>(World.ownsRow.lt h k hk).1
theorem ownS_hit {w:World}{base:Nat}{v:Value}{ws:List (List UInt8)}{x:List UInt8}(h:w.ownsRow base 9 1 v (ws.length+1) (ws.map strV++[strV x])):OwnS w base v (ws++[x]):=by
 unfold OwnS;simpa using h
theorem Tryd.infoS:(Tryd.prog.info? 9).map (fun i=>(i.zero,i.size,i.bytes))=some (some (.string ⟨#[]⟩),1,16):=by kernel_rfl
def byteAt (l:List UInt8)(k:Nat):UInt8:=l.getD k 0
def isDig (c:UInt8):Bool:=decide (48≤c.toNat∧c.toNat≤57)
theorem digV_snoc (c:UInt8):∀(a:Int) (xs:List UInt8),digV a (xs++[c])=(digV a xs).bind fun n=>if isDig c=true then some (n*10+((c.toNat:Int)-48)) else none
 |a,[]=>by simp[digV,isDig]
 |a,x::xs=>by
  rw[List.cons_append,digV,digV];split
  · exact digV_snoc c _ xs
  · rfl
theorem digV_app:∀(a:Int) (xs ys:List UInt8),digV a (xs++ys)=(digV a xs).bind fun n=>digV n ys
 |a,[],ys=>by simp[digV]
 |a,x::xs,ys=>by
  rw[List.cons_append,digV,digV];split
  · exact digV_app _ xs ys
  · rfl
theorem digV_bad {a n:Int}{xs ys:List UInt8}{c:UInt8}(h:digV a xs=some n)(hc:isDig c=false):digV a (xs++c::ys)=none:=by
 rw[digV_app,h];simp only[Option.bind_some,digV];rw[if_neg (by simpa [isDig] using hc)]
theorem digV_bound:∀(xs:List UInt8) (a n:Int),0≤a→digV a xs=some n→0≤n∧n+1≤(a+1)*10 ^ xs.length
 | [],a,n,ha,h=>by simp[digV] at h;subst h;simp;omega
 |x::xs,a,n,ha,h=>by
  rw[digV] at h;split at h
  ·
   have ih:=digV_bound xs _ n (by omega) h;refine⟨ih.1,Int.le_trans ih.2 ?_⟩;rw[List.length_cons,Int.pow_succ];have hp:(0:Int)≤10 ^ xs.length:=Int.pow_nonneg (by omega);have:(a*10+((x.toNat:Int)-48)+1)≤(a+1)*10:=by omega
   calc _≤(a+1)*10*10 ^ xs.length:=Int.mul_le_mul_of_nonneg_right this hp
    _=(a+1)*(10 ^ xs.length*10):=by rw[Int.mul_assoc,Int.mul_comm 10]
  · simp at h
theorem pow_le9 {n:Nat}(h:n≤9):(10:Int) ^ n≤1000000000:=by
 have:n=0∨n=1∨n=2∨n=3∨n=4∨n=5∨n=6∨n=7∨n=8∨n=9:=by omega
 rcases this with rfl|rfl|rfl|rfl|rfl|rfl|rfl|rfl|rfl|rfl<;>decide
def readInv (l:List UInt8)(i j:Nat)(n:Int):Prop:=digV 0 (segL l i (i+j))=some n
theorem readInv_start (l:List UInt8)(i:Nat):readInv l i 0 0:=by simp[readInv,segL,digV]
theorem readInv_hit {l:List UInt8}{i j:Nat}{n:Int}(h:readInv l i j n)(hk:i+j<l.length)(hd:isDig (byteAt l (i+j))=true):readInv l i (j+1) (n*10+(((byteAt l (i+j)).toNat:Int)-48)):=by
 unfold readInv at h ⊢;rw[show i+(j+1)=(i+j)+1 by omega,segL_snoc l i (i+j) (by omega) hk,digV_snoc,h];show (if isDig (byteAt l (i+j))=true then _ else _)=_;rw[if_pos hd];rfl
theorem readInv_bound {l:List UInt8}{i j:Nat}{n:Int}(h:readInv l i j n)(hj:j≤9)(hk:i+j≤l.length):0≤n∧n<1000000000:=by
 have:=digV_bound _ 0 n (by omega) h;have hl:(segL l i (i+j)).length=j:=by simp[segL];omega
 rw[hl] at this;have:=pow_le9 hj;omega
def readQ (l:List UInt8)(i q:Nat)(n:Int):Prop:=i≤q∧readInv l i (q-i) n
theorem readQ_start (l:List UInt8)(i:Nat):readQ l i i 0:=⟨Nat.le_refl _,by rw[Nat.sub_self];exact readInv_start l i⟩
theorem readQ_hit {l:List UInt8}{i q:Nat}{n:Int}(h:readQ l i q n)(hk:q<l.length)(hd:isDig (byteAt l q)=true):readQ l i (q+1) (n*10+(((byteAt l q).toNat:Int)-48)):=by
 obtain⟨hq,h⟩:=h;have e:i+(q-i)=q:=by omega
 refine⟨by omega,?_⟩;have:=readInv_hit h (by rw[e];exact hk) (by rw[e];exact hd);rw[e] at this;rw[show q+1-i=(q-i)+1 by omega];exact this
theorem readQ_bound {l:List UInt8}{i q:Nat}{n:Int}(h:readQ l i q n)(hk:q≤l.length)(h9:l.length≤i+9):0≤n∧n<1000000000:=
 readInv_bound h.2 (by omega) (by have:=h.1;omega)
theorem body_drop (l:List UInt8):bodyR l=l.drop (if negR l=true then 1 else 0):=by
 unfold bodyR;split<;>simp
theorem readInv_bad {l:List UInt8}{i j:Nat}{n:Int}(h:readInv l i j n)(hk:i+j<l.length)(hd:isDig (byteAt l (i+j))=false):digV 0 (l.drop i)=none:=by
 have e:l.drop i=segL l i (i+j)++byteAt l (i+j)::l.drop (i+j+1):=by
  conv=>lhs;rw[←List.take_append_drop j (l.drop i)]
  rw[List.drop_drop,drop_cons l (i+j) hk];simp[segL,byteAt]
 rw[e];exact digV_bad h hd
theorem readInv_end {l:List UInt8}{i j:Nat}{n:Int}(h:readInv l i j n)(hk:l.length=i+j):digV 0 (l.drop i)=some n:=by
 have e:segL l i (i+j)=l.drop i:=by
  unfold segL;rw[List.take_of_length_le];simp;omega
 rw[←e];exact h
theorem readQ_bad {l:List UInt8}{i q:Nat}{n:Int}(h:readQ l i q n)(hk:q<l.length)(hd:isDig (byteAt l q)=false):digV 0 (l.drop i)=none:=by
 obtain⟨hq,h⟩:=h;have e:i+(q-i)=q:=by omega
 exact readInv_bad h (by rw[e];exact hk) (by rw[e];exact hd)
theorem readQ_end {l:List UInt8}{i:Nat}{n:Int}(h:readQ l i l.length n):digV 0 (l.drop i)=some n:=by
 have:=h.1;exact readInv_end h.2 (by omega)
theorem negR_at (l:List UInt8):negR l=(decide (1≤l.length)&&decide (byteAt l 0=45)):=by
 cases l with
 |nil=>rfl
 |cons c r=>simp[negR,byteAt]
theorem readO_short {l:List UInt8}{i:Nat}(hi:i=if negR l=true then 1 else 0)(h:l.length-i<1∨9<l.length-i):readO l=none:=by
 unfold readO;rw[if_pos (by rw[body_drop,←hi,List.length_drop];exact h)]
theorem readO_bad {l:List UInt8}{i:Nat}(hi:i=if negR l=true then 1 else 0)(h:digV 0 (l.drop i)=none):readO l=none:=by
 unfold readO;split
 · rfl
 · rw[body_drop,←hi,h]
theorem readO_zero {l:List UInt8}{i:Nat}(hi:i=if negR l=true then 1 else 0)(hl:i<l.length)(h0:byteAt l i=48)(h1:negR l=true∨1<l.length):readO l=none:=by
 unfold readO;split
 · rfl
 ·
  split
  · rfl
  ·
   rw[if_pos];refine⟨?_,h1⟩;rw[body_drop,←hi,List.head?_drop,List.getElem?_eq_getElem hl];have:byteAt l i=l[i]:=by unfold byteAt;rw[List.getD_eq_getElem?_getD,List.getElem?_eq_getElem hl];rfl
   rw[←this,h0]
theorem readO_ok {l:List UInt8}{i:Nat}{n:Int}(hi:i=if negR l=true then 1 else 0)(hl:i<l.length)(h9:l.length-i≤9)(h:digV 0 (l.drop i)=some n)(h0:¬(byteAt l i=48∧(negR l=true∨1<l.length))):
  readO l=some (if negR l=true then -n else n):=by
 unfold readO;have e1:(bodyR l).length=l.length-i:=by rw[body_drop,←hi,List.length_drop]
 have e2:(bodyR l).head? = some (byteAt l i):=by
  rw[body_drop,←hi,List.head?_drop,List.getElem?_eq_getElem hl];unfold byteAt;rw[List.getD_eq_getElem?_getD,List.getElem?_eq_getElem hl];rfl
 have e3:digV 0 (bodyR l)=some n:=by rw[body_drop,←hi];exact h
 rw[if_neg (by rw[e1];omega),e3];simp only;rw[if_neg];rintro⟨a,b⟩;apply h0;refine⟨?_,b⟩;rw[e2] at a
 simpa using a
end Go.Proofs.YtflehmepjhikcaaDoor
