/- Gathered texts. -/
import Derived.Test.YtflehmepjhikcaaGreatDoorRows
import Derived.Below
import Derived.ChangeShapes
import Derived.LaidLaws
import Derived.LaidHandle
import Derived.Stop.LaidErr
import Derived.WalkKit
import Derived.ProofKit
import Derived.Laws.BitsAllLaws
import Derived.Laws.BitsLemmas
import Derived.OpenShut
import Derived.WalkSmall
import Derived.Laws.Rows
import Derived.Laws.ResultCell
import Derived.Lib.IndexMore
import Derived.Lib.ParseIntB
import Derived.Lib.ItoaNum
import Derived.Maps.AppendAt
import Derived.Laws.OwnMore
import Derived.OwnWalk
set_option maxRecDepth 100000
set_option maxHeartbeats 8000000
namespace Go.Proofs.YtflehmepjhikcaaGreatDoor
open Go.ChangeShapes Go.RowKit
open Go.ChangeShapes Go.WideShapes Go.ChangeAt Go.RowKit
open Go.RowKit
abbrev IT:=@List.getD_eq_getElem?_getD
abbrev KAC:=@Nat.lt_of_lt_of_le
abbrev KAH:=@List.getElem?_eq_getElem
abbrev KAI:=@Option.some.inj
abbrev KAJ:=@List.length_append
abbrev KAL:=@cell_of_row
abbrev KAM:=@Nat.le_refl
abbrev KAN:=@decide_eq_true_eq
abbrev KAO:=@Bool.and_eq_true
abbrev KAP:=@if_pos
abbrev KAQ:=@if_neg
abbrev KAU:=@Nat.le_trans
abbrev KAV:=@Int.toNat_natCast
abbrev KAW:=@Below.block
abbrev KAX:=@heap_alloc_new
abbrev KAY:=@World.ownsRow.lt
abbrev KAZ:=@List.eq_nil_of_length_eq_zero
abbrev KAb:=@Nat.zero_le
abbrev KAd:=@List.mem_range
abbrev KAg:=@Option.some.injEq
abbrev KAk:=@IntKind.wrap_i64
abbrev KAn:=@Int.eq_ofNat_of_zero_le
abbrev KAo:=@World.ownsRow_lit
abbrev KAp:=@World.ownsRow.cellAt
abbrev KAs:=@World.ownsRow.kept
abbrev KAu:=@List.getElem?_append_left
abbrev KAx:=@List.all_eq_true
abbrev KAy:=@List.getElem?_append_right
abbrev KAz:=@List.length_take
abbrev KA0:=@List.mem_append
abbrev KA2:=@List.append_assoc
abbrev KA4:=@List.length_set
abbrev KBA:=@Classical.byContradiction
abbrev KBC:=@Nat.zero_add
abbrev KBD:=@List.mem_singleton
abbrev KBE:=@List.getElem?_eq_some_iff
abbrev KBF:=@List.mem_filter
abbrev KBG:=@List.getElem?_replicate
abbrev KBH:=@List.flatMap_cons
abbrev KBI:=@List.getElem_mem
abbrev KBJ:=@List.length_cons
abbrev KBN:=@List.getElem?_map
abbrev KBO:=@Bool.false_eq_true
abbrev KBT:=@List.mem_cons_of_mem
abbrev KBf:=@congrArg
abbrev KBg:=@Bool.eq_iff_iff
abbrev KBk:=@List.getElem_of_mem
abbrev KBn:=@List.append_nil
abbrev KBp:=@List.nodup_append
abbrev KBr:=@List.cons_append
abbrev KBt:=@List.getElem?_set
abbrev KBw:=@Bool.or_eq_true
abbrev KBz:=@List.nil_append
abbrev KB4:=@List.Sublist.refl
abbrev KB7:=@List.flatMap_append
abbrev KB9:=@List.getLast?_eq_some_iff
abbrev KCB:=@List.pairwise_append
abbrev KCG:=@List.length_nil
abbrev KCK:=@List.getElem?_take
abbrev KCP:=@List.cons.injEq
abbrev KCQ:=@Nat.lt_or_ge
abbrev KCR:=@List.take_succ_eq_append_getElem
abbrev KCS:=@Below.trans
abbrev KCT:=@if_true
abbrev KCU:=@if_false
abbrev KCe:=@Bool.false_and
abbrev KCk:=@Nat.add_sub_cancel
abbrev KCp:=@beq_iff_eq
abbrev KCx:=@List.getElem?_range
abbrev KC3:=@Array.getElem?_eq_none
abbrev KDC:=@World.cell?_spot
abbrev KDH:=@Nat.mul_le_mul_right
abbrev KDN:=@Bool.and_false
theorem OQ {H:Type}{enc:TypeId×Value->H}{P:Program}{w:World}{sp:Nat->Bool}:∀ {ns:List String} {gs:List (DataW H)} {q:List MemPlace},DataW.TrodVars enc P w sp ns gs q->ns.length=gs.length
 | [],[],_,_=>rfl
 |_::_,_::_,_,⟨_,_,_,_,_,_,_,_,_,_,hs,_⟩=>KBf (·+1) (OQ hs)
 | [],_::_,_,h=>False.elim h
 |_::_,[],_,h=>False.elim h
theorem kg {H:Type}{enc:TypeId×Value->H}{P:Program}{w w':World}{sp sp':Nat->Bool}{t:TypeId}{ms:Array (String×TypeId)}(hi:P.underlying t=some (.interface ms)):
  ∀ {fuel:Nat} {cs:List Value} {r:DataW H×List MemPlace},DataW.trod enc P w 0 sp true fuel t cs=some r->DataW.trod enc P w' 0 sp' true fuel t cs=some r
 | 0,_,_,h=>by simp[DataW.trod] at h
 |fuel+1,cs,r,h=>by
  unfold DataW.trod at h ⊢;rw[hi] at h ⊢;rcases cs with _|⟨x,_|⟨y,l⟩⟩
  . simp at h
  . cases x<;>simp_all
  . cases x<;>simp at h
theorem J7 {H:Type}{enc:TypeId×Value->H}{P:Program}{w w':World}{sp sp':Nat->Bool}(hb:Below w.heap.size w w'):∀ {ns:List String} {gs:List (DataW H)} {q:List MemPlace},
  (∀n∈ns,∃g t ms,P.globalNamed n=some g/\(P.globals[g]?).map (·.type)=some t/\P.underlying t=some (.interface ms))->DataW.TrodVars enc P w sp ns gs q->DataW.TrodVars enc P w' sp' ns gs q
 | [],[],_,_,h=>h
 |n::_,_::_,_,hn,⟨g,t,cs,fuel,p,q,h1,h2,h3,h4,hs,e⟩=>by
  obtain⟨g',t',ms,e1,e2,e3⟩:=hn n (List.mem_cons_self ..);obtain rfl:=KAI (h1.symm.trans e1);obtain rfl:=KAI (h2.symm.trans e2);refine⟨g,t,cs,fuel,p,q,h1,h2,?_,kg e3 h4,J7 hb (fun m hm=>hn m (KBT _ hm)) hs,e⟩;unfold World.var? at h3 ⊢;rw[h1,Option.bind_some] at h3 ⊢
  have hlt:g<w.heap.size:=by
   rcases KCQ g w.heap.size with h|h
   . exact h
   . rw[KC3 h] at h3;cases h3
  rw[hb.block g hlt];exact h3
 | [],_::_,_,_,h=>False.elim h
 |_::_,[],_,_,h=>False.elim h
theorem errRow (u : TypeId) (h : Tryz.prog.typeName? 3 u = some "*errors.errorString") : u = 234 := by
 have star : "*" ++ "errors.errorString" = "*errors.errorString" := by decide
 exact typeName_ptr_named (nm := "errors.errorString") (by rw [star]; kernel_rfl) (by kernel_rfl) (by decide) u (by rw [star]; exact h)
theorem sent_cell {r : List (String × DataW Unit)} {n : String} {text : List UInt8} {W : World} {g : Nat} (h : laidMet Tryz.prog ((n, .iface "*errors.errorString" (.ptr (.agg [.lit (.string text)]))) :: r) W)
  (hg:Tryz.prog.globalNamed n=some g) (ht:(Tryz.prog.globals[g]?).map (·.type)=some 57):∃a,W.cell? ⟨g,0,none⟩=some (.iface 234 (.pointer (some a))):=by
 obtain⟨a,s,hv,-,-,-⟩:=laid_sentinel h hg ht Tryz.underlying57 errRow Tryz.underlying234 Tryz.underlying255 rfl rfl Tryz.underlying9 (by kernel_rfl) (by kernel_rfl);exact⟨a,by simpa using World.var?_cell hg hv 0⟩
theorem han_rt : (Tryz.prog.cutTypes.find? (·.1 == "internal/reflectlite.rtype")).map (·.2) = some 138 := by kernel_rfl
theorem jN:((List.range 267).filter fun t=>Tryz.prog.rowNamed t [101,114,114,111,114])=[57]:=by kernel_rfl
theorem Zx:Tryz.prog.types.size=267:=by kernel_rfl
theorem han_cell {W : World} (h : handlesMet Tryz.prog [("errors.errorType", Rows.laid_errors_errorType)] W) : W.cell? ⟨1, 0, none⟩ = some (.iface 138 (.agg #[.pointer (some ⟨4, 57, none⟩)])) := by
 obtain⟨name,u,ty,e1,e2,e3,e4,e5⟩:=h _ (KBD.2 rfl);have en:name=[101,114,114,111,114]:=(KAI e1).symm;subst en;obtain rfl:=KAI (han_rt.symm.trans e2);have hm:ty∈(List.range 267).filter fun t=>Tryz.prog.rowNamed t [101,114,114,111,114]:=KBF.2 ⟨KAd.2 (by rw[<-Zx];exact e3),e4⟩
 rw[jN] at hm;obtain rfl:=KBD.1 hm;have hh:typeHandle Tryz.prog 57 = .pointer (some ⟨4,57,none⟩):=by kernel_rfl
 rw[hh] at e5
 have et : Tryz.prog.globalNamed "errors.errorType" = some 1 := by kernel_rfl
 simpa using World.var?_cell et e5 0
theorem BE {a b:Bool}(h:a=b):Ending.returned (.bool a) = .returned (.bool b):=by rw[h]
theorem RJ {k:IntKind}{a b:Int}(h:a=b):Ending.returned (.int k a) = .returned (.int k b):=by rw[h]
theorem JJ (a:Nat)(ha:a<9223372036854775808):(BitVec.ofInt 64 (a:Int)).toNat=a:=ofInt_u64 a (by omega)
theorem NU (a b:Nat)(ha:a<9223372036854775808)(hb:b<9223372036854775808):bits .or .i64 (a:Int) (b:Int)=((a ||| b:Nat):Int):=by
 have hx:a ||| b<2 ^ 63:=Nat.or_lt_two_pow (by omega) (by omega);show IntKind.i64.wrap ((BitVec.ofInt 64 (a:Int) ||| BitVec.ofInt 64 (b:Int)).toNat:Int)=_;rw[BitVec.toNat_or,JJ a ha,JJ b hb,KAk];omega
theorem MB (a b:Nat)(ha:a<9223372036854775808)(hb:b<9223372036854775808):bits .and .i64 (a:Int) (b:Int)=((a &&& b:Nat):Int):=by
 have hx:a &&& b<2 ^ 63:=Nat.and_lt_two_pow _ (by omega);show IntKind.i64.wrap ((BitVec.ofInt 64 (a:Int) &&& BitVec.ofInt 64 (b:Int)).toNat:Int)=_;rw[BitVec.toNat_and,JJ a ha,JJ b hb,KAk];omega
theorem dA (n:Nat)(h:n<=12):(2:Int) ^ n<=4096/\(1:Int)<=2 ^ n:=by
 have:n=0\/n=1\/n=2\/n=3\/n=4\/n=5\/n=6\/n=7\/n=8\/n=9\/n=10\/n=11\/n=12:=by omega
 rcases this with rfl|rfl|rfl|rfl|rfl|rfl|rfl|rfl|rfl|rfl|rfl|rfl|rfl<;>decide
theorem EZ (x:Int)(h1:-9223372036854775808<=x)(h2:x<=9223372036854775807):wrap64 x=x:=by
 simp only[wrap64];omega
theorem OT (n:Int)(h0:0<=n)(h:n<=12):wrap64 (2 ^ n.toNat)=2 ^ n.toNat:=by
 have:=dA n.toNat (by omega);exact EZ _ (by omega) (by omega)
def Co (x lo hi:Int):Bool:=decide (lo<=x/\x<=hi)
def qI (n s:Int):Bool:=decide ((0<=n/\n<=12)/\0<=s/\s<2 ^ n.toNat)
def iK (s i:Int):Bool:=bits .and .i64 (s / 2 ^ i.toNat) 1==1
def Fk (s i:Int):Bool:=Co i 0 11&&Co s 0 4095&&iK s i
def MU (s i:Int):Int:=if s=-1\/Co i 0 11=false then -1 else bits .or .i64 s (wrap64 (2 ^ i.toNat))
theorem Zl (s i:Int)(h:Co i 0 11=false):MU s i=-1:=by simp[MU,h]
theorem Xa (i:Int):MU (-1) i=-1:=by simp[MU]
theorem jD (s i:Int)(h0:0<=s)(h:Co i 0 11=true):MU s i=bits .or .i64 s (wrap64 (2 ^ i.toNat)):=by
 have:¬s=-1:=by omega
 simp[MU,h,this]
theorem FY (l:List Int)(k:Nat)(h:k<l.length):l.take (k+1)=l.take k++[l.getD k 0]:=by
 rw[KCR h,IT,KAH h];rfl
def AC (w w':World):Prop:=Below w.heap.size w w'
theorem AC.refl (w:World):AC w w:=Below.refl _ _
theorem AC.size {w w':World}(h:AC w w'):w.heap.size<=w'.heap.size:=Below.size h
theorem AC.trans {a b c:World}(h:AC a b)(k:AC b c):AC a c:=KCS h (Below.mono k h.size)
theorem AC.drew {a w:World}(h:AC a w):AC a w.drew:=Below.drew h
theorem AC.drewN {a w:World}(h:AC a w)(n:Nat):AC a (w.drewN n):=below_drewN h n
theorem AC.alloc {a w:World}(h:AC a w)(o:Obj):AC a (w.alloc o):=Below.alloc h h.size o
theorem AC.grown {a w w':World}{row:Option Nat}(h:AC a w)(hg:w.grownBy w' row)(hr:∀k,row=some k->a.heap.size<=k):AC a w':=Below.grown h hg h.size hr
theorem AC.grownBy {w w':World}(h:AC w w'):w.grownBy w' none:=⟨Below.os h,Below.tape h,Below.output h,Below.size h,fun k hk _=>KAW h k hk⟩
theorem AC.cell {w w':World}(h:AC w w'){b o:Nat}(hb:b<w.heap.size):w'.cell? ⟨b,o,none⟩=w.cell? ⟨b,o,none⟩:=Below.cell h hb
theorem Ak {a b c:World}{row:Option Nat}(h:a.grownBy b row)(k:b.grownBy c row):a.grownBy c row:=
 ⟨k.os.trans h.os,k.tape.trans h.tape,k.output.trans h.output,KAU h.size k.size,fun i hi hne=>(k.block i (KAC hi h.size) hne).trans (h.block i hi hne)⟩
def Rd (w:World)(v:Value)(zs:List Int):Prop:=
 ∃(a:Option Addr) (cap:Nat),v = .slice a zs.length cap /\
  (zs=[]\/∃b off,a=some ⟨b,off,none⟩/\b<w.heap.size/\∀i,i<zs.length->w.cell? ⟨b,off+i,none⟩=some (.int .i64 (zs.getD i 0)))
theorem Rd.keep {w w':World}{v:Value}{zs:List Int}(h:Rd w v zs)(k:AC w w'):Rd w' v zs:=by
 obtain⟨a,cap,hv,h⟩:=h;refine⟨a,cap,hv,?_⟩;rcases h with h|⟨b,off,ha,hb,hc⟩
 . exact .inl h
 . exact .inr ⟨b,off,ha,KAC hb k.size,fun i hi=>(k.cell hb).trans (hc i hi)⟩
def A8 (w:World)(base:Nat)(v:Value)(zs:List Int):Prop:=w.ownsRow base 2 1 v zs.length (zs.map (Value.int .i64))
theorem A8.kept {w w':World}{base:Nat}{v:Value}{zs:List Int}{row:Option Nat}(h:A8 w base v zs)(hg:w.grownBy w' row)(hne:v.ownBlock=none\/v.ownBlock≠row):A8 w' base v zs:=
 KAs h hg hne
theorem A8.keep {w w':World}{base:Nat}{v:Value}{zs:List Int}(h:A8 w base v zs)(k:AC w w'):A8 w' base v zs:=
 A8.kept h k.grownBy (by cases v.ownBlock<;>simp)
theorem A8.rd {w:World}{base:Nat}{v:Value}{zs:List Int}(h:A8 w base v zs):Rd w v zs:=by
 have hlt:=KAY h;rcases h.2 with ⟨rfl,hn⟩|⟨g,cap,cur,rfl,hb,hg,rest⟩
 ·
  have:zs=[]:=KAZ hn;subst this;exact⟨none,0,rfl,.inl rfl⟩
 ·
  refine⟨some ⟨g,0,none⟩,cap,rfl,.inr ⟨g,0,rfl,(hlt g rfl).2,fun i hi=>?_⟩⟩;have hc:=KAp h i (by simpa using hi);rw[KBC,hc,KBN,KAH hi,IT,KAH hi];rfl
theorem A8.BK {w:World}{base base':Nat}{v:Value}{zs:List Int}(h:A8 w base v zs)(hb:base'<=base):A8 w base' v zs:=by
 refine⟨h.1,?_⟩;rcases h.2 with h|⟨g,cap,cur,hv,hg,rest⟩
 . exact .inl h
 . exact .inr ⟨g,cap,cur,hv,KAU hb hg,rest⟩
theorem A8.ge {w:World}{base:Nat}{v:Value}{zs:List Int}(h:A8 w base v zs):∀k,v.ownBlock=some k->base<=k:=fun k hk=>(KAY h k hk).1
theorem A8.apart {w w':World}{base:Nat}{v v':Value}{zs zs':List Int}(h:A8 w base v zs)(h':A8 w' w.heap.size v' zs'):v.ownBlock=none\/v.ownBlock≠v'.ownBlock:=by
 cases hv:v.ownBlock with
 |none=>exact .inl rfl
 |some k=>
  refine .inr fun e=>?_
  have h1:=(KAY h k hv).2;have h2:=h'.ge k e.symm;omega
theorem YH {w:World}{a:Option Addr}{len cap:Nat}{ys:List Int}
  (h:(a=none/\len=0/\cap=0/\ys=[])\/∃x,a=some x/\len<=cap/\cap<=maxLen/\ys.length=cap/\(∀i,i<ys.length->w.cell? (x.add i)=some (.int .i64 (ys.getD i 0)))/\∀n∈ys,(Lit.int .i64 n).wf=true):
  ∃zs:List Int,zs.length=len/\Rd w (.slice a len cap) zs:=by
 rcases h with ⟨rfl,rfl,rfl,rfl⟩|⟨x,rfl,hl,hm,hy,hc,_⟩
 . exact⟨[],rfl,none,0,rfl,.inl rfl⟩
 ·
  have hzl:(ys.take len).length=len:=by rw[KAz];omega
  refine⟨ys.take len,hzl,some x,cap,by rw[hzl],?_⟩;by_cases h0:len=0
  . left;subst h0;simp
  ·
   right;obtain⟨b,off,spot⟩:=x;have hc0:=hc 0 (by omega);have hspot:spot=none:=by simpa [Addr.add] using KDC hc0
   subst hspot
   have hcc:∀i,i<(ys.take len).length->w.cell? ⟨b,off+i,none⟩=some (.int .i64 ((ys.take len).getD i 0)):=by
    intro i hi;have h1:=hc i (by omega);have e1:(⟨b,off,none⟩:Addr).add i=⟨b,off+i,none⟩:=by unfold Addr.add;split<;>simp_all
    rw[e1] at h1;rw[h1,IT,IT,KCK,KAP (by omega)]
   refine⟨b,off,rfl,?_,hcc⟩;have h2:=hcc 0 (by omega);apply KBA;intro hnb;have h3:w.heap[b]? = none:=by simp;omega
   simp[World.cell?,h3] at h2
theorem B8 {w:World}{base:Nat}{v:Value}{zs:List Int}{x:Int}(h:w.ownsRow base 2 1 v (zs.length+1) (zs.map (Value.int .i64)++[.int .i64 x])):A8 w base v (zs++[x]):=by
 unfold A8;simpa using h
theorem Tryz.FM:(Tryz.prog.info? 2).map (fun i=>(i.zero,i.size,i.bytes))=some (some (.int .i64 0),1,8):=by kernel_rfl
theorem Jv {α:Type}(f:Nat->α)(n i:Nat)(z:α)(h:i<n):((List.range n).map f).getD i z=f i:=by
 rw[IT,KBN,KCx h];rfl
theorem A7 {b o i:Nat}:(⟨b,o,none⟩:Addr).add i=⟨b,o+i,none⟩:=by unfold Addr.add;split<;>simp_all
theorem R9 {w:World}{b o:Nat}{v:Value}(h:w.cell? ⟨b,o,none⟩=some v):b<w.heap.size:=by
 apply KBA;intro hn;have h3:w.heap[b]? = none:=by simp;omega
 simp[World.cell?,h3] at h
theorem Bs (w:World)(A:Obj)(i:Nat):(w.alloc A).heap[i]? = if i=w.heap.size then some A else w.heap[i]?:=Array.getElem?_push
theorem AD (w:World)(A:Obj):(w.alloc A).heap.size=w.heap.size+1:=Array.size_push _
theorem Az (w:World):w.drew.heap=w.heap:=rfl
theorem IL {w w1:World}{o:Obj}(k:AC (w.alloc o) w1):w.heap.size<w1.heap.size:=by
 have:=k.size;rw[AD] at this;omega
theorem AO {w w1:World}{cs:Array Value}{t:TypeId}(k:AC (w.alloc (.cells cs t)) w1)(i:Nat):w1.cell? ⟨w.heap.size,i,none⟩=cs[i]?:=by
 rw[k.cell (by rw[AD];omega),KAL (w.alloc (.cells cs t)) w.heap.size i cs t (0,0) (KAX w _)]
theorem DM {w w1:World}{o:Obj}(k:AC (w.alloc o) w1):w1.heap[w.heap.size]? = some o:=
 (KAW k w.heap.size (by rw[AD];omega)).trans (KAX w o)
theorem Aw {P:Program}{fn:Func}{p:Tmp}{ty:TypeId}(h:fn.results=#[.cell p ty])(tmps:Array Value)(w:World)(g:Nat)(t:TypeId)(cs:Array Value)(fr:Nat×Nat)(d:TypeDesc)
  (hp:tmps.getD p undef = .pointer (some ⟨g,0,none⟩)) (hg:w.heap[g]? = some (.cells cs t fr))
  (hu:P.underlying ty=some d) (hd:(match d with | .struct _ | .array _ _=>true|_=>false)=true) (hi:(P.info? ty).map (·.size)=some cs.size):
  (results fn tmps).run P w = .ok (.agg cs) w:=results_cell_row h tmps w g t cs fr d hp hg hu hd hi
theorem Cm {P:Program}{fn:Func}{p u:Tmp}{ty:TypeId}(h:fn.results=#[.cell p ty,.tmp u])(tmps:Array Value)(w:World)(g:Nat)(t:TypeId)(cs:Array Value)(fr:Nat×Nat)(d:TypeDesc)(v:Value)
  (hp:tmps.getD p undef = .pointer (some ⟨g,0,none⟩)) (hg:w.heap[g]? = some (.cells cs t fr)) (hv:tmps.getD u undef=v)
  (hu:P.underlying ty=some d) (hd:(match d with | .struct _ | .array _ _=>true|_=>false)=true) (hi:(P.info? ty).map (·.size)=some cs.size):
  (results fn tmps).run P w = .ok (.tuple #[.agg cs,v]) w:=by
 rw[results_cell_tmp h,hp,hv];simp[asAddr,run_loadVar_row w g t ty cs fr d hg hu hd hi,Result.andThen]
theorem RI {P:Program}{fn:Func}{p q:Tmp}{ty:TypeId}(h:fn.results=#[.cell p ty,.cell q ty])(tmps:Array Value)(w:World)(g g':Nat)(t t':TypeId)(cs cs':Array Value)(fr fr':Nat×Nat)(d:TypeDesc)
  (hp:tmps.getD p undef = .pointer (some ⟨g,0,none⟩)) (hg:w.heap[g]? = some (.cells cs t fr))
  (hq:tmps.getD q undef = .pointer (some ⟨g',0,none⟩)) (hg':w.heap[g']? = some (.cells cs' t' fr'))
  (hu:P.underlying ty=some d) (hd:(match d with | .struct _ | .array _ _=>true|_=>false)=true) (hi:(P.info? ty).map (·.size)=some cs.size) (hi':(P.info? ty).map (·.size)=some cs'.size):
  (results fn tmps).run P w = .ok (.tuple #[.agg cs,.agg cs']) w:=by
 have hp':tmps[p]?.getD undef = .pointer (some ⟨g,0,none⟩):=by simpa using hp
 have hq':tmps[q]?.getD undef = .pointer (some ⟨g',0,none⟩):=by simpa using hq
 simp[results,h,hp',hq',asAddr,run_loadVar_row w g t ty cs fr d hg hu hd hi,run_loadVar_row w g' t' ty cs' fr' d hg' hu hd hi']
def Ec (k p v g:Int):Bool:=
 decide ((1<=k/\k<=4)/\(0<=p/\p<=2)/\(0<=g/\g<=9)/\(k=4->p=0)/\(2<k->g=0)/\((k=2\/k=3)->1<=v/\v<=9)/\(¬(k=2\/k=3)->v=0))
abbrev Dd:=Int×Int×Int×Int
def zD:Dd:=(0,0,0,0)
def Fy (d:Dd):Bool:=Ec d.1 d.2.1 d.2.2.1 d.2.2.2
def UG (d:Dd):Int:=if d.1=1 then 1 else if d.1=2 then 1 else if d.1=3 then 2 else 0
def PW (ds:List Dd):Nat->Int
 | 0=>0
 |k+1=>PW ds k+UG (ds.getD k zD)
def SU (AA:List (List Dd)):Nat->Int
 | 0=>0
 |i+1=>SU AA i+PW (AA.getD i []) (AA.getD i []).length
theorem o7 (d:Dd):0<=UG d/\UG d<=2:=by
 unfold UG
 repeat' split
 all_goals omega
theorem Zd (ds:List Dd):∀k:Nat,0<=PW ds k/\PW ds k<=2*k
 | 0=>by simp[PW]
 |k+1=>by have:=Zd ds k;have:=o7 (ds.getD k zD);rw[PW];omega
def Cy (i:Nat)(own:List Int)(ds:List Dd):Nat->Option (List Int)
 | 0=>some own
 |k+1=>match Cy i own ds k with
  |none=>none
  |some o=>
   if (ds.getD k zD).2.2.2=0 then some o
   else if o.getD (ds.getD k zD).2.2.2.toNat 0≠0/\(o.getD (ds.getD k zD).2.2.2.toNat 0≠(i:Int)+1\/k=0\/(ds.getD (k-1) zD).2.2.2≠(ds.getD k zD).2.2.2) then none
   else some (o.set (ds.getD k zD).2.2.2.toNat ((i:Int)+1))
def FH (AA:List (List Dd)):Nat->Option (List Int)
 | 0=>some (List.replicate 10 0)
 |i+1=>match FH AA i with
  |none=>none
  |some o=>Cy i o (AA.getD i []) (AA.getD i []).length
def Kg (AA:List (List Dd)):Bool:=(FH AA AA.length).isSome
def CQ:List (List Dd)->Nat
 | []=>0
 |d::r=>d.length+CQ r
def GQ (ds:List Dd):Bool:=ds.all Fy&&decide (ds.length<=5)
def AL (AA:List (List Dd)):Bool:=
 decide (1<=AA.length/\AA.length<=3)&&AA.all GQ&&decide (CQ AA<=12)&&decide (SU AA AA.length<=6)&&Kg AA
theorem Ld {i:Nat}{own:List Int}{ds:List Dd}{k:Nat}(h:Cy i own ds k=none):∀n:Nat,k<=n->Cy i own ds n=none
 | 0,hn=>by
  obtain rfl:k=0:=by omega
  exact h
 |n+1,hn=>by
  by_cases e:k=n+1
  . rw[<-e];exact h
  . rw[Cy,Ld h n (by omega)]
theorem Lf {AA:List (List Dd)}{i:Nat}(h:FH AA i=none):∀n:Nat,i<=n->FH AA n=none
 | 0,hn=>by
  obtain rfl:i=0:=by omega
  exact h
 |n+1,hn=>by
  by_cases e:i=n+1
  . rw[<-e];exact h
  . rw[FH,Lf h n (by omega)]
theorem Kh {i:Nat}{own:List Int}{ds:List Dd}:∀ {k:Nat} {o:List Int},Cy i own ds k=some o->o.length=own.length
 | 0,o,h=>by simp only[Cy,KAg] at h;rw[<-h]
 |k+1,o,h=>by
  rw[Cy] at h;split at h
  . cases h
  ·
   rename_i o' ho';have ih:=Kh ho';split at h
   . simp only[KAg] at h;rw[<-h];exact ih
   ·
    split at h
    . cases h
    . simp only[KAg] at h;rw[<-h,KA4];exact ih
theorem NS {AA:List (List Dd)}:∀ {i:Nat} {o:List Int},FH AA i=some o->o.length=10
 | 0,o,h=>by simp only[FH,KAg] at h;rw[<-h];simp
 |i+1,o,h=>by
  rw[FH] at h;split at h
  . cases h
  ·
   rename_i o' ho';rw[Kh h];exact NS ho'
theorem Bm {α:Type}{f:α->Bool}{l:List α}(z:α)(h:l.all f=true)(i:Nat)(hi:i<l.length):f (l.getD i z)=true:=by
 rw[IT,KAH hi];exact KAx.1 h _ (KBI hi)
theorem oI {α:Type}{f:α->Bool}{l:List α}(z:α)(h:∀i,i<l.length->f (l.getD i z)=true):l.all f=true:=by
 rw[KAx];intro x hx;obtain⟨i,hi,rfl⟩:=KBk hx;have:=h i hi
 rwa [IT,KAH hi] at this
theorem QQ {α:Type}{f:α->Bool}{l:List α}(z:α)(i:Nat)(hi:i<l.length)(h:f (l.getD i z)=false):l.all f=false:=by
 cases hb:l.all f
 . rfl
 . rw[Bm z hb i hi] at h;cases h
abbrev Ev:=Int×Int×Bool×Int×Int×Int
def zE:Ev:=(0,0,false,0,0,0)
def gF (e:Ev):Int:=e.2.2.2.2.2
def Ci:List Ev:=[(-1,-1,false,0,0,0),(-1,-1,false,1,0,1),(-1,-1,false,2,0,2)]
def C6 (i k:Nat)(d:Dd)(c:Int):List Ev:=
 if d.1=4 then [] else if d.1=3 then [((i:Int),(k:Int),true,d.2.1,0,c),((i:Int),(k:Int),false,d.2.1,d.2.2.1,c)]
 else if d.1=2 then [((i:Int),(k:Int),false,d.2.1,d.2.2.1,c)] else [((i:Int),(k:Int),true,d.2.1,0,c)]
def Df (g:Int)(at0:Nat)(f:List Int):List Int:=if 0<g/\f.getD g.toNat 0=0 then f.set g.toNat (at0:Int) else f
def C9 (g:Int)(at0:Nat)(f:List Int):Int:=if 0<g then (Df g at0 f).getD g.toNat 0 else (at0:Int)
def FA (i k:Nat)(d:Dd)(s:List Ev×List Int):List Ev×List Int:=
 if d.1=4 then s else (s.1++C6 i k d (C9 d.2.2.2 s.1.length s.2),Df d.2.2.2 s.1.length s.2)
def Bg (i:Nat)(ds:List Dd)(out:List Ev):Nat->List Ev×List Int
 | 0=>(out,List.replicate 10 0)
 |k+1=>FA i k (ds.getD k zD) (Bg i ds out k)
def BB (AA:List (List Dd)):Nat->List Ev
 | 0=>Ci
 |i+1=>(Bg i (AA.getD i []) (BB AA i) (AA.getD i []).length).1
def AB (AA:List (List Dd)):List Ev:=if AL AA=true then BB AA AA.length else []
theorem bU (i k:Nat)(d:Dd)(c:Int)(h:d.1=1\/d.1=2\/d.1=3\/d.1=4):((C6 i k d c).length:Int)=UG d:=by
 unfold C6 UG;rcases h with h|h|h|h<;>simp[h]
theorem Cf {d:Dd}(h:Fy d=true):d.1=1\/d.1=2\/d.1=3\/d.1=4:=by
 simp[Fy,Ec] at h;omega
theorem Cl {d:Dd}(h:Fy d=true):0<=d.2.1/\d.2.1<=2/\0<=d.2.2.2/\d.2.2.2<=9/\(2<d.1->d.2.2.2=0):=by
 simp[Fy,Ec] at h;omega
theorem SH {i:Nat}{ds:List Dd}{out:List Ev}(hok:∀j,j<ds.length->Fy (ds.getD j zD)=true):∀k:Nat,k<=ds.length->((Bg i ds out k).1.length:Int)=out.length+PW ds k
 | 0,_=>by simp[Bg,PW]
 |k+1,h=>by
  have ih:=SH (i:=i) (out:=out) hok k (by omega);have hk:=Cf (hok k (by omega));rw[Bg,FA,PW];split
  ·
   rename_i h4;rw[ih];unfold UG;rw[h4];simp
  ·
   have:=bU i k (ds.getD k zD) (C9 (ds.getD k zD).2.2.2 (Bg i ds out k).1.length (Bg i ds out k).2) hk;rw[KAJ];omega
theorem IR {AA:List (List Dd)}(hok:∀i,i<AA.length->GQ (AA.getD i [])=true):∀n:Nat,n<=AA.length->((BB AA n).length:Int)=3+SU AA n
 | 0,_=>by simp[BB,Ci,SU]
 |n+1,h=>by
  have ih:=IR hok n (by omega);have hn:=hok n (by omega);simp only[GQ,KAO,KAN] at hn;rw[BB,SH (fun j hj=>Bm zD hn.1 j hj) _ (KAM _),ih,SU];omega
def Ja (AA:List (List Dd))(out:List Ev)(j:Nat):Prop:=
 ∃(i k c:Nat) (rd:Bool) (vl:Int),out[j]? = some ((i:Int),(k:Int),rd,((AA.getD i []).getD k zD).2.1,vl,(c:Int))/\i<AA.length/\k<(AA.getD i []).length /\
  (rd=true->vl=0)/\(rd=false->vl=((AA.getD i []).getD k zD).2.2.1)/\c<=j /\
  ∃(k':Nat) (rd':Bool) (pl' vl':Int),out[c]? = some ((i:Int),(k':Int),rd',pl',vl',(c:Int))/\k'<(AA.getD i []).length /\
   (c≠j->((AA.getD i []).getD k zD).1≠3->((AA.getD i []).getD k zD).2.2.2≠0/\((AA.getD i []).getD k' zD).2.2.2=((AA.getD i []).getD k zD).2.2.2)
theorem Ix {α:Type}{l:List α}{j:Nat}{x:α}(t:List α)(h:l[j]? = some x):(l++t)[j]? = some x:=by
 rw[KAu (KBE.1 h).1];exact h
theorem Ja.more {AA:List (List Dd)}{out:List Ev}{j:Nat}(h:Ja AA out j)(t:List Ev):Ja AA (out++t) j:=by
 obtain⟨i,k,c,rd,vl,h1,h2,h3,h4,h5,h6,k',rd',pl',vl',g1,g2,g3⟩:=h;exact⟨i,k,c,rd,vl,Ix t h1,h2,h3,h4,h5,h6,k',rd',pl',vl',Ix t g1,g2,g3⟩
def Ym (AA:List (List Dd))(i:Nat)(out:List Ev)(f:List Int):Prop:=
 f.length=10/\∀g:Nat,0<g->g<10->f.getD g 0=0\/∃(c k':Nat) (rd':Bool) (pl' vl':Int),f.getD g 0=(c:Int)/\out[c]? = some ((i:Int),(k':Int),rd',pl',vl',(c:Int))/\k'<(AA.getD i []).length/\((AA.getD i []).getD k' zD).2.2.2=(g:Int)
theorem Ck (o:List Int)(g:Nat)(x:Int)(j:Nat)(hg:g<o.length):(o.set g x).getD j 0=if g=j then x else o.getD j 0:=by
 rw[IT,KBt];by_cases e:g=j
 . subst e;rw[KAP rfl,KAP hg,KAP rfl];rfl
 . rw[KAQ e,KAQ e,IT]
theorem Nw (i k:Nat)(d:Dd)(c:Int)(h4:d.1≠4):∃rd vl,(C6 i k d c)[0]? = some ((i:Int),(k:Int),rd,d.2.1,vl,c)/\(rd=true->vl=0)/\(rd=false->vl=d.2.2.1):=by
 unfold C6;rw[KAQ h4];split
 . exact⟨true,0,rfl,by simp,by simp⟩
 ·
  split
  . exact⟨false,d.2.2.1,rfl,by simp,by simp⟩
  . exact⟨true,0,rfl,by simp,by simp⟩
theorem YR {AA:List (List Dd)}{i k:Nat}{out:List Ev}{f:List Int}(hi:i<AA.length)(hk:k<(AA.getD i []).length)(hok:Fy ((AA.getD i []).getD k zD)=true)
  (hG:∀j,3<=j->j<out.length->Ja AA out j) (hF:Ym AA i out f):
  (∀j,3<=j->j<(FA i k ((AA.getD i []).getD k zD) (out,f)).1.length->Ja AA (FA i k ((AA.getD i []).getD k zD) (out,f)).1 j)/\Ym AA i (FA i k ((AA.getD i []).getD k zD) (out,f)).1 (FA i k ((AA.getD i []).getD k zD) (out,f)).2:=by
 obtain⟨d,hd⟩:∃d,d=(AA.getD i []).getD k zD:=⟨_,rfl⟩;rw[<-hd] at hok ⊢;by_cases h4:d.1=4
 . rw[FA,KAP h4];exact⟨hG,hF⟩
 rw[FA,KAQ h4];dsimp only;obtain⟨r0,r1,r2,r3,r4⟩:=Cl hok;obtain⟨g,hg⟩:=KAn r2;obtain⟨hl,hf⟩:=hF
 have hcls:∃(c k':Nat) (rd':Bool) (pl' vl':Int),C9 d.2.2.2 out.length f=(c:Int)/\c<=out.length/\(out++C6 i k d (C9 d.2.2.2 out.length f))[c]? = some ((i:Int),(k':Int),rd',pl',vl',(c:Int))/\k'<(AA.getD i []).length /\
   (c≠out.length->d.2.2.2≠0/\((AA.getD i []).getD k' zD).2.2.2=d.2.2.2)/\(c=out.length->k'=k):=by
  obtain⟨rd,vl,ho,_,_⟩:=Nw i k d (C9 d.2.2.2 out.length f) h4
  have new:C9 d.2.2.2 out.length f=(out.length:Int)->(out++C6 i k d (C9 d.2.2.2 out.length f))[out.length]? = some ((i:Int),(k:Int),rd,d.2.1,vl,((out.length:Nat):Int)):=fun e=>by
   rw[KAy (KAM _),Nat.sub_self,ho,e]
  by_cases hg0:g=0
  ·
   have e:C9 d.2.2.2 out.length f=(out.length:Int):=by unfold C9;rw[hg,KAQ (by omega)]
   exact⟨out.length,k,rd,d.2.1,vl,e,KAM _,new e,hk,fun h=>absurd rfl h,fun _=>rfl⟩
  ·
   have gp:(0:Int)<d.2.2.2:=by rw[hg];omega
   have g10:g<10:=by rw[hg] at r3;omega
   rcases hf g (by omega) g10 with h0|⟨c,k',rd',pl',vl',e1,e2,e3,e4⟩
   ·
    have e:C9 d.2.2.2 out.length f=(out.length:Int):=by
     unfold C9 Df;rw[KAP gp,hg,KAV,KAP ⟨by omega,h0⟩,Ck f g _ g (by omega),KAP rfl]
    exact⟨out.length,k,rd,d.2.1,vl,e,KAM _,new e,hk,fun h=>absurd rfl h,fun _=>rfl⟩
   ·
    have cl:c<out.length:=(KBE.1 e2).1;by_cases hc0:(c:Int)=0
    ·
     have e:C9 d.2.2.2 out.length f=(out.length:Int):=by
      unfold C9 Df;rw[KAP gp,hg,KAV,KAP ⟨by omega,by rw[e1];exact hc0⟩,Ck f g _ g (by omega),KAP rfl]
     exact⟨out.length,k,rd,d.2.1,vl,e,KAM _,new e,hk,fun h=>absurd rfl h,fun _=>rfl⟩
    ·
     have e:C9 d.2.2.2 out.length f=(c:Int):=by
      unfold C9 Df;rw[KAP gp,hg,KAV,KAQ (by rw[e1];omega),e1]
     exact⟨c,k',rd',pl',vl',e,by omega,Ix _ e2,e3,fun _=>⟨by omega,by rw[e4,hg]⟩,fun h=>by omega⟩
 obtain⟨c,k',rd',pl',vl',hc,hcl,hce,hk',hcg,hcn⟩:=hcls;rw[hc] at hce ⊢;refine⟨fun j hj3 hj=>?_,?_⟩
 ·
  by_cases hold:j<out.length
  . exact (hG j hj3 hold).more _
  ·
   have e1:(out++C6 i k d (c:Int))[j]? = (C6 i k d (c:Int))[j-out.length]?:=KAy (by omega);have hjl:j-out.length<(C6 i k d (c:Int)).length:=by rw[KAJ] at hj;omega
   have form:∃rd vl,(C6 i k d (c:Int))[j-out.length]? = some ((i:Int),(k:Int),rd,d.2.1,vl,(c:Int))/\(rd=true->vl=0)/\(rd=false->vl=d.2.2.1)/\(j≠out.length->d.1=3):=by
    by_cases hz:j-out.length=0
    ·
     obtain⟨rd,vl,ho,h5,h6⟩:=Nw i k d (c:Int) h4;exact⟨rd,vl,by rw[hz];exact ho,h5,h6,fun h=>by omega⟩
    ·
     unfold C6 at hjl ⊢;rw[KAQ h4] at hjl ⊢;split at hjl
     ·
      rename_i h3;rw[KAP h3];have:j-out.length=1:=by simp at hjl;omega
      rw[this];exact⟨false,d.2.2.1,rfl,by simp,by simp,fun _=>h3⟩
     ·
      split at hjl
      . simp at hjl;omega
      . simp at hjl;omega
   obtain⟨rd,vl,h1,h5,h6,h7⟩:=form;refine⟨i,k,c,rd,vl,by rw[e1,<-hd];exact h1,hi,hk,h5,by rw[<-hd];exact h6,by omega,k',rd',pl',vl',hce,hk',fun hcj h3=>?_⟩;rw[<-hd] at h3 ⊢
   have:j=out.length:=by
    apply KBA;intro hne;exact h3 (h7 hne)
   exact hcg (by omega)
 ·
  refine⟨by unfold Df;split<;>simp[hl],fun q hq0 hq=>?_⟩
  have Vd:f.getD q 0=0\/∃(c' k'':Nat) (rd'':Bool) (pl'' vl'':Int),f.getD q 0=(c':Int)/\(out++C6 i k d (c:Int))[c']? = some ((i:Int),(k'':Int),rd'',pl'',vl'',(c':Int))/\k''<(AA.getD i []).length/\((AA.getD i []).getD k'' zD).2.2.2=(q:Int):=by
   rcases hf q hq0 hq with h0|⟨c',k'',rd'',pl'',vl'',e1,e2,e3,e4⟩
   . exact .inl h0
   . exact .inr ⟨c',k'',rd'',pl'',vl'',e1,Ix _ e2,e3,e4⟩
  unfold Df;split
  ·
   rename_i hcond;rw[hg,KAV] at hcond ⊢;rw[Ck f g _ q (by rw[hg] at r3;omega)];by_cases e:g=q
   ·
    subst e;rw[KAP rfl];right
    have ec:c=out.length:=by
     have:C9 d.2.2.2 out.length f=(out.length:Int):=by
      unfold C9 Df;rw[KAP (by rw[hg];exact hcond.1),hg,KAV,KAP hcond,Ck f g _ g (by rw[hg] at r3;omega),KAP rfl]
     omega
    have ek:=hcn ec;subst ek;refine⟨out.length,k',rd',pl',vl',rfl,?_,hk',by rw[<-hd,hg]⟩;rw[ec] at hce;rw[ec];exact hce
   . rw[KAQ e];exact Vd
  . exact Vd
theorem SK {AA:List (List Dd)}{i:Nat}{out:List Ev}(hi:i<AA.length)(hok:∀j,j<(AA.getD i []).length->Fy ((AA.getD i []).getD j zD)=true)(hG:∀j,3<=j->j<out.length->Ja AA out j):
  ∀k:Nat,k<=(AA.getD i []).length->(∃t,(Bg i (AA.getD i []) out k).1=out++t)/\(∀j,3<=j->j<(Bg i (AA.getD i []) out k).1.length->Ja AA (Bg i (AA.getD i []) out k).1 j)/\Ym AA i (Bg i (AA.getD i []) out k).1 (Bg i (AA.getD i []) out k).2
 | 0,_=>⟨⟨[],by simp[Bg]⟩,hG,by simp[Bg],fun g _ hg => .inl (by simp only[Bg];rw[IT,KBG,KAP hg];rfl)⟩
 |k+1,h=>by
  obtain⟨⟨t,ht⟩,h2,h3⟩:=SK hi hok hG k (by omega);have:=YR (k:=k) hi (by omega) (hok k (by omega)) h2 h3;refine⟨?_,this⟩;rw[Bg,FA];split
  . exact⟨t,ht⟩
  . exact⟨t++C6 i k ((AA.getD i []).getD k zD) (C9 ((AA.getD i []).getD k zD).2.2.2 (Bg i (AA.getD i []) out k).1.length (Bg i (AA.getD i []) out k).2),by simp only;rw[ht,KA2]⟩
theorem NK {AA:List (List Dd)}(hok:∀i,i<AA.length->GQ (AA.getD i [])=true):∀n:Nat,n<=AA.length->(∃t,BB AA n=Ci++t)/\∀j,3<=j->j<(BB AA n).length->Ja AA (BB AA n) j
 | 0,_=>⟨⟨[],by simp[BB]⟩,fun j h1 h2=>by simp[BB,Ci] at h2;omega⟩
 |n+1,h=>by
  obtain⟨⟨t,ht⟩,h2⟩:=NK hok n (by omega);have hn:=hok n (by omega);simp only[GQ,KAO,KAN] at hn;obtain⟨⟨t2,ht2⟩,h3,_⟩:=SK (i:=n) (out:=BB AA n) (by omega) (fun j hj=>Bm zD hn.1 j hj) h2 (AA.getD n []).length (KAM _);rw[BB];exact⟨⟨t++t2,by rw[ht2,ht,KA2]⟩,h3⟩
def Af (e:Ev):Bool:=e.2.2.1
def PF (p:Int)(e:Ev):Bool:=!e.2.2.1&&(e.2.2.2.1==p)
def Bh (f:Ev->Bool)(l:List Ev):Nat->List Int
 | 0=>[]
 |k+1=>if f (l.getD k zE)=true then Bh f l k++[(k:Int)] else Bh f l k
def AW (f:Ev->Bool)(l:List Ev):List Int:=if l.length<=12 then Bh f l l.length else []
theorem E0 (f:Ev->Bool)(l:List Ev):∀k:Nat,(Bh f l k).length<=k
 | 0=>by simp[Bh]
 |k+1=>by
  have ih:=E0 f l k;rw[Bh];split
  . simp;omega
  . omega
theorem JC (f:Ev->Bool)(l:List Ev):∀(k:Nat) (x:Int),x∈Bh f l k->0<=x/\x<(k:Int)
 | 0,x,h=>by simp[Bh] at h
 |k+1,x,h=>by
  rw[Bh] at h;split at h
  ·
   rcases KA0.1 h with h|h
   . have:=JC f l k x h;omega
   . simp at h;omega
  . have:=JC f l k x h;omega
theorem NX (f:Ev->Bool)(l:List Ev):∀k:Nat,(Bh f l k).Pairwise (·<·)
 | 0=>by simp[Bh]
 |k+1=>by
  have ih:=NX f l k;rw[Bh];split
  ·
   rw[KCB];refine⟨ih,by simp,fun a ha b hb=>?_⟩;simp at hb;have:=JC f l k a ha;omega
  . exact ih
theorem NV (f:Ev->Bool)(l:List Ev)(k:Nat):∀n:Nat,k<=n->∃t,Bh f l n=Bh f l k++t
 | 0,h=>by
  obtain rfl:k=0:=by omega
  exact⟨[],by simp⟩
 |n+1,h=>by
  by_cases e:k=n+1
  . subst e;exact⟨[],by simp⟩
  ·
   obtain⟨t,ht⟩:=NV f l k n (by omega);rw[Bh];split
   . exact⟨t++[(n:Int)],by rw[ht,KA2]⟩
   . exact⟨t,ht⟩
theorem Vc {l:List Ev}:∀k:Nat,(∀j,j<k->0<=(l.getD j zE).2.2.2.1/\(l.getD j zE).2.2.2.1<=2)->(Bh Af l k).length+(Bh (PF 0) l k).length+(Bh (PF 1) l k).length+(Bh (PF 2) l k).length=k
 | 0,_=>by simp[Bh]
 |k+1,h=>by
  have ih:=Vc (l:=l) k (fun j hj=>h j (by omega));have hp:=h k (by omega);obtain⟨e,he⟩:∃e,e=l.getD k zE:=⟨_,rfl⟩;rw[<-he] at hp;simp only[Bh,<-he];clear he;obtain⟨a,b,r,p,v,c⟩:=e;simp only at hp;cases r
  ·
   have hr:Af (a,b,false,p,v,c)=false:=rfl;have:p=0\/p=1\/p=2:=by omega
   rcases this with rfl|rfl|rfl
   ·
    have t0:PF 0 (a,b,false,0,v,c)=true:=rfl;have t1:PF 1 (a,b,false,0,v,c)=false:=rfl;have t2:PF 2 (a,b,false,0,v,c)=false:=rfl;simp only[hr,t0,t1,t2,KCT,KBO,KCU,KAJ,KBJ,KCG];omega
   ·
    have t0:PF 0 (a,b,false,1,v,c)=false:=rfl;have t1:PF 1 (a,b,false,1,v,c)=true:=rfl;have t2:PF 2 (a,b,false,1,v,c)=false:=rfl;simp only[hr,t0,t1,t2,KCT,KBO,KCU,KAJ,KBJ,KCG];omega
   ·
    have t0:PF 0 (a,b,false,2,v,c)=false:=rfl;have t1:PF 1 (a,b,false,2,v,c)=false:=rfl;have t2:PF 2 (a,b,false,2,v,c)=true:=rfl;simp only[hr,t0,t1,t2,KCT,KBO,KCU,KAJ,KBJ,KCG];omega
  ·
   have hr:Af (a,b,true,p,v,c)=true:=rfl;have t:∀q,PF q (a,b,true,p,v,c)=false:=fun _=>rfl
   simp only[hr,t,KCT,KBO,KCU,KAJ,KBJ,KCG];omega
theorem QT {l t:List Ev}(h:l=Ci++t):l.getD 0 zE=(-1,-1,false,0,0,0)/\l.getD 1 zE=(-1,-1,false,1,0,1)/\l.getD 2 zE=(-1,-1,false,2,0,2):=by
 subst h;exact⟨rfl,rfl,rfl⟩
theorem Xe {l t:List Ev}(h:l=Ci++t)(p:Nat)(hp:p<3):∃r,Bh (PF (p:Int)) l l.length=(p:Int)::r:=by
 obtain⟨h0,h1,h2⟩:=QT h;have hl:3<=l.length:=by rw[h];simp[Ci]
 obtain⟨r,hr⟩:=NV (PF (p:Int)) l 3 l.length hl
 have e:∃q,Bh (PF (p:Int)) l 3=(p:Int)::q:=by
  have:p=0\/p=1\/p=2:=by omega
  simp only[Bh,h0,h1,h2,PF];rcases this with rfl|rfl|rfl
  . exact⟨[],by simp⟩
  . exact⟨[],by simp⟩
  . exact⟨[],by simp⟩
 obtain⟨q,hq⟩:=e;exact⟨q++r,by rw[hr,hq];rfl⟩
theorem UL {AA:List (List Dd)}{out:List Ev}{j:Nat}(hok:∀i,i<AA.length->GQ (AA.getD i [])=true)(h:Ja AA out j):0<=(out.getD j zE).2.2.2.1/\(out.getD j zE).2.2.2.1<=2:=by
 obtain⟨i,k,c,rd,vl,h1,h2,h3,_⟩:=h;have hi:=hok i h2;simp only[GQ,KAO,KAN] at hi;have:=Cl (Bm zD hi.1 k h3);rw[IT,h1];exact⟨this.1,this.2.1⟩
theorem NJ {AA:List (List Dd)}(h:AL AA=true):(BB AA AA.length).length<=12/\((BB AA AA.length).length:Int)=3+SU AA AA.length /\
  (Bh Af (BB AA AA.length) (BB AA AA.length).length).length+(Bh (PF 0) (BB AA AA.length) (BB AA AA.length).length).length+(Bh (PF 1) (BB AA AA.length) (BB AA AA.length).length).length+(Bh (PF 2) (BB AA AA.length) (BB AA AA.length).length).length=(BB AA AA.length).length /\
  (∀p:Nat,p<3->∃r,Bh (PF (p:Int)) (BB AA AA.length) (BB AA AA.length).length=(p:Int)::r)/\∀j,3<=j->j<(BB AA AA.length).length->Ja AA (BB AA AA.length) j:=by
 simp only[AL,KAO,KAN] at h;obtain⟨⟨⟨⟨h1,h2⟩,h3⟩,h4⟩,_⟩:=h;have hok:∀i,i<AA.length->GQ (AA.getD i [])=true:=fun i hi=>Bm [] h2 i hi
 have hl:=IR hok AA.length (KAM _);obtain⟨⟨t,ht⟩,hg⟩:=NK hok AA.length (KAM _);refine⟨by omega,hl,Vc _ (fun j hj=>?_),fun p hp=>Xe ht p hp,hg⟩;by_cases hj3:3<=j
 . exact UL hok (hg j hj3 hj)
 ·
  obtain⟨b0,b1,b2⟩:=QT ht;have:j=0\/j=1\/j=2:=by omega
  rcases this with rfl|rfl|rfl
  . rw[b0];decide
  . rw[b1];decide
  . rw[b2];decide
section
section
variable {α:Type} {cf:α->List Value} {n:Nat}
def fZ (cf:α->List Value)(w:World)(b o:Nat)(x:α):Prop:=∀m u,(cf x)[m]? = some u->w.cell? ⟨b,o+m,none⟩=some u
def ql (cf:α->List Value)(n:Nat)(w:World)(v:Value)(xs:List α):Prop:=
 ∃(a:Option Addr) (cap:Nat),v = .slice a xs.length (xs.length+cap) /\
  (xs=[]\/∃b off,a=some ⟨b,off,none⟩/\b<w.heap.size/\∀i x,xs[i]? = some x->fZ cf w b (off+i*n) x)
theorem fZ.same {w w':World}{b o:Nat}{x:α}(h:fZ cf w b o x)(hh:w'.heap[b]? = w.heap[b]?):fZ cf w' b o x:=
 fun m u hm=>by
  have:=h m u hm;simp only[World.cell?,hh] at this ⊢;exact this
theorem fZ.keep {w w':World}{b o:Nat}{x:α}(h:fZ cf w b o x)(hb:b<w.heap.size)(k:AC w w'):fZ cf w' b o x:=h.same (KAW k b hb)
theorem ql.keep {w w':World}{v:Value}{xs:List α}(h:ql cf n w v xs)(k:AC w w'):ql cf n w' v xs:=by
 obtain⟨a,cap,hv,h⟩:=h;refine⟨a,cap,hv,?_⟩;rcases h with h|⟨b,off,ha,hb,hc⟩
 . exact .inl h
 . exact .inr ⟨b,off,ha,KAC hb k.size,fun i x hx=>(hc i x hx).keep hb k⟩
def B5 (cf:α->List Value)(e:TypeId)(n:Nat)(w:World)(base:Nat)(v:Value)(xs:List α):Prop:=w.ownsRow base e n v xs.length (xs.flatMap cf)
variable {e:TypeId}
theorem B5.keep {w w':World}{base:Nat}{v:Value}{xs:List α}(h:B5 cf e n w base v xs)(k:AC w w'):B5 cf e n w' base v xs:=
 KAs h k.grownBy (by cases v.ownBlock<;>simp)
theorem B5.kept {w w':World}{base:Nat}{v:Value}{xs:List α}{row:Option Nat}(h:B5 cf e n w base v xs)(hg:w.grownBy w' row)(hne:v.ownBlock=none\/v.ownBlock≠row):B5 cf e n w' base v xs:=
 KAs h hg hne
theorem B5.lt {w:World}{base:Nat}{v:Value}{xs:List α}(h:B5 cf e n w base v xs):∀k,v.ownBlock=some k->base<=k/\k<w.heap.size:=KAY h
theorem B5.ge {w:World}{base:Nat}{v:Value}{xs:List α}(h:B5 cf e n w base v xs):∀k,v.ownBlock=some k->base<=k:=fun k hk=>(h.lt k hk).1
theorem KN {w:World}{base:Nat}{v:Value}{xs:List α}{x:α}(h:w.ownsRow base e n v (xs.length+1) (xs.flatMap cf++cf x)):B5 cf e n w base v (xs++[x]):=by
 unfold B5;rw[KB7];simpa using h
theorem Mw (w:World):B5 cf e n (w.alloc (.cells #[] e)) w.heap.size (.slice (some ⟨w.heap.size,0,none⟩) 0 0) []:=
 KAo w #[] 0 (KAM _) (by decide) (by simp)
theorem VU (hn:∀x,(cf x).length=n):∀(xs:List α) (i:Nat) (x:α) (m:Nat),xs[i]? = some x->m<n->(xs.flatMap cf)[i*n+m]? = (cf x)[m]?
 | [],i,x,m,h,_=>by simp at h
 |y::r,0,x,m,h,hm=>by
  simp at h;subst h;rw[KBH,KAu (by rw[hn];omega)];simp
 |y::r,i+1,x,m,h,hm=>by
  have ih:=VU hn r i x m (by simpa using h) hm;have e1:(i+1)*n+m=n+(i*n+m):=by rw[Nat.add_mul];omega
  rw[KBH,KAy (by rw[hn];omega),hn,e1,Nat.add_sub_cancel_left,ih]
theorem B5.shape {w:World}{base:Nat}{v:Value}{xs:List α}(h:B5 cf e n w base v xs):∃a c,v = .slice a xs.length c:=by
 rcases h.2 with ⟨rfl,hz⟩|⟨g,cap,cur,rfl,_⟩
 . exact⟨none,0,by rw[hz]⟩
 . exact⟨_,_,rfl⟩
theorem B5.rd (hn:∀x,(cf x).length=n){w:World}{base:Nat}{v:Value}{xs:List α}(h:B5 cf e n w base v xs):ql cf n w v xs:=by
 have h2:=h;have hlt:=h.lt;rcases h.2 with ⟨rfl,hz⟩|⟨g,cap,cur,rfl,hb,hg,hcap,_,hs,_⟩
 ·
  have:xs=[]:=KAZ hz;subst this;exact⟨none,0,rfl,.inl rfl⟩
 ·
  obtain⟨x,rfl⟩:∃x,cap=xs.length+x:=⟨cap-xs.length,by omega⟩;refine⟨_,x,rfl,.inr ⟨g,0,rfl,(hlt g rfl).2,fun i y hy m u hm=>?_⟩⟩;have hi:i<xs.length:=(KBE.1 hy).1;have hmn:m<n:=by have:=(KBE.1 hm).1;rw[hn] at this;exact this
  have hb2:i*n+m<xs.length*n:=by
   have h3:(i+1)*n<=xs.length*n:=KDH n hi;rw[Nat.add_mul] at h3;omega
  rw[KBC,KAp h2 (i*n+m) hb2,VU hn xs i y m hy hmn];exact hm
end
end
def cE (e:Ev):List Value:=[.int .i64 e.1,.int .i64 e.2.1,.bool e.2.2.1,.int .i64 e.2.2.2.1,.int .i64 e.2.2.2.2.1,.int .i64 e.2.2.2.2.2]
theorem oU (e:Ev):(cE e).length=6:=rfl
theorem Tryz.Z7:(Tryz.prog.info? 85).map (fun i=>(i.zero,i.size,i.bytes))=some (some (.agg #[.int .i64 0,.int .i64 0,.bool false,.int .i64 0,.int .i64 0,.int .i64 0]),6,48):=by kernel_rfl
abbrev Yu (w:World)(v:Value)(es:List Ev):Prop:=ql cE 6 w v es
abbrev GV (w:World)(base:Nat)(v:Value)(es:List Ev):Prop:=B5 cE 85 6 w base v es
theorem qw {w:World}{b o:Nat}{x0 x1:Int}{r:Bool}{x3 x4 x5:Int}(h:fZ cE w b o (x0,x1,r,x3,x4,x5)):
  w.cell? ⟨b,o,none⟩=some (.int .i64 x0)/\w.cell? ⟨b,o+1,none⟩=some (.int .i64 x1)/\w.cell? ⟨b,o+2,none⟩=some (.bool r)/\w.cell? ⟨b,o+3,none⟩=some (.int .i64 x3)/\w.cell? ⟨b,o+4,none⟩=some (.int .i64 x4)/\w.cell? ⟨b,o+5,none⟩=some (.int .i64 x5):=
 ⟨h 0 _ rfl,h 1 _ rfl,h 2 _ rfl,h 3 _ rfl,h 4 _ rfl,h 5 _ rfl⟩
theorem GV.rd {w:World}{base:Nat}{v:Value}{es:List Ev}(h:GV w base v es):Yu w v es:=B5.rd oU h
theorem Mh {es:List Ev}{i:Nat}(h:i<es.length):es[i]? = some (es.getD i zE):=by
 rw[IT,KAH h];rfl
theorem Ew (f:Ev->Bool)(es:List Ev):(AW f es).length<=12:=by
 unfold AW;split
 . have:=E0 f es es.length;omega
 . simp
def Oc (AA:List (List Dd)):Int:=(AW Af (BB AA AA.length)).length
theorem GM (AA:List (List Dd)):0<=Oc AA/\Oc AA<=12:=by have:=Ew Af (BB AA AA.length);unfold Oc;omega
def MW (n reads:Int):Bool:=Co n 0 (reads-1)||Co n 100 102
def II (reads:Int)(rs vs:List Int):Nat->Bool
 | 0=>true
 |k+1=>II reads rs vs k&&(MW (rs.getD k 0) reads&&Co (vs.getD k 0) 0 9)
def Q0 (reads:Int)(rs vs:List Int):Bool:=(decide (rs.length<=6)&&decide (rs.length=vs.length))&&II reads rs vs rs.length
def Db (AA:List (List Dd))(rs vs:List Int):Bool:=AL AA&&Q0 (Oc AA) rs vs
theorem IJ {reads:Int}{rs vs:List Int}{k n:Nat}(h:II reads rs vs k=false)(hk:k<=n):II reads rs vs n=false:=by
 induction n with
 |zero=>
  obtain rfl:k=0:=by omega
  exact h
 |succ n ih=>
  by_cases e:k=n+1
  . rw[<-e];exact h
  ·
   show (II reads rs vs n&&_)=false;rw[ih (by omega),KCe]
theorem iJ {reads:Int}{rs vs:List Int}{n:Nat}(h:II reads rs vs n=true){i:Nat}(hi:i<n):MW (rs.getD i 0) reads=true/\Co (vs.getD i 0) 0 9=true:=by
 induction n with
 |zero=>omega
 |succ n ih=>
  have h':(II reads rs vs n&&(MW (rs.getD n 0) reads&&Co (vs.getD n 0) 0 9))=true:=h;simp only[KAO] at h';by_cases e:i=n
  . subst e;exact h'.2
  . exact ih h'.1 (by omega)
theorem Q4 {reads:Int}{rs vs:List Int}(h:Q0 reads rs vs=true):rs.length<=6/\rs.length=vs.length/\∀i,i<rs.length->MW (rs.getD i 0) reads=true/\Co (vs.getD i 0) 0 9=true:=by
 unfold Q0 at h;simp only[KAO,KAN] at h;exact⟨h.1.1,h.1.2,fun i hi=>iJ h.2 hi⟩
def Gv (n:Nat)(r:Int):Int:=if 100<=r then (n:Int)-3+r-100 else r
def Gi (rs vs one:List Int):Nat->Bool
 | 0=>true
 |k+1=>Gi rs vs one k&&decide (one.getD (Gv one.length (rs.getD k 0)).toNat 0=vs.getD k 0)
def DF (rs vs one:List Int):Bool:=Gi rs vs one rs.length
def Cz (AA:List (List Dd))(rs vs one:List Int):Bool:=(Db AA rs vs&&decide ((one.length:Int)=Oc AA+3))&&DF rs vs one
theorem JE {rs vs one:List Int}{k n:Nat}(h:Gi rs vs one k=false)(hk:k<=n):Gi rs vs one n=false:=by
 induction n with
 |zero=>
  obtain rfl:k=0:=by omega
  exact h
 |succ n ih=>
  by_cases e:k=n+1
  . rw[<-e];exact h
  ·
   show (Gi rs vs one n&&_)=false;rw[ih (by omega),KCe]
theorem QS {reads:Int}{n:Nat}{r:Int}(h:MW r reads=true)(hn:(n:Int)=reads+3)(h0:0<=reads)(h1:reads<=12):0<=Gv n r/\Gv n r<(n:Int):=by
 unfold MW Co at h;simp only[KBw,KAN] at h;unfold Gv;split<;>omega
theorem UR {reads r:Int}(h:MW r reads=true)(h0:0<=reads)(h1:reads<=12):0<=r/\r<=102:=by
 unfold MW Co at h;simp only[KBw,KAN] at h;omega
def JV (rs vs:List Int)(l:List (List Int)):Nat->Nat
 | 0=>0
 |k+1=>JV rs vs l k+(if DF rs vs (l.getD k [])=true then 1 else 0)
theorem Vi (rs vs:List Int)(l:List (List Int)):∀k,JV rs vs l k<=k
 | 0=>KAM _
 |k+1=>by
  have:=Vi rs vs l k;show JV rs vs l k+_<=k+1;split<;>omega
def G2 (ds:List Dd)(k:Nat):Bool:=decide (0<k)&&((ds.getD k zD).2.2.2 != 0)&&((ds.getD k zD).2.2.2==(ds.getD (k-1) zD).2.2.2)
def Nl (out:List Ev):Int:=gF (out.getD (out.length-1) zE)
def Od (out:List Ev)(go:Bool):Int:=if go=true then Nl out else (out.length:Int)
def LX (i:Nat)(ds:List Dd)(out:List Ev):Nat->List Ev
 | 0=>out
 |k+1=>LX i ds out k++C6 i k (ds.getD k zD) (Od (LX i ds out k) (G2 ds k))
def UI (AA:List (List Dd)):Nat->List Ev
 | 0=>Ci
 |i+1=>LX i (AA.getD i []) (UI AA i) (AA.getD i []).length
def xq (ds:List Dd):Prop:=∀k j,k<ds.length->j<k->(ds.getD k zD).2.2.2≠0->(ds.getD j zD).2.2.2=(ds.getD k zD).2.2.2->(ds.getD (k-1) zD).2.2.2=(ds.getD k zD).2.2.2
theorem Sc {i:Nat}{own:List Int}{ds:List Dd}(hl:own.length=10):∀(k:Nat) (o:List Int),Cy i own ds k=some o->(∀j,j<k->Fy (ds.getD j zD)=true) ->
  ∀j,j<k->(ds.getD j zD).2.2.2≠0->o.getD (ds.getD j zD).2.2.2.toNat 0=(i:Int)+1
 | 0,o,h,_,j,hj,_=>by omega
 |k+1,o',h,hok,j,hj,h0=>by
  rw[Cy] at h
  cases hq:Cy i own ds k with
  |none=>rw[hq] at h;cases h
  |some o=>
   rw[hq] at h;have ih:=Sc hl k o hq (fun j hj=>hok j (by omega));have hol:=Kh hq;simp only at h;have okj:=Cl (hok j hj);split at h
   ·
    rename_i hz;simp only[KAg] at h;subst h;by_cases e:j=k
    . subst e;exact absurd hz h0
    . exact ih j (by omega) h0
   ·
    rename_i hz;split at h
    . cases h
    ·
     simp only[KAg] at h;subst h;have Mp:=Cl (hok k (by omega));rw[Ck o _ _ _ (by omega)];by_cases e:(ds.getD k zD).2.2.2.toNat=(ds.getD j zD).2.2.2.toNat
     . rw[KAP e]
     ·
      rw[KAQ e];by_cases e2:j=k
      . subst e2;exact absurd rfl e
      . exact ih j (by omega) h0
theorem Zt {i:Nat}{own:List Int}{ds:List Dd}(hl:own.length=10){o:List Int}(h:Cy i own ds ds.length=some o)(hok:∀j,j<ds.length->Fy (ds.getD j zD)=true):xq ds:=by
 intro k j hk hj h0 he
 have step:∃o',Cy i own ds (k+1)=some o':=by
  cases hq:Cy i own ds (k+1) with
  |none=>rw[Ld hq ds.length (by omega)] at h;cases h
  |some o'=>exact⟨o',rfl⟩
 obtain⟨o',ho'⟩:=step;rw[Cy] at ho'
 cases hq:Cy i own ds k with
 |none=>rw[hq] at ho';cases ho'
 |some o1=>
  rw[hq] at ho';have hown:=Sc hl k o1 hq (fun j hj=>hok j (by omega)) j hj (by rw[he];exact h0);rw[he] at hown;simp only at ho';rw[KAQ h0] at ho';split at ho'
  . cases ho'
  ·
   rename_i hn;apply KBA;intro hc;exact hn ⟨by rw[hown];omega,.inr (.inr hc)⟩
theorem Te {AA:List (List Dd)}(hb:AL AA=true):∀i,i<AA.length->xq (AA.getD i []):=by
 intro i hi;simp only[AL,KAO,KAN] at hb;obtain⟨⟨⟨⟨_,h2⟩,_⟩,_⟩,hg⟩:=hb;have hok:=Bm [] h2 i hi;simp only[GQ,KAO,KAN] at hok
 have hs:∀n,n<=AA.length->∃o,FH AA n=some o:=by
  intro n hn
  cases hq:FH AA n with
  |none=>rw[Kg,Lf hq AA.length hn] at hg;cases hg
  |some o=>exact⟨o,rfl⟩
 obtain⟨o,ho⟩:=hs i (by omega);obtain⟨o',ho'⟩:=hs (i+1) (by omega);rw[FH,ho] at ho';exact Zt (NS ho) ho' (fun j hj=>Bm zD hok.1 j hj)
theorem Xj (out t:List Ev)(e:Ev):Nl (out++(t++[e]))=gF e:=by
 unfold Nl;rw[<-KA2,KAJ,IT];simp
theorem PR {i:Nat}{ds:List Dd}{out:List Ev}(ht:xq ds)(hok:∀j,j<ds.length->Fy (ds.getD j zD)=true)(ho:1<=out.length):
  ∀k:Nat,k<=ds.length->LX i ds out k=(Bg i ds out k).1/\(Bg i ds out k).2.length=10/\1<=(Bg i ds out k).1.length /\
   (∀g:Nat,0<g->g<10->(∀j,j<k->(ds.getD j zD).2.2.2≠(g:Int))->(Bg i ds out k).2.getD g 0=0) /\
   (∀j,j<k->(ds.getD j zD).2.2.2≠0->(Bg i ds out k).2.getD (ds.getD j zD).2.2.2.toNat 0≠0) /\
   (0<k->(ds.getD (k-1) zD).2.2.2≠0->(Bg i ds out k).2.getD (ds.getD (k-1) zD).2.2.2.toNat 0=Nl (Bg i ds out k).1)
 | 0,_=>⟨rfl,by simp[Bg],ho,fun g _ hg _=>by simp only[Bg];rw[IT,KBG,KAP hg];rfl,fun j hj=>by omega,fun h=>by omega⟩
 |k+1,hk=>by
  obtain⟨h1,h2,h3,h4,h5,h6⟩:=PR ht hok ho k (by omega);have hd:=hok k (by omega);obtain⟨r0,r1,r2,r3,r4⟩:=Cl hd;have hkd:=Cf hd;rw[LX,Bg,h1,KCk];generalize hS:Bg i ds out k=S at h2 h3 h4 h5 h6;obtain⟨L,f⟩:=S;simp only at h2 h3 h4 h5 h6;generalize hdd:ds.getD k zD=d at hd r0 r1 r2 r3 r4 hkd;have hg:G2 ds k=(decide (0<k)&&(d.2.2.2 != 0)&&(d.2.2.2==(ds.getD (k-1) zD).2.2.2)):=by rw[G2,hdd]
  have old5:∀j,j<k->(ds.getD j zD).2.2.2≠0->(ds.getD j zD).2.2.2.toNat<10:=fun j hj _=>by
   have:=Cl (hok j (by omega));omega
  by_cases uh:d.1=4
  ·
   have g0:d.2.2.2=0:=r4 (by omega);have e1:C6 i k d (Od L (G2 ds k))=[]:=by unfold C6;rw[KAP uh]
   rw[FA,KAP uh,e1,KBn];refine⟨rfl,h2,h3,fun g hg0 hg10 hn=>h4 g hg0 hg10 (fun j hj=>hn j (by omega)),fun j hj hne=>?_,fun _ hne=>absurd g0 hne⟩;by_cases e:j=k
   . subst e;rw[hdd] at hne;exact absurd g0 hne
   . exact h5 j (by omega) hne
  ·
   rw[FA,KAQ uh];by_cases g0:d.2.2.2=0
   ·
    have e1:Od L (G2 ds k)=C9 d.2.2.2 L.length f:=by
     rw[hg,g0];simp[Od,C9]
    have e2:Df d.2.2.2 L.length f=f:=by unfold Df;rw[KAQ (by rw[g0];omega)]
    rw[e1];simp only;rw[e2];refine⟨by trivial,h2,by rw[KAJ];omega,fun g hg0 hg10 hn=>h4 g hg0 hg10 (fun j hj=>hn j (by omega)),fun j hj hne=>?_,fun _ hne=>absurd g0 hne⟩;by_cases e:j=k
    . subst e;rw[hdd] at hne;exact absurd g0 hne
    . exact h5 j (by omega) hne
   ·
    have gp:(0:Int)<d.2.2.2:=by omega
    have k2:d.1=1\/d.1=2:=by
     apply KBA;intro hn;exact g0 (r4 (by omega))
    have one:∀c,∃e,C6 i k d c=[e]/\gF e=c:=by
     intro c;unfold C6;rcases k2 with e|e
     . exact⟨_,by rw[KAQ uh,KAQ (by omega),KAQ (by omega)],rfl⟩
     . exact⟨_,by rw[KAQ uh,KAQ (by omega),KAP e],rfl⟩
    have fin:∀c,Nl (L++C6 i k d c)=c:=fun c=>by
     obtain⟨e,he,hc⟩:=one c;rw[he,<-hc];exact Xj L [] e
    by_cases hgo:0<k/\(ds.getD (k-1) zD).2.2.2=d.2.2.2
    ·
     obtain⟨k0,hgo⟩:=hgo;have e0:G2 ds k=true:=by rw[hg,hgo];simp[k0,g0]
     have f0:f.getD d.2.2.2.toNat 0≠0:=by have:=h5 (k-1) (by omega) (by rw[hgo];exact g0);rw[hgo] at this;exact this
     have f1:f.getD d.2.2.2.toNat 0=Nl L:=by have:=h6 k0 (by rw[hgo];exact g0);rw[hgo] at this;exact this
     have e2:Df d.2.2.2 L.length f=f:=by unfold Df;rw[KAQ (fun h=>f0 h.2)]
     have e1:Od L (G2 ds k)=C9 d.2.2.2 L.length f:=by
      rw[e0];unfold Od C9;rw[KAP rfl,KAP gp,e2,f1]
     have e3:C9 d.2.2.2 L.length f=f.getD d.2.2.2.toNat 0:=by unfold C9;rw[KAP gp,e2]
     rw[e1];simp only;rw[e2];refine⟨by trivial,h2,by rw[KAJ];omega,fun g hg0 hg10 hn=>h4 g hg0 hg10 (fun j hj=>hn j (by omega)),fun j hj hne=>?_,fun _ _=>?_⟩
     ·
      by_cases e:j=k
      . subst e;rw[hdd];exact f0
      . exact h5 j (by omega) hne
     . rw[fin,e3]
    ·
     have none:∀j,j<k->(ds.getD j zD).2.2.2≠d.2.2.2:=by
      intro j hj he;refine hgo ⟨by omega,?_⟩;have:=ht k j (by omega) hj (by rw[hdd];exact g0) (by rw[hdd];exact he);rw[hdd] at this;exact this
     obtain⟨g,hgg⟩:=KAn r2;have g10:g<10:=by omega
     have f0:f.getD d.2.2.2.toNat 0=0:=by
      rw[hgg,KAV];exact h4 g (by omega) g10 (fun j hj=>by rw[<-hgg];exact none j hj)
     have e0:G2 ds k=false:=by
      rw[hg];by_cases k0:0<k
      ·
       have:¬(d.2.2.2=(ds.getD (k-1) zD).2.2.2):=fun e=>hgo ⟨k0,e.symm⟩
       have e:(d.2.2.2==(ds.getD (k-1) zD).2.2.2)=false:=by simpa using this
       rw[e,KDN]
      . simp[k0]
     have e2:Df d.2.2.2 L.length f=f.set d.2.2.2.toNat (L.length:Int):=by unfold Df;rw[KAP ⟨gp,f0⟩]
     have e3:C9 d.2.2.2 L.length f=(L.length:Int):=by
      unfold C9;rw[KAP gp,e2,Ck f _ _ _ (by omega),KAP rfl]
     have e1:Od L (G2 ds k)=C9 d.2.2.2 L.length f:=by rw[e0,e3];simp[Od]
     rw[e1];simp only;rw[e2];refine⟨by trivial,by rw[KA4];exact h2,by rw[KAJ];omega,fun q hq0 hq10 hn=>?_,fun j hj hne=>?_,fun _ _=>?_⟩
     ·
      have hqk:=hn k (by omega);rw[hdd] at hqk;rw[Ck f _ _ _ (by omega),KAQ (by omega)];exact h4 q hq0 hq10 (fun j hj=>hn j (by omega))
     ·
      by_cases e:j=k
      ·
       subst e;rw[hdd,Ck f _ _ _ (by omega),KAP rfl];omega
      ·
       have nj:=none j (by omega);have okj:=Cl (hok j (by omega));rw[Ck f _ _ _ (by omega),KAQ (by omega)];exact h5 j (by omega) hne
     . rw[fin,e3,Ck f _ _ _ (by omega),KAP rfl]
theorem PX {AA:List (List Dd)}(hb:AL AA=true):∀n:Nat,n<=AA.length->UI AA n=BB AA n/\1<=(BB AA n).length
 | 0,_=>⟨rfl,by simp[BB,Ci]⟩
 |n+1,h=>by
  obtain⟨h1,h2⟩:=PX hb n (by omega);have ht:=Te hb n (by omega);simp only[AL,KAO,KAN] at hb;obtain⟨⟨⟨⟨_,ha⟩,_⟩,_⟩,_⟩:=hb;have hok:=Bm [] ha n (by omega);simp only[GQ,KAO,KAN] at hok;obtain⟨q1,_,q3,_⟩:=PR (i:=n) ht (fun j hj=>Bm zD hok.1 j hj) h2 (AA.getD n []).length (KAM _);rw[UI,BB,h1,q1];exact⟨rfl,q3⟩
theorem ZB (a i:Nat)(ha:a<4096):iK (a:Int) (i:Int)=a.testBit i:=by
 unfold iK;have hd:a / 2 ^ i<=a:=Nat.div_le_self _ _;have e:((a:Int) / 2 ^ (i:Int).toNat)=((a / 2 ^ i:Nat):Int):=by simp
 rw[e,show (1:Int)=((1:Nat):Int) from rfl,MB _ _ (by omega) (by omega),Nat.and_one_is_mod,Nat.testBit_eq_decide_div_mod_eq];generalize a / 2 ^ i % 2=r;rw[KBg,KCp,KAN];omega
theorem Nd (a i:Nat)(ha:a<4096)(hi:i<12):Fk (a:Int) (i:Int)=a.testBit i:=by
 have h1:Co (i:Int) 0 11=true:=by unfold Co;simp;omega
 have h2:Co (a:Int) 0 4095=true:=by unfold Co;simp;omega
 simp[Fk,h1,h2,ZB a i ha]
theorem Zm (a i:Nat)(ha:a<4096)(hi:i<12):MU (a:Int) (i:Int)=((a ||| 2 ^ i:Nat):Int):=by
 have h1:Co (i:Int) 0 11=true:=by unfold Co;simp;omega
 rw[jD _ _ (by omega) h1,OT _ (by omega) (by omega)];have hq:(2:Nat) ^ i<2 ^ 12:=Nat.pow_lt_pow_right (by omega) hi;have e:((2:Int) ^ (i:Int).toNat)=((2 ^ i:Nat):Int):=by simp
 rw[e,NU a _ (by omega) (by omega)]
theorem wG (a i:Nat)(ha:a<4096)(hi:i<12):a ||| 2 ^ i<4096:=by
 have hq:(2:Nat) ^ i<2 ^ 12:=Nat.pow_lt_pow_right (by omega) hi;exact Nat.or_lt_two_pow (n:=12) ha hq
def oO (es:List Ev)(i k:Nat):Bool:=decide (i<k)&&((decide (i<3)&&decide (3<=k))||(decide (3<=i)&&((es.getD i zE).1==(es.getD k zE).1)))
def FK (d:Dd):Bool:=(d.1==3)||decide (0<d.2.2.2)
def Rf (ds:List Dd)(lo hi:Nat):Bool:=(List.range hi).any (fun j=>decide (lo<j)&&((ds.getD j zD).1==4))
theorem YV {ds:List Dd}{lo hi:Nat}(h:∀j,lo<j->j<hi->(ds.getD j zD).1≠4):Rf ds lo hi=false:=by
 unfold Rf;rw[List.any_eq_false];intro j hj;rw[KAd] at hj;by_cases hl:lo<j
 ·
  have:=h j hl hj;simp[hl];simpa using this
 . simp[hl]
def qx (AA:List (List Dd))(e:Ev):Dd:=(AA.getD e.1.toNat []).getD e.2.1.toNat zD
def vO (AA:List (List Dd))(a b:Ev):Bool:=!(Af a)&&Af b&&(gF a != gF b)&&(!Rf (AA.getD a.1.toNat []) a.2.1.toNat b.2.1.toNat&&!FK (qx AA a)&&!FK (qx AA b))
def pY (AA:List (List Dd))(es:List Ev)(i k:Nat):Bool:=decide (3<=i)&&oO es i k&&vO AA (es.getD i zE) (es.getD k zE)
abbrev Aj (AA:List (List Dd))(c k:Nat):Dd:=(AA.getD c []).getD k zD
def AZ (AA:List (List Dd))(c k:Nat):Nat:=(Bg c (AA.getD c []) (BB AA c) k).1.length
def Fp (d:Dd):Nat:=if d.1=4 then 0 else if d.1=3 then 2 else 1
theorem bZ (i k:Nat)(d:Dd)(c:Int):(C6 i k d c).length=Fp d:=by
 unfold C6 Fp;split
 . rfl
 ·
  split
  . rfl
  . split<;>rfl
def DE (AA:List (List Dd))(c k:Nat):Int:=C9 (Aj AA c k).2.2.2 (AZ AA c k) (Bg c (AA.getD c []) (BB AA c) k).2
theorem M6 (AA:List (List Dd))(c k:Nat):(Bg c (AA.getD c []) (BB AA c) (k+1)).1=(Bg c (AA.getD c []) (BB AA c) k).1++C6 c k (Aj AA c k) (DE AA c k):=by
 rw[Bg,FA];split
 ·
  rename_i h;have e:C6 c k (Aj AA c k) (DE AA c k)=[]:=by unfold C6;rw[KAP h]
  rw[e,KBn]
 . rfl
theorem Nu (AA:List (List Dd))(c k:Nat):AZ AA c (k+1)=AZ AA c k+Fp (Aj AA c k):=by
 unfold AZ;rw[M6,KAJ,bZ]
theorem Nv (AA:List (List Dd))(c:Nat):AZ AA c 0=(BB AA c).length:=rfl
theorem Vt (AA:List (List Dd))(c:Nat):(BB AA (c+1)).length=AZ AA c (AA.getD c []).length:=rfl
theorem Mf (AA:List (List Dd))(c k:Nat):∀n:Nat,k<=n->∃t,(Bg c (AA.getD c []) (BB AA c) n).1=(Bg c (AA.getD c []) (BB AA c) k).1++t
 | 0,h=>by
  obtain rfl:k=0:=by omega
  exact⟨[],by simp⟩
 |n+1,h=>by
  by_cases e:k=n+1
  . subst e;exact⟨[],by simp⟩
  ·
   obtain⟨t,ht⟩:=Mf AA c k n (by omega);exact⟨t++C6 c n (Aj AA c n) (DE AA c n),by rw[M6,ht,KA2]⟩
theorem Gz (AA:List (List Dd))(c:Nat):∀n:Nat,c<=n->∃t,BB AA n=BB AA c++t
 | 0,h=>by
  obtain rfl:c=0:=by omega
  exact⟨[],by simp⟩
 |n+1,h=>by
  by_cases e:c=n+1
  . subst e;exact⟨[],by simp⟩
  ·
   obtain⟨t,ht⟩:=Gz AA c n (by omega);obtain⟨t2,h2⟩:=Mf AA n 0 (AA.getD n []).length (KAb _);refine⟨t++t2,?_⟩;show (Bg n (AA.getD n []) (BB AA n) (AA.getD n []).length).1=_;rw[h2];show BB AA n++t2=_;rw[ht,KA2]
theorem mD {AA:List (List Dd)}{c k n:Nat}(hc:c<n)(hk:k<(AA.getD c []).length){i:Nat}{e:Ev}(h:(C6 c k (Aj AA c k) (DE AA c k))[i]? = some e):(BB AA n)[AZ AA c k+i]? = some e:=by
 obtain⟨t1,h1⟩:=Gz AA (c+1) n hc;obtain⟨t2,h2⟩:=Mf AA c (k+1) (AA.getD c []).length hk;rw[h1];refine Ix t1 ?_;show (Bg c (AA.getD c []) (BB AA c) (AA.getD c []).length).1[AZ AA c k+i]? = some e;rw[h2];refine Ix t2 ?_;rw[M6,KAy (by unfold AZ;omega)];show (C6 c k (Aj AA c k) (DE AA c k))[AZ AA c k+i-AZ AA c k]? = some e;rw[show AZ AA c k+i-AZ AA c k=i by omega];exact h
theorem VM (AA:List (List Dd))(c:Nat){j:Nat}(h0:AZ AA c 0<=j):∀k:Nat,j<AZ AA c k->∃k' i,k'<k/\i<Fp (Aj AA c k')/\j=AZ AA c k'+i
 | 0,h=>by omega
 |k+1,h=>by
  by_cases hj:j<AZ AA c k
  ·
   obtain⟨k',i,h1,h2,h3⟩:=VM AA c h0 k hj;exact⟨k',i,by omega,h2,h3⟩
  ·
   rw[Nu] at h;exact⟨k,j-AZ AA c k,by omega,by omega,by omega⟩
theorem Zb (AA:List (List Dd)){j:Nat}(h3:3<=j):∀n:Nat,j<(BB AA n).length->∃c k i,c<n/\k<(AA.getD c []).length/\i<Fp (Aj AA c k)/\j=AZ AA c k+i
 | 0,h=>by simp[BB,Ci] at h;omega
 |n+1,h=>by
  by_cases hj:j<(BB AA n).length
  ·
   obtain⟨c,k,i,h1,h2⟩:=Zb AA h3 n hj;exact⟨c,k,i,by omega,h2⟩
  ·
   rw[Vt] at h;obtain⟨k,i,h1,h2⟩:=VM AA n (by rw[Nv];omega) _ h;exact⟨n,k,i,by omega,h1,h2⟩
theorem Qz (AA:List (List Dd))(c:Nat){k k':Nat}(h:k<=k'):AZ AA c k<=AZ AA c k':=by
 obtain⟨t,ht⟩:=Mf AA c k k' h;unfold AZ;rw[ht,KAJ];omega
theorem Ie {AA:List (List Dd)}{c c' k k':Nat}(hk:k<(AA.getD c []).length)(h:c<c'\/(c=c'/\k<k')):AZ AA c k+Fp (Aj AA c k)<=AZ AA c' k':=by
 rcases h with h|⟨rfl,h⟩
 ·
  have h1:=Qz AA c (k:=k+1) (k':=(AA.getD c []).length) hk;rw[Nu] at h1;obtain⟨t,ht⟩:=Gz AA (c+1) c' h;have h2:=Qz AA c' (KAb k');rw[Nv,ht,KAJ,Vt] at h2;omega
 ·
  have h1:=Qz AA c (k:=k+1) (k':=k') h;rw[Nu] at h1;exact h1
theorem JK (AA:List (List Dd))(c k:Nat):3<=AZ AA c k:=by
 obtain⟨t,ht⟩:=Gz AA 0 c (KAb _);have h:=Qz AA c (KAb k);rw[Nv,ht,KAJ] at h;simp[BB,Ci] at h;omega
abbrev BP (AA:List (List Dd))(c k:Nat):Int:=(Aj AA c k).2.2.2
def nU (AA:List (List Dd))(c:Nat):Prop:=∀k,k<(AA.getD c []).length->Fy (Aj AA c k)=true
theorem CV {AA:List (List Dd)}(h:AL AA=true){c:Nat}(hc:c<AA.length):nU AA c:=by
 simp only[AL,KAO,KAN] at h;obtain⟨⟨⟨⟨_,h2⟩,_⟩,_⟩,_⟩:=h;have h3:=Bm [] h2 c hc;unfold GQ at h3;rw[KAO] at h3;exact fun k hk=>Bm zD h3.1 k hk
theorem Zn {AA:List (List Dd)}{c k:Nat}(h:nU AA c)(hk:k<(AA.getD c []).length):0<=BP AA c k/\BP AA c k<=9/\(2<(Aj AA c k).1->BP AA c k=0):=
 ⟨(Cl (h k hk)).2.2.1,(Cl (h k hk)).2.2.2.1,(Cl (h k hk)).2.2.2.2⟩
theorem VV (AA:List (List Dd))(c:Nat):∀k:Nat,(Bg c (AA.getD c []) (BB AA c) k).2.length=10
 | 0=>by simp[Bg]
 |k+1=>by
  have ih:=VV AA c k;rw[Bg,FA];split
  . exact ih
  ·
   show (Df _ _ _).length=10;unfold Df;split
   . rw[KA4];exact ih
   . exact ih
theorem Zk {AA:List (List Dd)}{c:Nat}(hok:nU AA c){g:Nat}(h0:0<g)(h9:g<=9):∀k:Nat,k<=(AA.getD c []).length ->
  ((Bg c (AA.getD c []) (BB AA c) k).2.getD g 0=0/\∀j,j<k->BP AA c j≠g) \/
  ∃j,j<k/\BP AA c j=g/\(∀i,i<j->BP AA c i≠g)/\(Bg c (AA.getD c []) (BB AA c) k).2.getD g 0=(AZ AA c j:Int)
 | 0,_ => .inl ⟨by
   show (List.replicate 10 (0:Int)).getD g 0=0;rw[IT,KBG]
   split<;>rfl,fun j hj=>by omega⟩
 |k+1,hk=>by
  have ih:=Zk hok h0 h9 k (by omega);have hl:=VV AA c k;have hd:=Zn hok (k:=k) (by omega);have hkk:=Cf (hok k (by omega));by_cases h4:(Aj AA c k).1=4
  ·
   have e:(Bg c (AA.getD c []) (BB AA c) (k+1)).2=(Bg c (AA.getD c []) (BB AA c) k).2:=by
    rw[Bg,FA,KAP h4]
   have hg:BP AA c k=0:=hd.2.2 (by omega);rw[e];rcases ih with ⟨h1,h2⟩|⟨j,h1,h2,h3,h5⟩
   ·
    refine .inl ⟨h1,fun j hj=>?_⟩;by_cases e:j=k
    . subst e;omega
    . exact h2 j (by omega)
   . exact .inr ⟨j,by omega,h2,h3,h5⟩
  ·
   have e:(Bg c (AA.getD c []) (BB AA c) (k+1)).2=Df (BP AA c k) (AZ AA c k) (Bg c (AA.getD c []) (BB AA c) k).2:=by
    rw[Bg,FA,KAQ h4];rfl
   rw[e];by_cases hg:BP AA c k=(g:Int)
   ·
    rcases ih with ⟨h1,h2⟩|⟨j,h1,h2,h3,h5⟩
    ·
     refine .inr ⟨k,by omega,hg,h2,?_⟩;unfold Df;rw[hg,KAV,KAP ⟨by omega,h1⟩,Ck _ _ _ _ (by omega),KAP rfl]
    ·
     refine .inr ⟨j,by omega,h2,h3,?_⟩;have h6:=JK AA c j;unfold Df;rw[hg,KAV,KAQ (by rw[h5];omega)];exact h5
   ·
    have e2:(Df (BP AA c k) (AZ AA c k) (Bg c (AA.getD c []) (BB AA c) k).2).getD g 0=(Bg c (AA.getD c []) (BB AA c) k).2.getD g 0:=by
     unfold Df;split
     ·
      rename_i hp;have hx:(BP AA c k).toNat<=9:=by have:=hd.2.1;omega
      rw[Ck _ _ _ _ (by omega),KAQ (by omega)]
     . rfl
    rw[e2];rcases ih with ⟨h1,h2⟩|⟨j,h1,h2,h3,h5⟩
    ·
     refine .inl ⟨h1,fun j hj=>?_⟩;by_cases e:j=k
     . subst e;exact hg
     . exact h2 j (by omega)
    . exact .inr ⟨j,by omega,h2,h3,h5⟩
theorem LY {AA:List (List Dd)}{c k:Nat}(hok:nU AA c)(hk:k<(AA.getD c []).length)(h4:(Aj AA c k).1≠4):
  (BP AA c k=0/\DE AA c k=(AZ AA c k:Int))\/(BP AA c k≠0/\∃j,j<=k/\BP AA c j=BP AA c k/\(∀i,i<j->BP AA c i≠BP AA c k)/\DE AA c k=(AZ AA c j:Int)):=by
 have hd:=Zn hok hk;by_cases hg:BP AA c k=0
 ·
  refine .inl ⟨hg,?_⟩;unfold DE C9;rw[KAQ (by have:(Aj AA c k).2.2.2=0:=hg;omega)]
 ·
  obtain⟨g,hgg⟩:=KAn hd.1;have hgg':BP AA c k=(g:Int):=hgg;have h9:g<=9:=by have:=hd.2.1;omega
  refine .inr ⟨hg,?_⟩;have h1:=Zk hok (g:=g) (by omega) h9 (k+1) hk
  have e:(Bg c (AA.getD c []) (BB AA c) (k+1)).2=Df (BP AA c k) (AZ AA c k) (Bg c (AA.getD c []) (BB AA c) k).2:=by
   rw[Bg,FA,KAQ h4];rfl
  rw[e] at h1;rcases h1 with ⟨_,h2⟩|⟨j,h1,h2,h3,h5⟩
  . exact absurd hgg' (h2 k (by omega))
  ·
   refine⟨j,by omega,by rw[hgg'];exact h2,fun i hi=>by rw[hgg'];exact h3 i hi,?_⟩;unfold DE C9;rw[KAP (by have:(Aj AA c k).2.2.2=(g:Int):=hgg';omega)];have hq:(Aj AA c k).2.2.2.toNat=g:=by have:(Aj AA c k).2.2.2=(g:Int):=hgg';omega
   rw[hq];exact h5
theorem Mo {AA:List (List Dd)}{c c' k k':Nat}(hk:k<(AA.getD c []).length)(hk':k'<(AA.getD c' []).length)(h1:0<Fp (Aj AA c k))(h2:0<Fp (Aj AA c' k'))(e:AZ AA c k=AZ AA c' k'):c=c'/\k=k':=by
 by_cases hc:c<c'
 . have:=Ie (k':=k') hk (.inl hc);omega
 by_cases hc':c'<c
 . have:=Ie (k':=k) hk' (.inl hc');omega
 obtain rfl:c=c':=by omega
 refine⟨rfl,?_⟩;by_cases hkk:k<k'
 . have:=Ie (c':=c) (k':=k') hk (.inr ⟨rfl,hkk⟩);omega
 by_cases hkk':k'<k
 . have:=Ie (c':=c) (k':=k) hk' (.inr ⟨rfl,hkk'⟩);omega
 omega
theorem FT {AA:List (List Dd)}{c k:Nat}(hok:nU AA c)(hk:k<(AA.getD c []).length)(hg:BP AA c k≠0):(Aj AA c k).1≠4/\(Aj AA c k).1≠3/\0<Fp (Aj AA c k):=by
 have hd:=Zn hok hk;have hkk:=Cf (hok k hk);have h3:¬ 2<(Aj AA c k).1:=fun h=>hg (hd.2.2 h)
 refine⟨by omega,by omega,?_⟩;unfold Fp;rw[KAQ (by omega),KAQ (by omega)];omega
theorem Kz {d:Dd}(h:d.1≠4):0<Fp d:=by
 unfold Fp;rw[KAQ h];split<;>omega
theorem Iz {AA:List (List Dd)}{c c' k k':Nat}(hok:nU AA c)(hok':nU AA c')(hk:k<(AA.getD c []).length)(hk':k'<(AA.getD c' []).length)(h4:(Aj AA c k).1≠4)(h4':(Aj AA c' k').1≠4):
  DE AA c k=DE AA c' k'↔c=c'/\(k=k'\/(BP AA c k≠0/\BP AA c k=BP AA c' k')):=by
 constructor
 ·
  intro e;rcases LY hok hk h4 with ⟨g1,e1⟩|⟨g1,j,j1,j2,j3,e1⟩
  ·
   rcases LY hok' hk' h4' with ⟨g2,e2⟩|⟨g2,j',l1,l2,l3,e2⟩
   ·
    rw[e1,e2] at e;obtain⟨rfl,rfl⟩:=Mo hk hk' (Kz h4) (Kz h4') (by omega);exact⟨rfl,.inl rfl⟩
   ·
    rw[e1,e2] at e;obtain⟨rfl,rfl⟩:=Mo (k':=j') hk (by omega) (Kz h4) (FT (k:=j') hok' (by omega) (by rw[l2];exact g2)).2.2 (by omega);exact absurd (l2.symm.trans g1) g2
  ·
   rcases LY hok' hk' h4' with ⟨g2,e2⟩|⟨g2,j',l1,l2,l3,e2⟩
   ·
    rw[e1,e2] at e;obtain⟨rfl,rfl⟩:=Mo (k:=j) (by omega) hk' (FT (k:=j) hok (by omega) (by rw[j2];exact g1)).2.2 (Kz h4') (by omega);exact absurd (j2.symm.trans g2) g1
   ·
    rw[e1,e2] at e;obtain⟨rfl,rfl⟩:=Mo (k:=j) (k':=j') (by omega) (by omega) (FT (k:=j) hok (by omega) (by rw[j2];exact g1)).2.2 (FT (k:=j') hok' (by omega) (by rw[l2];exact g2)).2.2 (by omega);exact⟨rfl,.inr ⟨g1,by rw[<-j2,l2]⟩⟩
 ·
  rintro⟨rfl,rfl|⟨g1,g2⟩⟩
  . rfl
  ·
   rcases LY hok hk h4 with ⟨g0,_⟩|⟨_,j,j1,j2,j3,e1⟩
   . exact absurd g0 g1
   rcases LY hok' hk' h4' with ⟨g0,_⟩|⟨_,j',l1,l2,l3,e2⟩
   . rw[g0] at g2;exact absurd g2 g1
   rw[e1,e2]
   have:j=j':=by
    by_cases a:j<j'
    . exact absurd (by rw[j2,g2]) (l3 j a)
    by_cases a':j'<j
    . exact absurd (by rw[l2,g2]) (j3 j' a')
    omega
   rw[this]
def Mb (d:Dd)(i:Nat):Bool:=decide (d.1≠2)&&decide (i=0)
def YU (d:Dd)(i:Nat):Int:=if Mb d i=true then 0 else d.2.2.1
theorem Vv {c k:Nat}{d:Dd}{z:Int}(hd:d.1=1\/d.1=2\/d.1=3\/d.1=4){i:Nat}(hi:i<Fp d):(C6 c k d z)[i]? = some ((c:Int),(k:Int),Mb d i,d.2.1,YU d i,z):=by
 unfold Fp at hi;unfold C6 YU Mb;rcases hd with h|h|h|h
 ·
  rw[KAQ (by omega),KAQ (by omega)] at hi;rw[KAQ (by omega),KAQ (by omega),KAQ (by omega)];obtain rfl:i=0:=by omega
  simp[h]
 ·
  rw[KAQ (by omega),KAQ (by omega)] at hi;rw[KAQ (by omega),KAQ (by omega),KAP h];obtain rfl:i=0:=by omega
  simp[h]
 ·
  rw[KAQ (by omega),KAP h] at hi;rw[KAQ (by omega),KAP h];rcases (by omega:i=0\/i=1) with rfl|rfl
  . simp[h]
  . simp
 ·
  rw[KAP h] at hi;omega
structure Ea (AA:List (List Dd))(j c k i:Nat):Prop where
 hc:c<AA.length
 hk:k<(AA.getD c []).length
 hi:i<Fp (Aj AA c k)
 hj:j=AZ AA c k+i
theorem Ea.kind {AA:List (List Dd)}{j c k i:Nat}(h:Ea AA j c k i):(Aj AA c k).1≠4:=by
 intro e;have:=h.hi;unfold Fp at this;rw[KAP e] at this;omega
theorem Gy {AA:List (List Dd)}(hb:AL AA=true){j:Nat}(h3:3<=j)(hj:j<(AB AA).length):∃c k i,Ea AA j c k i:=by
 rw[AB,KAP hb] at hj;obtain⟨c,k,i,h1,h2,h4,h5⟩:=Zb AA h3 AA.length hj;exact⟨c,k,i,h1,h2,h4,h5⟩
theorem Ea.at {AA:List (List Dd)}(hb:AL AA=true){j c k i:Nat}(h:Ea AA j c k i):(AB AA).getD j zE=((c:Int),(k:Int),Mb (Aj AA c k) i,(Aj AA c k).2.1,YU (Aj AA c k) i,DE AA c k):=by
 have hd:=Cf (CV hb h.hc k h.hk);rw[AB,KAP hb,IT,h.hj,mD h.hc h.hk (Vv hd h.hi)];rfl
theorem Ea.lt {AA:List (List Dd)}(hb:AL AA=true){j c k i:Nat}(h:Ea AA j c k i):3<=j/\j<(AB AA).length:=by
 have hd:=Cf (CV hb h.hc k h.hk);have h1:=mD (n:=AA.length) h.hc h.hk (Vv (z:=DE AA c k) (c:=c) (k:=k) hd h.hi);have h2:=JK AA c k;rw[AB,KAP hb,h.hj];exact⟨by omega,(KBE.1 h1).1⟩
theorem Ea.ord {AA:List (List Dd)}{j c k i j' c' k' i':Nat}(h:Ea AA j c k i)(h':Ea AA j' c' k' i'):j<j'↔c<c'\/(c=c'/\(k<k'\/(k=k'/\i<i'))):=by
 have e1:=h.hj;have e2:=h'.hj;have l1:=h.hi;have l2:=h'.hi;constructor
 ·
  intro hlt;by_cases a:c<c'
  . exact .inl a
  by_cases b:c'<c
  . have:=Ie (k':=k) h'.hk (.inl b);omega
  obtain rfl:c=c':=by omega
  refine .inr ⟨rfl,?_⟩;by_cases a:k<k'
  . exact .inl a
  by_cases b:k'<k
  . have:=Ie (c':=c) (k':=k) h'.hk (.inr ⟨rfl,b⟩);omega
  obtain rfl:k=k':=by omega
  exact .inr ⟨rfl,by omega⟩
 ·
  rintro (a|⟨rfl,a|⟨rfl,a⟩⟩)
  . have:=Ie (k':=k') h.hk (.inl a);omega
  . have:=Ie (c':=c) (k':=k') h.hk (.inr ⟨rfl,a⟩);omega
  . omega
theorem Ea.one {AA:List (List Dd)}{j c k i c' k' i':Nat}(h:Ea AA j c k i)(h':Ea AA j c' k' i'):c=c'/\k=k'/\i=i':=by
 have a:=h.ord h';have b:=h'.ord h;by_cases hc:c=c'
 ·
  subst hc;by_cases hk:k=k'
  ·
   subst hk;exact⟨rfl,rfl,by have:=h.hj;have:=h'.hj;omega⟩
  ·
   by_cases hlt:k<k'
   . have:=a.2 (.inr ⟨rfl,.inl hlt⟩);omega
   . have:=b.2 (.inr ⟨rfl,.inl (by omega)⟩);omega
 ·
  by_cases hlt:c<c'
  . have:=a.2 (.inl hlt);omega
  . have:=b.2 (.inl (by omega));omega
theorem MP {ds:List Dd}(ht:xq ds){j k:Nat}(hk:k<ds.length)(hg:(ds.getD k zD).2.2.2≠0)(e:(ds.getD j zD).2.2.2=(ds.getD k zD).2.2.2):∀m:Nat,j+m<k->(ds.getD (k-1-m) zD).2.2.2=(ds.getD k zD).2.2.2
 | 0,h=>ht k j hk (by omega) hg e
 |m+1,h=>by
  have ih:=MP ht hk hg e m (by omega);have h2:=ht (k-1-m) j (by omega) (by omega) (by rw[ih];exact hg) (by rw[ih];exact e);rw[show k-1-(m+1)=k-1-m-1 by omega,h2,ih]
theorem Lz {AA:List (List Dd)}(hb:AL AA=true){c j k l:Nat}(hc:c<AA.length)(h1:j<=k)(h2:k<=l)(hl:l<(AA.getD c []).length)(hg:BP AA c l≠0)(e:BP AA c j=BP AA c l):BP AA c k=BP AA c l:=by
 by_cases a:k=l
 . rw[a]
 by_cases b:k=j
 . rw[b];exact e
 have:=MP (Te hb c hc) hl hg e (l-1-k) (by omega);rw[show l-1-(l-1-k)=k by omega] at this;exact this
def Op (l:List Int)(n:Int):Bool:=l.any (·==n)
abbrev Nt:=Int×Int×Int
structure Bd where
 AM:List Int
 AQ:List Int
 AJ:List (List Nt)
 AK:List Int
 sn:List Int
 fr:List Int
 rws:List (List Int)
def C5 (AA:List (List Dd)):Bd:=
 { AM:=[0,0,0],AQ:=[0,1,2],AJ:=List.replicate AA.length [],AK:=List.replicate AA.length 0,sn:=List.replicate (AW Af (AB AA)).length (-1),fr:=List.replicate (AW Af (AB AA)).length (-1),rws:=[[0],[1],[2]] }
def C7 (b:Bd)(c p:Nat):Int×Int:=
 match (b.AJ.getD c []).reverse.find? (fun x=>x.1==(p:Int)) with
 |some x=>x.2
 |none=>(b.AM.getD p 0,b.AQ.getD p 0)
def Hf (rs:List Int)(ev v:Int)(l:List Int):List Int:=List.zipWith (fun r x=>if r=ev then v else x) rs l
def Fz (rs:List Int)(b:Bd)(ev v f:Int):Bd:={ b with sn:=Hf rs ev v b.sn,fr:=Hf rs ev f b.fr }
def EJ (b:Bd)(p:Nat)(v ev:Int):Bd:={ b with AM:=b.AM.set p v,AQ:=b.AQ.set p ev,rws:=b.rws.set p (b.rws.getD p []++[ev]) }
def LR (es:List Ev)(c k:Nat):Int:=
 match (List.range es.length).find? (fun i=>decide (3<=i)&&((es.getD i zE).1==(c:Int))&&((es.getD i zE).2.1==(k:Int))) with
 |some i=>(i:Int)
 |none=>-1
def BL (AA:List (List Dd))(es:List Ev)(b:Bd)(c k:Nat):Bd:=
 if (Aj AA c k).1=1 then Fz (AW Af es) b (LR es c k) (C7 b c (Aj AA c k).2.1.toNat).1 (C7 b c (Aj AA c k).2.1.toNat).2
 else if (Aj AA c k).1=3 then
  EJ (Fz (AW Af es) b (LR es c k) (b.AM.getD (Aj AA c k).2.1.toNat 0) (b.AQ.getD (Aj AA c k).2.1.toNat 0)) (Aj AA c k).2.1.toNat (Aj AA c k).2.2.1 (LR es c k+1)
 else if (Aj AA c k).1=2/\0<BP AA c k then EJ b (Aj AA c k).2.1.toNat (Aj AA c k).2.2.1 (LR es c k)
 else if (Aj AA c k).1=2 then { b with AJ:=b.AJ.set c (b.AJ.getD c []++[((Aj AA c k).2.1,(Aj AA c k).2.2.1,LR es c k)]) }
 else b
def Am (b:Bd)(c:Nat):Nat:=(b.AK.getD c 0).toNat
def Ah (AA:List (List Dd))(es:List Ev)(b:Bd)(c:Nat):Bd:=
 { BL AA es b c (Am b c) with AK:=b.AK.set c (b.AK.getD c 0+1) }
def FF (AA:List (List Dd))(es:List Ev)(g:Int)(c:Nat):Nat->Bd->Bd
 | 0,b=>b
 |m+1,b=>
  if g=0\/Am (Ah AA es b c) c=(AA.getD c []).length\/BP AA c (Am (Ah AA es b c) c)≠g then Ah AA es b c else FF AA es g c m (Ah AA es b c)
def BS (b:Bd)(c:Nat):Bd:=
 match b.AJ.getD c [] with
 | []=>b
 |x::r=>EJ { b with AJ:=b.AJ.set c r } x.1.toNat x.2.1 x.2.2
def Ar (AA:List (List Dd))(es:List Ev)(b:Bd)(s:Int):Bd:=
 if 10<=s then BS b (s-10).toNat else FF AA es (BP AA s.toNat (Am b s.toNat)) s.toNat (AA.getD s.toNat []).length b
def Ce (AA:List (List Dd))(b:Bd)(c:Nat):Bool:=
 decide (Am b c<(AA.getD c []).length)&&((decide ((Aj AA c (Am b c)).1<=2)&&decide (BP AA c (Am b c)=0))||(b.AJ.getD c []).isEmpty)
def Aq (AA:List (List Dd))(b:Bd):List Int:=
 ((List.range AA.length).filter (Ce AA b)).map (fun c:Nat=>(c:Int))++((List.range AA.length).filter (fun c=>!(b.AJ.getD c []).isEmpty)).map (fun c:Nat=>10+(c:Int))
def Dl (AA:List (List Dd))(b:Bd):Bool:=(List.range AA.length).all (fun c=>decide ((AA.getD c []).length<=Am b c)&&(b.AJ.getD c []).isEmpty)
structure Tq where
 n:Nat
 ck:Nat->Int
 pl:Nat->Nat
 rd:Nat->Bool
 cs:Nat->Int
 ex:Nat->Nat->Bool
structure BH where
 X:Nat->Prop
 N:Int->List Nat
 R:Nat->List Nat
 F:Nat->Nat
 τ:Nat->Nat
def BH.L (S:Tq)(s:BH)(c:Int)(p:Nat):List Nat:=s.R p++(s.N c).filter (fun x=>S.pl x==p)
def BH.D (S:Tq)(s:BH)(j:Nat):Prop:=s.X j/\j∉s.N (S.ck j)
def BH.v (S:Tq)(s:BH)(i:Nat):Nat:=if S.rd i=true then s.F i else i
abbrev gM (L:List Nat)(x y:Nat):Prop:=[x,y].Sublist L
structure GG (S:Tq)(s:BH)(T:Nat)(z:Int):Prop where
 FU:∀j,j<3->s.X j/\S.rd j=false/\S.pl j=j/\S.ck j=-1/\s.τ j=0/\S.cs j=j
 lt:∀j,s.X j->j<S.n
 down:∀i j,s.X j->3<=i->i<j->S.ck i=S.ck j->s.X i
 note:∀c x,x∈s.N c->s.X x/\3<=x/\S.ck x=c/\S.rd x=false
 Ma:∀c,(s.N c).Pairwise (·<·)
 pend:∀c x j,x∈s.N c->s.X j->x<j->S.ck j=c->(S.rd j=true/\S.ex x j=true)\/j∈s.N c
 rows:∀p x,x∈s.R p↔s.D S x/\S.rd x=false/\S.pl x=p
 RM:∀p,(s.R p).Nodup
 Uo:∀p,(s.R p).Pairwise (fun x y=>s.τ x<=s.τ y)
 PE:∀j,s.D S j->s.τ j<=T
 tpos:∀j,s.D S j->3<=j->1<=s.τ j
 same:∀i j,s.D S i->s.D S j->3<=i->3<=j->s.τ i=s.τ j->S.cs i=S.cs j
 Qx:∀i j,s.D S i->s.D S j->3<=i->3<=j->S.cs i=S.cs j->s.τ i=s.τ j
 now:∀i,s.D S i->3<=i->(s.τ i=T↔S.cs i=z)
 kept:∀i j,s.D S i->s.D S j->3<=i->i<j->S.ck i=S.ck j->S.cs i≠S.cs j->S.ex i j=false->s.τ i<s.τ j
 src:∀r,s.X r->S.rd r=true->s.X (s.F r)/\S.rd (s.F r)=false/\S.pl (s.F r)=S.pl r/\((3<=s.F r/\S.ck (s.F r)=S.ck r)\/(s.D S (s.F r)/\s.τ (s.F r)<=s.τ r))
 Mv:∀r w p,s.X r->S.rd r=true->gM (s.R p) (s.F r) w->s.τ r<=s.τ w
 Yb:∀i,s.X i->3<=i->s.v S i∈s.L S (S.ck i) (S.pl i)
 iU:∀i j,s.X i->s.X j->3<=i->i<j->S.ck i=S.ck j->S.pl i=S.pl j->s.v S i=s.v S j\/gM (s.L S (S.ck i) (S.pl i)) (s.v S i) (s.v S j)
 T0:∀i j,s.X i->s.X j->3<=i->i<j->S.ck i=S.ck j->S.pl i=S.pl j->S.rd i=true->S.rd j=false->s.F i≠j
structure sK (S:Tq)(s:BH)(j:Nat):Prop where
 three:3<=j
 lt:j<S.n
 new:¬s.X j
 all:∀i,3<=i->i<j->S.ck i=S.ck j->s.X i
 last:∀i,s.X i->3<=i->S.ck i=S.ck j->i<j
theorem VA {L:List Nat}{x y:Nat}(h:gM L x y):x∈L/\y∈L:=⟨h.subset (by simp),h.subset (by simp)⟩
theorem My {L:List Nat}{x w:Nat}(h:x∈L):gM (L++[w]) x w:=by
 have h1:[x].Sublist L:=List.singleton_sublist.2 h;exact h1.append (KB4 [w])
theorem ZA {L:List Nat}{x y:Nat}(hn:(L++[x]).Nodup)(h:gM (L++[x]) x y):False:=by
 have h2:¬x∈L:=by
  rw[KBp] at hn;intro hx;exact hn.2.2 x hx x (by simp) rfl
 obtain⟨l1,l2,e,s1,s2⟩:=List.sublist_append_iff.1 h
 cases l1 with
 |nil=>
  simp only[KBz] at e;rw[<-e] at s2;have:=s2.length_le;simp at this
 |cons a l1=>
  simp only[KBr,KCP] at e;rw[<-e.1] at s1;exact h2 (s1.subset (by simp))
theorem KO {L:List Nat}{x y w:Nat}(h:gM (L++[w]) x y)(hy:y≠w):gM L x y:=by
 obtain⟨l1,l2,e,s1,s2⟩:=List.sublist_append_iff.1 h
 have hl2:l2=[]:=by
  cases l2 with
  |nil=>rfl
  |cons a l2=>
   have hl:=s2.length_le;simp at hl;subst hl;have ha:a=w:=by simpa using s2
   have:y=a:=by
    have:=KBf List.getLast? e
    simpa using this
   exact absurd (this.trans ha) hy
 subst hl2;rw[KBn] at e;rw[<-e] at s1;exact s1
theorem R7 {L:List Nat}{x:Nat}(hx:x∈L){l:Nat}(hl:L.getLast? = some l):x=l\/gM L x l:=by
 obtain⟨L',rfl⟩:=KB9.1 hl;rw[KA0] at hx;rcases hx with hx|hx
 . exact .inr (My hx)
 . exact .inl (by simpa using hx)
end Go.Proofs.YtflehmepjhikcaaGreatDoor
