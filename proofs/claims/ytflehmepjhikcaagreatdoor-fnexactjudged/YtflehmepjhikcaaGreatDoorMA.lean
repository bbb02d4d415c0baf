/- Gathered texts. -/
import Derived.Test.YtflehmepjhikcaaGreatDoorRows
import Derived.Below
import Derived.ChangeShapes
import Derived.LaidLaws
import Derived.LaidHandle
import Derived.Stop.LaidErr
import Derived.WalkKit
import Derived.ProofKit
import Derived.Laws.BitsAllLaws
import Derived.Laws.BitsLemmas
import Derived.OpenShut
import Derived.WalkSmall
import Derived.Laws.Rows
import Derived.Laws.ResultCell
import Derived.Lib.IndexMore
import Derived.Lib.ParseIntB
import Derived.Lib.ItoaNum
import Derived.Lib.SmallJoins
import Derived.Maps.AppendAt
import Derived.Laws.OwnMore
import Derived.OwnWalk
set_option maxRecDepth 100000
set_option maxHeartbeats 8000000
namespace Go.Proofs.YtflehmepjhikcaaGreatDoor
open Go.ChangeShapes Go.RowKit
open Go.ChangeShapes Go.WideShapes Go.ChangeAt Go.RowKit
open Go.RowKit
theorem Re {H:Type}{enc:TypeId×Value->H}{P:Program}{w:World}{sp:Nat->Bool}:∀ {ns:List String} {gs:List (DataW H)} {q:List MemPlace},DataW.TrodVars enc P w sp ns gs q->ns.length=gs.length
 | [],[],_,_=>rfl
 |_::_,_::_,_,⟨_,_,_,_,_,_,_,_,_,_,hs,_⟩=>congrArg (·+1) (Re hs)
 | [],_::_,_,h=>False.elim h
 |_::_,[],_,h=>False.elim h
theorem fJ {H:Type}{enc:TypeId×Value->H}{P:Program}{w w':World}{sp sp':Nat->Bool}{t:TypeId}{ms:Array (String×TypeId)}(hi:P.underlying t=some (.interface ms)):
  ∀ {fuel:Nat} {cs:List Value} {r:DataW H×List MemPlace},DataW.trod enc P w 0 sp true fuel t cs=some r->DataW.trod enc P w' 0 sp' true fuel t cs=some r
 | 0,_,_,h=>by simp[DataW.trod] at h
 |fuel+1,cs,r,h=>by
  unfold DataW.trod at h ⊢;rw[hi] at h ⊢;rcases cs with _|⟨x,_|⟨y,l⟩⟩
  . simp at h
  . cases x<;>simp_all
  . cases x<;>simp at h
theorem Mg {H:Type}{enc:TypeId×Value->H}{P:Program}{w w':World}{sp sp':Nat->Bool}(hb:Below w.heap.size w w'):∀ {ns:List String} {gs:List (DataW H)} {q:List MemPlace},
  (∀n∈ns,∃g t ms,P.globalNamed n=some g/\(P.globals[g]?).map (·.type)=some t/\P.underlying t=some (.interface ms))->DataW.TrodVars enc P w sp ns gs q->DataW.TrodVars enc P w' sp' ns gs q
 | [],[],_,_,h=>h
 |n::_,_::_,_,hn,⟨g,t,cs,fuel,p,q,h1,h2,h3,h4,hs,e⟩=>by
  obtain⟨g',t',ms,e1,e2,e3⟩:=hn n (List.mem_cons_self ..);obtain rfl:=Option.some.inj (h1.symm.trans e1);obtain rfl:=Option.some.inj (h2.symm.trans e2);refine⟨g,t,cs,fuel,p,q,h1,h2,?_,fJ e3 h4,Mg hb (fun m hm=>hn m (List.mem_cons_of_mem _ hm)) hs,e⟩;unfold World.var? at h3 ⊢;rw[h1,Option.bind_some] at h3 ⊢
  have hlt:g<w.heap.size:=by
   rcases Nat.lt_or_ge g w.heap.size with h|h
   . exact h
   . rw[Array.getElem?_eq_none h] at h3;cases h3
  rw[hb.block g hlt];exact h3
 | [],_::_,_,_,h=>False.elim h
 |_::_,[],_,_,h=>False.elim h
theorem errRow (u : TypeId) (h : Tryz.prog.typeName? 3 u = some "*errors.errorString") : u = 234 := by
 have star : "*" ++ "errors.errorString" = "*errors.errorString" := by decide
 exact typeName_ptr_named (nm := "errors.errorString") (by rw [star]; kernel_rfl) (by kernel_rfl) (by decide) u (by rw [star]; exact h)
theorem sent_cell {r : List (String × DataW Unit)} {n : String} {text : List UInt8} {W : World} {g : Nat} (h : laidMet Tryz.prog ((n, .iface "*errors.errorString" (.ptr (.agg [.lit (.string text)]))) :: r) W)
  (hg:Tryz.prog.globalNamed n=some g) (ht:(Tryz.prog.globals[g]?).map (·.type)=some 57):∃a,W.cell? ⟨g,0,none⟩=some (.iface 234 (.pointer (some a))):=by
 obtain⟨a,s,hv,-,-,-⟩:=laid_sentinel h hg ht Tryz.underlying57 errRow Tryz.underlying234 Tryz.underlying255 rfl rfl Tryz.underlying9 (by kernel_rfl) (by kernel_rfl);exact⟨a,by simpa using World.var?_cell hg hv 0⟩
theorem han_rt : (Tryz.prog.cutTypes.find? (·.1 == "internal/reflectlite.rtype")).map (·.2) = some 138 := by kernel_rfl
theorem bD:((List.range 267).filter fun t=>Tryz.prog.rowNamed t [101,114,114,111,114])=[57]:=by kernel_rfl
theorem YB:Tryz.prog.types.size=267:=by kernel_rfl
theorem han_cell {W : World} (h : handlesMet Tryz.prog [("errors.errorType", Rows.laid_errors_errorType)] W) : W.cell? ⟨1, 0, none⟩ = some (.iface 138 (.agg #[.pointer (some ⟨4, 57, none⟩)])) := by
 obtain⟨name,u,ty,e1,e2,e3,e4,e5⟩:=h _ (List.mem_singleton.2 rfl);have en:name=[101,114,114,111,114]:=(Option.some.inj e1).symm;subst en;obtain rfl:=Option.some.inj (han_rt.symm.trans e2);have hm:ty∈(List.range 267).filter fun t=>Tryz.prog.rowNamed t [101,114,114,111,114]:=List.mem_filter.2 ⟨List.mem_range.2 (by rw[<-YB];exact e3),e4⟩
 rw[bD] at hm;obtain rfl:=List.mem_singleton.1 hm;have hh:typeHandle Tryz.prog 57 = .pointer (some ⟨4,57,none⟩):=by kernel_rfl
 rw[hh] at e5
 have et : Tryz.prog.globalNamed "errors.errorType" = some 1 := by kernel_rfl
 simpa using World.var?_cell et e5 0
theorem A8 {a b:Bool}(h:a=b):Ending.returned (.bool a) = .returned (.bool b):=by rw[h]
theorem Pf {k:IntKind}{a b:Int}(h:a=b):Ending.returned (.int k a) = .returned (.int k b):=by rw[h]
theorem Hw (a:Nat)(ha:a<9223372036854775808):(BitVec.ofInt 64 (a:Int)).toNat=a:=ofInt_u64 a (by omega)
theorem Lz (a b:Nat)(ha:a<9223372036854775808)(hb:b<9223372036854775808):bits .or .i64 (a:Int) (b:Int)=((a ||| b:Nat):Int):=by
 have hx:a ||| b<2 ^ 63:=Nat.or_lt_two_pow (by omega) (by omega);show IntKind.i64.wrap ((BitVec.ofInt 64 (a:Int) ||| BitVec.ofInt 64 (b:Int)).toNat:Int)=_;rw[BitVec.toNat_or,Hw a ha,Hw b hb,IntKind.wrap_i64];omega
theorem Kd (a b:Nat)(ha:a<9223372036854775808)(hb:b<9223372036854775808):bits .and .i64 (a:Int) (b:Int)=((a &&& b:Nat):Int):=by
 have hx:a &&& b<2 ^ 63:=Nat.and_lt_two_pow _ (by omega);show IntKind.i64.wrap ((BitVec.ofInt 64 (a:Int) &&& BitVec.ofInt 64 (b:Int)).toNat:Int)=_;rw[BitVec.toNat_and,Hw a ha,Hw b hb,IntKind.wrap_i64];omega
theorem Yr (n:Nat)(h:n<=12):(2:Int) ^ n<=4096/\(1:Int)<=2 ^ n:=by
 have:n=0\/n=1\/n=2\/n=3\/n=4\/n=5\/n=6\/n=7\/n=8\/n=9\/n=10\/n=11\/n=12:=by omega
 rcases this with rfl|rfl|rfl|rfl|rfl|rfl|rfl|rfl|rfl|rfl|rfl|rfl|rfl<;>decide
theorem Dl (x:Int)(h1:-9223372036854775808<=x)(h2:x<=9223372036854775807):wrap64 x=x:=by
 simp only[wrap64];omega
theorem Mi (n:Int)(h0:0<=n)(h:n<=12):wrap64 (2 ^ n.toNat)=2 ^ n.toNat:=by
 have:=Yr n.toNat (by omega);exact Dl _ (by omega) (by omega)
def CJ (x lo hi:Int):Bool:=decide (lo<=x/\x<=hi)
def jb (n s:Int):Bool:=decide ((0<=n/\n<=12)/\0<=s/\s<2 ^ n.toNat)
def Zx (s i:Int):Bool:=bits .and .i64 (s / 2 ^ i.toNat) 1==1
def Ef (s i:Int):Bool:=CJ i 0 11&&CJ s 0 4095&&Zx s i
def Ku (s i:Int):Int:=if s=-1\/CJ i 0 11=false then -1 else bits .or .i64 s (wrap64 (2 ^ i.toNat))
theorem Xv (s i:Int)(h:CJ i 0 11=false):Ku s i=-1:=by simp[Ku,h]
theorem VH (i:Int):Ku (-1) i=-1:=by simp[Ku]
theorem aQ (s i:Int)(h0:0<=s)(h:CJ i 0 11=true):Ku s i=bits .or .i64 s (wrap64 (2 ^ i.toNat)):=by
 have:¬s=-1:=by omega
 simp[Ku,h,this]
theorem EW (l:List Int)(k:Nat)(h:k<l.length):l.take (k+1)=l.take k++[l.getD k 0]:=by
 rw[List.take_succ_eq_append_getElem h,List.getD_eq_getElem?_getD,List.getElem?_eq_getElem h];rfl
def AC (w w':World):Prop:=Below w.heap.size w w'
theorem AC.refl (w:World):AC w w:=Below.refl _ _
theorem AC.size {w w':World}(h:AC w w'):w.heap.size<=w'.heap.size:=Below.size h
theorem AC.trans {a b c:World}(h:AC a b)(k:AC b c):AC a c:=Below.trans h (Below.mono k h.size)
theorem AC.drew {a w:World}(h:AC a w):AC a w.drew:=Below.drew h
theorem AC.drewN {a w:World}(h:AC a w)(n:Nat):AC a (w.drewN n):=below_drewN h n
theorem AC.alloc {a w:World}(h:AC a w)(o:Obj):AC a (w.alloc o):=Below.alloc h h.size o
theorem AC.grown {a w w':World}{row:Option Nat}(h:AC a w)(hg:w.grownBy w' row)(hr:∀k,row=some k->a.heap.size<=k):AC a w':=Below.grown h hg h.size hr
theorem AC.grownBy {w w':World}(h:AC w w'):w.grownBy w' none:=⟨Below.os h,Below.tape h,Below.output h,Below.size h,fun k hk _=>Below.block h k hk⟩
theorem AC.cell {w w':World}(h:AC w w'){b o:Nat}(hb:b<w.heap.size):w'.cell? ⟨b,o,none⟩=w.cell? ⟨b,o,none⟩:=Below.cell h hb
theorem Ce {a b c:World}{row:Option Nat}(h:a.grownBy b row)(k:b.grownBy c row):a.grownBy c row:=
 ⟨k.os.trans h.os,k.tape.trans h.tape,k.output.trans h.output,Nat.le_trans h.size k.size,fun i hi hne=>(k.block i (Nat.lt_of_lt_of_le hi h.size) hne).trans (h.block i hi hne)⟩
def Rd (w:World)(v:Value)(zs:List Int):Prop:=
 ∃(a:Option Addr) (cap:Nat),v = .slice a zs.length cap /\
  (zs=[]\/∃b off,a=some ⟨b,off,none⟩/\b<w.heap.size/\∀i,i<zs.length->w.cell? ⟨b,off+i,none⟩=some (.int .i64 (zs.getD i 0)))
theorem Rd.keep {w w':World}{v:Value}{zs:List Int}(h:Rd w v zs)(k:AC w w'):Rd w' v zs:=by
 obtain⟨a,cap,hv,h⟩:=h;refine⟨a,cap,hv,?_⟩;rcases h with h|⟨b,off,ha,hb,hc⟩
 . exact .inl h
 . exact .inr ⟨b,off,ha,Nat.lt_of_lt_of_le hb k.size,fun i hi=>(k.cell hb).trans (hc i hi)⟩
def A7 (w:World)(base:Nat)(v:Value)(zs:List Int):Prop:=w.ownsRow base 2 1 v zs.length (zs.map (Value.int .i64))
theorem A7.kept {w w':World}{base:Nat}{v:Value}{zs:List Int}{row:Option Nat}(h:A7 w base v zs)(hg:w.grownBy w' row)(hne:v.ownBlock=none\/v.ownBlock≠row):A7 w' base v zs:=
 World.ownsRow.kept h hg hne
theorem A7.keep {w w':World}{base:Nat}{v:Value}{zs:List Int}(h:A7 w base v zs)(k:AC w w'):A7 w' base v zs:=
 A7.kept h k.grownBy (by cases v.ownBlock<;>simp)
theorem A7.rd {w:World}{base:Nat}{v:Value}{zs:List Int}(h:A7 w base v zs):Rd w v zs:=by
 have hlt:=World.ownsRow.lt h;rcases h.2 with ⟨rfl,hn⟩|⟨g,cap,cur,rfl,hb,hg,rest⟩
 ·
  have:zs=[]:=List.eq_nil_of_length_eq_zero hn;subst this;exact⟨none,0,rfl,.inl rfl⟩
 ·
  refine⟨some ⟨g,0,none⟩,cap,rfl,.inr ⟨g,0,rfl,(hlt g rfl).2,fun i hi=>?_⟩⟩;have hc:=World.ownsRow.cellAt h i (by simpa using hi);rw[Nat.zero_add,hc,List.getElem?_map,List.getElem?_eq_getElem hi,List.getD_eq_getElem?_getD,List.getElem?_eq_getElem hi];rfl
theorem A7.BK {w:World}{base base':Nat}{v:Value}{zs:List Int}(h:A7 w base v zs)(hb:base'<=base):A7 w base' v zs:=by
 refine⟨h.1,?_⟩;rcases h.2 with h|⟨g,cap,cur,hv,hg,rest⟩
 . exact .inl h
 . exact .inr ⟨g,cap,cur,hv,Nat.le_trans hb hg,rest⟩
theorem A7.ge {w:World}{base:Nat}{v:Value}{zs:List Int}(h:A7 w base v zs):∀k,v.ownBlock=some k->base<=k:=fun k hk=>(World.ownsRow.lt h k hk).1
theorem A7.apart {w w':World}{base:Nat}{v v':Value}{zs zs':List Int}(h:A7 w base v zs)(h':A7 w' w.heap.size v' zs'):v.ownBlock=none\/v.ownBlock≠v'.ownBlock:=by
 cases hv:v.ownBlock with
 |none=>exact .inl rfl
 |some k=>
  refine .inr fun e=>?_
  have h1:=(World.ownsRow.lt h k hv).2;have h2:=h'.ge k e.symm;omega
theorem Vt {w:World}{a:Option Addr}{len cap:Nat}{ys:List Int}
  (h:(a=none/\len=0/\cap=0/\ys=[])\/∃x,a=some x/\len<=cap/\cap<=maxLen/\ys.length=cap/\(∀i,i<ys.length->w.cell? (x.add i)=some (.int .i64 (ys.getD i 0)))/\∀n∈ys,(Lit.int .i64 n).wf=true):
  ∃zs:List Int,zs.length=len/\Rd w (.slice a len cap) zs:=by
 rcases h with ⟨rfl,rfl,rfl,rfl⟩|⟨x,rfl,hl,hm,hy,hc,_⟩
 . exact⟨[],rfl,none,0,rfl,.inl rfl⟩
 ·
  have hzl:(ys.take len).length=len:=by rw[List.length_take];omega
  refine⟨ys.take len,hzl,some x,cap,by rw[hzl],?_⟩;by_cases h0:len=0
  . left;subst h0;simp
  ·
   right;obtain⟨b,off,spot⟩:=x;have hc0:=hc 0 (by omega);have hspot:spot=none:=by simpa [Addr.add] using World.cell?_spot hc0
   subst hspot
   have hcc:∀i,i<(ys.take len).length->w.cell? ⟨b,off+i,none⟩=some (.int .i64 ((ys.take len).getD i 0)):=by
    intro i hi;have h1:=hc i (by omega);have e1:(⟨b,off,none⟩:Addr).add i=⟨b,off+i,none⟩:=by unfold Addr.add;split<;>simp_all
    rw[e1] at h1;rw[h1,List.getD_eq_getElem?_getD,List.getD_eq_getElem?_getD,List.getElem?_take,if_pos (by omega)]
   refine⟨b,off,rfl,?_,hcc⟩;have h2:=hcc 0 (by omega);apply Classical.byContradiction;intro hnb;have h3:w.heap[b]? = none:=by simp;omega
   simp[World.cell?,h3] at h2
theorem Dz {w:World}{base:Nat}{v:Value}{zs:List Int}{x:Int}(h:w.ownsRow base 2 1 v (zs.length+1) (zs.map (Value.int .i64)++[.int .i64 x])):A7 w base v (zs++[x]):=by
 unfold A7;simpa using h
theorem Tryz.FA:(Tryz.prog.info? 2).map (fun i=>(i.zero,i.size,i.bytes))=some (some (.int .i64 0),1,8):=by kernel_rfl
theorem It {α:Type}(f:Nat->α)(n i:Nat)(z:α)(h:i<n):((List.range n).map f).getD i z=f i:=by
 rw[List.getD_eq_getElem?_getD,List.getElem?_map,List.getElem?_range h];rfl
theorem H0 {b o i:Nat}:(⟨b,o,none⟩:Addr).add i=⟨b,o+i,none⟩:=by unfold Addr.add;split<;>simp_all
theorem QP {w:World}{b o:Nat}{v:Value}(h:w.cell? ⟨b,o,none⟩=some v):b<w.heap.size:=by
 apply Classical.byContradiction;intro hn;have h3:w.heap[b]? = none:=by simp;omega
 simp[World.cell?,h3] at h
theorem Bt (w:World)(A:Obj)(i:Nat):(w.alloc A).heap[i]? = if i=w.heap.size then some A else w.heap[i]?:=Array.getElem?_push
theorem AD (w:World)(A:Obj):(w.alloc A).heap.size=w.heap.size+1:=Array.size_push _
theorem Au (w:World):w.drew.heap=w.heap:=rfl
theorem Gn {w w1:World}{o:Obj}(k:AC (w.alloc o) w1):w.heap.size<w1.heap.size:=by
 have:=k.size;rw[AD] at this;omega
theorem AR {w w1:World}{cs:Array Value}{t:TypeId}(k:AC (w.alloc (.cells cs t)) w1)(i:Nat):w1.cell? ⟨w.heap.size,i,none⟩=cs[i]?:=by
 rw[k.cell (by rw[AD];omega),cell_of_row (w.alloc (.cells cs t)) w.heap.size i cs t (0,0) (heap_alloc_new w _)]
theorem Ct {w w1:World}{o:Obj}(k:AC (w.alloc o) w1):w1.heap[w.heap.size]? = some o:=
 (Below.block k w.heap.size (by rw[AD];omega)).trans (heap_alloc_new w o)
theorem Bn {P:Program}{fn:Func}{p:Tmp}{ty:TypeId}(h:fn.results=#[.cell p ty])(tmps:Array Value)(w:World)(g:Nat)(t:TypeId)(cs:Array Value)(fr:Nat×Nat)(d:TypeDesc)
  (hp:tmps.getD p undef = .pointer (some ⟨g,0,none⟩)) (hg:w.heap[g]? = some (.cells cs t fr))
  (hu:P.underlying ty=some d) (hd:(match d with | .struct _ | .array _ _=>true|_=>false)=true) (hi:(P.info? ty).map (·.size)=some cs.size):
  (results fn tmps).run P w = .ok (.agg cs) w:=results_cell_row h tmps w g t cs fr d hp hg hu hd hi
theorem CG {P:Program}{fn:Func}{p u:Tmp}{ty:TypeId}(h:fn.results=#[.cell p ty,.tmp u])(tmps:Array Value)(w:World)(g:Nat)(t:TypeId)(cs:Array Value)(fr:Nat×Nat)(d:TypeDesc)(v:Value)
  (hp:tmps.getD p undef = .pointer (some ⟨g,0,none⟩)) (hg:w.heap[g]? = some (.cells cs t fr)) (hv:tmps.getD u undef=v)
  (hu:P.underlying ty=some d) (hd:(match d with | .struct _ | .array _ _=>true|_=>false)=true) (hi:(P.info? ty).map (·.size)=some cs.size):
  (results fn tmps).run P w = .ok (.tuple #[.agg cs,v]) w:=by
 rw[results_cell_tmp h,hp,hv];simp[asAddr,run_loadVar_row w g t ty cs fr d hg hu hd hi,Result.andThen]
theorem Pb {P:Program}{fn:Func}{p q:Tmp}{ty:TypeId}(h:fn.results=#[.cell p ty,.cell q ty])(tmps:Array Value)(w:World)(g g':Nat)(t t':TypeId)(cs cs':Array Value)(fr fr':Nat×Nat)(d:TypeDesc)
  (hp:tmps.getD p undef = .pointer (some ⟨g,0,none⟩)) (hg:w.heap[g]? = some (.cells cs t fr))
  (hq:tmps.getD q undef = .pointer (some ⟨g',0,none⟩)) (hg':w.heap[g']? = some (.cells cs' t' fr'))
  (hu:P.underlying ty=some d) (hd:(match d with | .struct _ | .array _ _=>true|_=>false)=true) (hi:(P.info? ty).map (·.size)=some cs.size) (hi':(P.info? ty).map (·.size)=some cs'.size):
  (results fn tmps).run P w = .ok (.tuple #[.agg cs,.agg cs']) w:=by
 have hp':tmps[p]?.getD undef = .pointer (some ⟨g,0,none⟩):=by simpa using hp
 have hq':tmps[q]?.getD undef = .pointer (some ⟨g',0,none⟩):=by simpa using hq
 simp[results,h,hp',hq',asAddr,run_loadVar_row w g t ty cs fr d hg hu hd hi,run_loadVar_row w g' t' ty cs' fr' d hg' hu hd hi']
def Dn (k p v g:Int):Bool:=
 decide ((1<=k/\k<=4)/\(0<=p/\p<=2)/\(0<=g/\g<=9)/\(k=4->p=0)/\(2<k->g=0)/\((k=2\/k=3)->1<=v/\v<=9)/\(¬(k=2\/k=3)->v=0))
abbrev Dd:=Int×Int×Int×Int
def zD:Dd:=(0,0,0,0)
def Eu (d:Dd):Bool:=Dn d.1 d.2.1 d.2.2.1 d.2.2.2
def SO (d:Dd):Int:=if d.1=1 then 1 else if d.1=2 then 1 else if d.1=3 then 2 else 0
def Nf (ds:List Dd):Nat->Int
 | 0=>0
 |k+1=>Nf ds k+SO (ds.getD k zD)
def Qb (AA:List (List Dd)):Nat->Int
 | 0=>0
 |i+1=>Qb AA i+Nf (AA.getD i []) (AA.getD i []).length
theorem iy (d:Dd):0<=SO d/\SO d<=2:=by
 unfold SO
 repeat' split
 all_goals omega
theorem Xq (ds:List Dd):∀k:Nat,0<=Nf ds k/\Nf ds k<=2*k
 | 0=>by simp[Nf]
 |k+1=>by have:=Xq ds k;have:=iy (ds.getD k zD);rw[Nf];omega
def Ch (i:Nat)(own:List Int)(ds:List Dd):Nat->Option (List Int)
 | 0=>some own
 |k+1=>match Ch i own ds k with
  |none=>none
  |some o=>
   if (ds.getD k zD).2.2.2=0 then some o
   else if o.getD (ds.getD k zD).2.2.2.toNat 0≠0/\(o.getD (ds.getD k zD).2.2.2.toNat 0≠(i:Int)+1\/k=0\/(ds.getD (k-1) zD).2.2.2≠(ds.getD k zD).2.2.2) then none
   else some (o.set (ds.getD k zD).2.2.2.toNat ((i:Int)+1))
def EF (AA:List (List Dd)):Nat->Option (List Int)
 | 0=>some (List.replicate 10 0)
 |i+1=>match EF AA i with
  |none=>none
  |some o=>Ch i o (AA.getD i []) (AA.getD i []).length
def JW (AA:List (List Dd)):Bool:=(EF AA AA.length).isSome
def Bs:List (List Dd)->Nat
 | []=>0
 |d::r=>d.length+Bs r
def FP (ds:List Dd):Bool:=ds.all Eu&&decide (ds.length<=5)
def AL (AA:List (List Dd)):Bool:=
 decide (1<=AA.length/\AA.length<=3)&&AA.all FP&&decide (Bs AA<=12)&&decide (Qb AA AA.length<=6)&&JW AA
theorem J5 {i:Nat}{own:List Int}{ds:List Dd}{k:Nat}(h:Ch i own ds k=none):∀n:Nat,k<=n->Ch i own ds n=none
 | 0,hn=>by
  obtain rfl:k=0:=by omega
  exact h
 |n+1,hn=>by
  by_cases e:k=n+1
  . rw[<-e];exact h
  . rw[Ch,J5 h n (by omega)]
theorem J6 {AA:List (List Dd)}{i:Nat}(h:EF AA i=none):∀n:Nat,i<=n->EF AA n=none
 | 0,hn=>by
  obtain rfl:i=0:=by omega
  exact h
 |n+1,hn=>by
  by_cases e:i=n+1
  . rw[<-e];exact h
  . rw[EF,J6 h n (by omega)]
theorem JX {i:Nat}{own:List Int}{ds:List Dd}:∀ {k:Nat} {o:List Int},Ch i own ds k=some o->o.length=own.length
 | 0,o,h=>by simp only[Ch,Option.some.injEq] at h;rw[<-h]
 |k+1,o,h=>by
  rw[Ch] at h;split at h
  . cases h
  ·
   rename_i o' ho';have ih:=JX ho';split at h
   . simp only[Option.some.injEq] at h;rw[<-h];exact ih
   ·
    split at h
    . cases h
    . simp only[Option.some.injEq] at h;rw[<-h,List.length_set];exact ih
theorem Lx {AA:List (List Dd)}:∀ {i:Nat} {o:List Int},EF AA i=some o->o.length=10
 | 0,o,h=>by simp only[EF,Option.some.injEq] at h;rw[<-h];simp
 |i+1,o,h=>by
  rw[EF] at h;split at h
  . cases h
  ·
   rename_i o' ho';rw[JX h];exact Lx ho'
theorem Be {α:Type}{f:α->Bool}{l:List α}(z:α)(h:l.all f=true)(i:Nat)(hi:i<l.length):f (l.getD i z)=true:=by
 rw[List.getD_eq_getElem?_getD,List.getElem?_eq_getElem hi];exact List.all_eq_true.1 h _ (List.getElem_mem hi)
theorem iU {α:Type}{f:α->Bool}{l:List α}(z:α)(h:∀i,i<l.length->f (l.getD i z)=true):l.all f=true:=by
 rw[List.all_eq_true];intro x hx;obtain⟨i,hi,rfl⟩:=List.getElem_of_mem hx;have:=h i hi
 rwa [List.getD_eq_getElem?_getD,List.getElem?_eq_getElem hi] at this
theorem Oh {α:Type}{f:α->Bool}{l:List α}(z:α)(i:Nat)(hi:i<l.length)(h:f (l.getD i z)=false):l.all f=false:=by
 cases hb:l.all f
 . rfl
 . rw[Be z hb i hi] at h;cases h
section
section
variable {H:Type} {enc:TypeId×Value->H} {w:World} {base:Nat} {held:Bool}
theorem N3 {n:Nat}{v:Value}{y:DataW H×List MemPlace}(h:DataW.trod enc Tryz.prog w base (fun _=>true) held n 25 [v]=some y):∃f:List Int,Rd w v f/\f.length<=maxLen:=by
 obtain⟨d,p⟩:=y;rcases open_ints Tryz.underlying25 Tryz.underlying2 (by kernel_rfl) h with ⟨hcs,_⟩|⟨x,l,c,zs,hcs,_,hl,hm,hz,_,hcell,hwz⟩
 ·
  simp at hcs;subst hcs;exact⟨[],⟨none,0,rfl,.inl rfl⟩,by simp⟩
 ·
  simp at hcs;subst hcs;obtain⟨f,hfl,hr⟩:=Vt (w:=w) (a:=some x) (len:=l) (cap:=c) (ys:=zs) (.inr ⟨x,rfl,hl,hm,by simpa using hz,hcell,hwz⟩);exact⟨f,hr,by omega⟩
end
end
section
section
variable {H:Type} {enc:TypeId×Value->H} {w:World} {base:Nat} {held:Bool}
theorem Yo {r:Reach}{b0:Nat}{v:Value}{d:DataW H}{p:List MemPlace}(hv:Value.okWide Tryz.prog w r b0 39 v)(h:DataW.Trod enc Tryz.prog w base (fun _=>true) held 39 v d p):
  ∃(vF vR:Value) (f rows:List Int),v = .agg #[vF,vR]/\Rd w vF f/\Rd w vR rows/\f.length<=maxLen/\rows.length<=maxLen:=by
 obtain⟨c0,c1,y0,y1,n,rfl,_,_,e0,e1⟩:=Joins.open_agg2 Tryz.underlying39 (by kernel_rfl) (by kernel_rfl) hv h;obtain⟨f,hf,lf⟩:=N3 e0;obtain⟨rows,hr,lr⟩:=N3 e1;exact⟨c0,c1,f,rows,rfl,hf,hr,lf,lr⟩
end
end
abbrev Ev:=Int×Int×Bool×Int×Int×Int
def zE:Ev:=(0,0,false,0,0,0)
def ZW (e:Ev):Int:=e.2.2.2.2.2
def B5:List Ev:=[(-1,-1,false,0,0,0),(-1,-1,false,1,0,1),(-1,-1,false,2,0,2)]
def Cj (i k:Nat)(d:Dd)(c:Int):List Ev:=
 if d.1=4 then [] else if d.1=3 then [((i:Int),(k:Int),true,d.2.1,0,c),((i:Int),(k:Int),false,d.2.1,d.2.2.1,c)]
 else if d.1=2 then [((i:Int),(k:Int),false,d.2.1,d.2.2.1,c)] else [((i:Int),(k:Int),true,d.2.1,0,c)]
def C9 (g:Int)(at0:Nat)(f:List Int):List Int:=if 0<g/\f.getD g.toNat 0=0 then f.set g.toNat (at0:Int) else f
def Cm (g:Int)(at0:Nat)(f:List Int):Int:=if 0<g then (C9 g at0 f).getD g.toNat 0 else (at0:Int)
def D7 (i k:Nat)(d:Dd)(s:List Ev×List Int):List Ev×List Int:=
 if d.1=4 then s else (s.1++Cj i k d (Cm d.2.2.2 s.1.length s.2),C9 d.2.2.2 s.1.length s.2)
def BP (i:Nat)(ds:List Dd)(out:List Ev):Nat->List Ev×List Int
 | 0=>(out,List.replicate 10 0)
 |k+1=>D7 i k (ds.getD k zD) (BP i ds out k)
def Ax (AA:List (List Dd)):Nat->List Ev
 | 0=>B5
 |i+1=>(BP i (AA.getD i []) (Ax AA i) (AA.getD i []).length).1
def AB (AA:List (List Dd)):List Ev:=if AL AA=true then Ax AA AA.length else []
theorem Yl (i k:Nat)(d:Dd)(c:Int)(h:d.1=1\/d.1=2\/d.1=3\/d.1=4):((Cj i k d c).length:Int)=SO d:=by
 unfold Cj SO;rcases h with h|h|h|h<;>simp[h]
theorem Bz {d:Dd}(h:Eu d=true):d.1=1\/d.1=2\/d.1=3\/d.1=4:=by
 simp[Eu,Dn] at h;omega
theorem B8 {d:Dd}(h:Eu d=true):0<=d.2.1/\d.2.1<=2/\0<=d.2.2.2/\d.2.2.2<=9/\(2<d.1->d.2.2.2=0):=by
 simp[Eu,Dn] at h;omega
theorem QT {i:Nat}{ds:List Dd}{out:List Ev}(hok:∀j,j<ds.length->Eu (ds.getD j zD)=true):∀k:Nat,k<=ds.length->((BP i ds out k).1.length:Int)=out.length+Nf ds k
 | 0,_=>by simp[BP,Nf]
 |k+1,h=>by
  have ih:=QT (i:=i) (out:=out) hok k (by omega);have hk:=Bz (hok k (by omega));rw[BP,D7,Nf];split
  ·
   rename_i h4;rw[ih];unfold SO;rw[h4];simp
  ·
   have:=Yl i k (ds.getD k zD) (Cm (ds.getD k zD).2.2.2 (BP i ds out k).1.length (BP i ds out k).2) hk;rw[List.length_append];omega
theorem Gr {AA:List (List Dd)}(hok:∀i,i<AA.length->FP (AA.getD i [])=true):∀n:Nat,n<=AA.length->((Ax AA n).length:Int)=3+Qb AA n
 | 0,_=>by simp[Ax,B5,Qb]
 |n+1,h=>by
  have ih:=Gr hok n (by omega);have hn:=hok n (by omega);simp only[FP,Bool.and_eq_true,decide_eq_true_eq] at hn;rw[Ax,QT (fun j hj=>Be zD hn.1 j hj) _ (Nat.le_refl _),ih,Qb];omega
def IU (AA:List (List Dd))(out:List Ev)(j:Nat):Prop:=
 ∃(i k c:Nat) (rd:Bool) (vl:Int),out[j]? = some ((i:Int),(k:Int),rd,((AA.getD i []).getD k zD).2.1,vl,(c:Int))/\i<AA.length/\k<(AA.getD i []).length /\
  (rd=true->vl=0)/\(rd=false->vl=((AA.getD i []).getD k zD).2.2.1)/\c<=j /\
  ∃(k':Nat) (rd':Bool) (pl' vl':Int),out[c]? = some ((i:Int),(k':Int),rd',pl',vl',(c:Int))/\k'<(AA.getD i []).length /\
   (c≠j->((AA.getD i []).getD k zD).1≠3->((AA.getD i []).getD k zD).2.2.2≠0/\((AA.getD i []).getD k' zD).2.2.2=((AA.getD i []).getD k zD).2.2.2)
theorem Hj {α:Type}{l:List α}{j:Nat}{x:α}(t:List α)(h:l[j]? = some x):(l++t)[j]? = some x:=by
 rw[List.getElem?_append_left (List.getElem?_eq_some_iff.1 h).1];exact h
theorem IU.more {AA:List (List Dd)}{out:List Ev}{j:Nat}(h:IU AA out j)(t:List Ev):IU AA (out++t) j:=by
 obtain⟨i,k,c,rd,vl,h1,h2,h3,h4,h5,h6,k',rd',pl',vl',g1,g2,g3⟩:=h;exact⟨i,k,c,rd,vl,Hj t h1,h2,h3,h4,h5,h6,k',rd',pl',vl',Hj t g1,g2,g3⟩
def WX (AA:List (List Dd))(i:Nat)(out:List Ev)(f:List Int):Prop:=
 f.length=10/\∀g:Nat,0<g->g<10->f.getD g 0=0\/∃(c k':Nat) (rd':Bool) (pl' vl':Int),f.getD g 0=(c:Int)/\out[c]? = some ((i:Int),(k':Int),rd',pl',vl',(c:Int))/\k'<(AA.getD i []).length/\((AA.getD i []).getD k' zD).2.2.2=(g:Int)
theorem B7 (o:List Int)(g:Nat)(x:Int)(j:Nat)(hg:g<o.length):(o.set g x).getD j 0=if g=j then x else o.getD j 0:=by
 rw[List.getD_eq_getElem?_getD,List.getElem?_set];by_cases e:g=j
 . subst e;rw[if_pos rfl,if_pos hg,if_pos rfl];rfl
 . rw[if_neg e,if_neg e,List.getD_eq_getElem?_getD]
theorem MP (i k:Nat)(d:Dd)(c:Int)(h4:d.1≠4):∃rd vl,(Cj i k d c)[0]? = some ((i:Int),(k:Int),rd,d.2.1,vl,c)/\(rd=true->vl=0)/\(rd=false->vl=d.2.2.1):=by
 unfold Cj;rw[if_neg h4];split
 . exact⟨true,0,rfl,by simp,by simp⟩
 ·
  split
  . exact⟨false,d.2.2.1,rfl,by simp,by simp⟩
  . exact⟨true,0,rfl,by simp,by simp⟩
theorem WB {AA:List (List Dd)}{i k:Nat}{out:List Ev}{f:List Int}(hi:i<AA.length)(hk:k<(AA.getD i []).length)(hok:Eu ((AA.getD i []).getD k zD)=true)
  (hG:∀j,3<=j->j<out.length->IU AA out j) (hF:WX AA i out f):
  (∀j,3<=j->j<(D7 i k ((AA.getD i []).getD k zD) (out,f)).1.length->IU AA (D7 i k ((AA.getD i []).getD k zD) (out,f)).1 j)/\WX AA i (D7 i k ((AA.getD i []).getD k zD) (out,f)).1 (D7 i k ((AA.getD i []).getD k zD) (out,f)).2:=by
 obtain⟨d,hd⟩:∃d,d=(AA.getD i []).getD k zD:=⟨_,rfl⟩;rw[<-hd] at hok ⊢;by_cases h4:d.1=4
 . rw[D7,if_pos h4];exact⟨hG,hF⟩
 rw[D7,if_neg h4];dsimp only;obtain⟨r0,r1,r2,r3,r4⟩:=B8 hok;obtain⟨g,hg⟩:=Int.eq_ofNat_of_zero_le r2;obtain⟨hl,hf⟩:=hF
 have hcls:∃(c k':Nat) (rd':Bool) (pl' vl':Int),Cm d.2.2.2 out.length f=(c:Int)/\c<=out.length/\(out++Cj i k d (Cm d.2.2.2 out.length f))[c]? = some ((i:Int),(k':Int),rd',pl',vl',(c:Int))/\k'<(AA.getD i []).length /\
   (c≠out.length->d.2.2.2≠0/\((AA.getD i []).getD k' zD).2.2.2=d.2.2.2)/\(c=out.length->k'=k):=by
  obtain⟨rd,vl,ho,_,_⟩:=MP i k d (Cm d.2.2.2 out.length f) h4
  have new:Cm d.2.2.2 out.length f=(out.length:Int)->(out++Cj i k d (Cm d.2.2.2 out.length f))[out.length]? = some ((i:Int),(k:Int),rd,d.2.1,vl,((out.length:Nat):Int)):=fun e=>by
   rw[List.getElem?_append_right (Nat.le_refl _),Nat.sub_self,ho,e]
  by_cases hg0:g=0
  ·
   have e:Cm d.2.2.2 out.length f=(out.length:Int):=by unfold Cm;rw[hg,if_neg (by omega)]
   exact⟨out.length,k,rd,d.2.1,vl,e,Nat.le_refl _,new e,hk,fun h=>absurd rfl h,fun _=>rfl⟩
  ·
   have gp:(0:Int)<d.2.2.2:=by rw[hg];omega
   have g10:g<10:=by rw[hg] at r3;omega
   rcases hf g (by omega) g10 with h0|⟨c,k',rd',pl',vl',e1,e2,e3,e4⟩
   ·
    have e:Cm d.2.2.2 out.length f=(out.length:Int):=by
     unfold Cm C9;rw[if_pos gp,hg,Int.toNat_natCast,if_pos ⟨by omega,h0⟩,B7 f g _ g (by omega),if_pos rfl]
    exact⟨out.length,k,rd,d.2.1,vl,e,Nat.le_refl _,new e,hk,fun h=>absurd rfl h,fun _=>rfl⟩
   ·
    have cl:c<out.length:=(List.getElem?_eq_some_iff.1 e2).1;by_cases hc0:(c:Int)=0
    ·
     have e:Cm d.2.2.2 out.length f=(out.length:Int):=by
      unfold Cm C9;rw[if_pos gp,hg,Int.toNat_natCast,if_pos ⟨by omega,by rw[e1];exact hc0⟩,B7 f g _ g (by omega),if_pos rfl]
     exact⟨out.length,k,rd,d.2.1,vl,e,Nat.le_refl _,new e,hk,fun h=>absurd rfl h,fun _=>rfl⟩
    ·
     have e:Cm d.2.2.2 out.length f=(c:Int):=by
      unfold Cm C9;rw[if_pos gp,hg,Int.toNat_natCast,if_neg (by rw[e1];omega),e1]
     exact⟨c,k',rd',pl',vl',e,by omega,Hj _ e2,e3,fun _=>⟨by omega,by rw[e4,hg]⟩,fun h=>by omega⟩
 obtain⟨c,k',rd',pl',vl',hc,hcl,hce,hk',hcg,hcn⟩:=hcls;rw[hc] at hce ⊢;refine⟨fun j hj3 hj=>?_,?_⟩
 ·
  by_cases hold:j<out.length
  . exact (hG j hj3 hold).more _
  ·
   have e1:(out++Cj i k d (c:Int))[j]? = (Cj i k d (c:Int))[j-out.length]?:=List.getElem?_append_right (by omega);have hjl:j-out.length<(Cj i k d (c:Int)).length:=by rw[List.length_append] at hj;omega
   have form:∃rd vl,(Cj i k d (c:Int))[j-out.length]? = some ((i:Int),(k:Int),rd,d.2.1,vl,(c:Int))/\(rd=true->vl=0)/\(rd=false->vl=d.2.2.1)/\(j≠out.length->d.1=3):=by
    by_cases hz:j-out.length=0
    ·
     obtain⟨rd,vl,ho,h5,h6⟩:=MP i k d (c:Int) h4;exact⟨rd,vl,by rw[hz];exact ho,h5,h6,fun h=>by omega⟩
    ·
     unfold Cj at hjl ⊢;rw[if_neg h4] at hjl ⊢;split at hjl
     ·
      rename_i h3;rw[if_pos h3];have:j-out.length=1:=by simp at hjl;omega
      rw[this];exact⟨false,d.2.2.1,rfl,by simp,by simp,fun _=>h3⟩
     ·
      split at hjl
      . simp at hjl;omega
      . simp at hjl;omega
   obtain⟨rd,vl,h1,h5,h6,h7⟩:=form;refine⟨i,k,c,rd,vl,by rw[e1,<-hd];exact h1,hi,hk,h5,by rw[<-hd];exact h6,by omega,k',rd',pl',vl',hce,hk',fun hcj h3=>?_⟩;rw[<-hd] at h3 ⊢
   have:j=out.length:=by
    apply Classical.byContradiction;intro hne;exact h3 (h7 hne)
   exact hcg (by omega)
 ·
  refine⟨by unfold C9;split<;>simp[hl],fun q hq0 hq=>?_⟩
  have Tu:f.getD q 0=0\/∃(c' k'':Nat) (rd'':Bool) (pl'' vl'':Int),f.getD q 0=(c':Int)/\(out++Cj i k d (c:Int))[c']? = some ((i:Int),(k'':Int),rd'',pl'',vl'',(c':Int))/\k''<(AA.getD i []).length/\((AA.getD i []).getD k'' zD).2.2.2=(q:Int):=by
   rcases hf q hq0 hq with h0|⟨c',k'',rd'',pl'',vl'',e1,e2,e3,e4⟩
   . exact .inl h0
   . exact .inr ⟨c',k'',rd'',pl'',vl'',e1,Hj _ e2,e3,e4⟩
  unfold C9;split
  ·
   rename_i hcond;rw[hg,Int.toNat_natCast] at hcond ⊢;rw[B7 f g _ q (by rw[hg] at r3;omega)];by_cases e:g=q
   ·
    subst e;rw[if_pos rfl];right
    have ec:c=out.length:=by
     have:Cm d.2.2.2 out.length f=(out.length:Int):=by
      unfold Cm C9;rw[if_pos (by rw[hg];exact hcond.1),hg,Int.toNat_natCast,if_pos hcond,B7 f g _ g (by rw[hg] at r3;omega),if_pos rfl]
     omega
    have ek:=hcn ec;subst ek;refine⟨out.length,k',rd',pl',vl',rfl,?_,hk',by rw[<-hd,hg]⟩;rw[ec] at hce;rw[ec];exact hce
   . rw[if_neg e];exact Tu
  . exact Tu
theorem QU {AA:List (List Dd)}{i:Nat}{out:List Ev}(hi:i<AA.length)(hok:∀j,j<(AA.getD i []).length->Eu ((AA.getD i []).getD j zD)=true)(hG:∀j,3<=j->j<out.length->IU AA out j):
  ∀k:Nat,k<=(AA.getD i []).length->(∃t,(BP i (AA.getD i []) out k).1=out++t)/\(∀j,3<=j->j<(BP i (AA.getD i []) out k).1.length->IU AA (BP i (AA.getD i []) out k).1 j)/\WX AA i (BP i (AA.getD i []) out k).1 (BP i (AA.getD i []) out k).2
 | 0,_=>⟨⟨[],by simp[BP]⟩,hG,by simp[BP],fun g _ hg => .inl (by simp only[BP];rw[List.getD_eq_getElem?_getD,List.getElem?_replicate,if_pos hg];rfl)⟩
 |k+1,h=>by
  obtain⟨⟨t,ht⟩,h2,h3⟩:=QU hi hok hG k (by omega);have:=WB (k:=k) hi (by omega) (hok k (by omega)) h2 h3;refine⟨?_,this⟩;rw[BP,D7];split
  . exact⟨t,ht⟩
  . exact⟨t++Cj i k ((AA.getD i []).getD k zD) (Cm ((AA.getD i []).getD k zD).2.2.2 (BP i (AA.getD i []) out k).1.length (BP i (AA.getD i []) out k).2),by simp only;rw[ht,List.append_assoc]⟩
theorem Ls {AA:List (List Dd)}(hok:∀i,i<AA.length->FP (AA.getD i [])=true):∀n:Nat,n<=AA.length->(∃t,Ax AA n=B5++t)/\∀j,3<=j->j<(Ax AA n).length->IU AA (Ax AA n) j
 | 0,_=>⟨⟨[],by simp[Ax]⟩,fun j h1 h2=>by simp[Ax,B5] at h2;omega⟩
 |n+1,h=>by
  obtain⟨⟨t,ht⟩,h2⟩:=Ls hok n (by omega);have hn:=hok n (by omega);simp only[FP,Bool.and_eq_true,decide_eq_true_eq] at hn;obtain⟨⟨t2,ht2⟩,h3,_⟩:=QU (i:=n) (out:=Ax AA n) (by omega) (fun j hj=>Be zD hn.1 j hj) h2 (AA.getD n []).length (Nat.le_refl _);rw[Ax];exact⟨⟨t++t2,by rw[ht2,ht,List.append_assoc]⟩,h3⟩
def Ae (e:Ev):Bool:=e.2.2.1
def NH (p:Int)(e:Ev):Bool:=!e.2.2.1&&(e.2.2.2.1==p)
def BR (f:Ev->Bool)(l:List Ev):Nat->List Int
 | 0=>[]
 |k+1=>if f (l.getD k zE)=true then BR f l k++[(k:Int)] else BR f l k
def AX (f:Ev->Bool)(l:List Ev):List Int:=if l.length<=12 then BR f l l.length else []
theorem D4 (f:Ev->Bool)(l:List Ev):∀k:Nat,(BR f l k).length<=k
 | 0=>by simp[BR]
 |k+1=>by
  have ih:=D4 f l k;rw[BR];split
  . simp;omega
  . omega
theorem Ho (f:Ev->Bool)(l:List Ev):∀(k:Nat) (x:Int),x∈BR f l k->0<=x/\x<(k:Int)
 | 0,x,h=>by simp[BR] at h
 |k+1,x,h=>by
  rw[BR] at h;split at h
  ·
   rcases List.mem_append.1 h with h|h
   . have:=Ho f l k x h;omega
   . simp at h;omega
  . have:=Ho f l k x h;omega
theorem L7 (f:Ev->Bool)(l:List Ev):∀k:Nat,(BR f l k).Pairwise (·<·)
 | 0=>by simp[BR]
 |k+1=>by
  have ih:=L7 f l k;rw[BR];split
  ·
   rw[List.pairwise_append];refine⟨ih,by simp,fun a ha b hb=>?_⟩;simp at hb;have:=Ho f l k a ha;omega
  . exact ih
theorem L6 (f:Ev->Bool)(l:List Ev)(k:Nat):∀n:Nat,k<=n->∃t,BR f l n=BR f l k++t
 | 0,h=>by
  obtain rfl:k=0:=by omega
  exact⟨[],by simp⟩
 |n+1,h=>by
  by_cases e:k=n+1
  . subst e;exact⟨[],by simp⟩
  ·
   obtain⟨t,ht⟩:=L6 f l k n (by omega);rw[BR];split
   . exact⟨t++[(n:Int)],by rw[ht,List.append_assoc]⟩
   . exact⟨t,ht⟩
theorem Tt {l:List Ev}:∀k:Nat,(∀j,j<k->0<=(l.getD j zE).2.2.2.1/\(l.getD j zE).2.2.2.1<=2)->(BR Ae l k).length+(BR (NH 0) l k).length+(BR (NH 1) l k).length+(BR (NH 2) l k).length=k
 | 0,_=>by simp[BR]
 |k+1,h=>by
  have ih:=Tt (l:=l) k (fun j hj=>h j (by omega));have hp:=h k (by omega);obtain⟨e,he⟩:∃e,e=l.getD k zE:=⟨_,rfl⟩;rw[<-he] at hp;simp only[BR,<-he];clear he;obtain⟨a,b,r,p,v,c⟩:=e;simp only at hp;cases r
  ·
   have hr:Ae (a,b,false,p,v,c)=false:=rfl;have:p=0\/p=1\/p=2:=by omega
   rcases this with rfl|rfl|rfl
   ·
    have t0:NH 0 (a,b,false,0,v,c)=true:=rfl;have t1:NH 1 (a,b,false,0,v,c)=false:=rfl;have t2:NH 2 (a,b,false,0,v,c)=false:=rfl;simp only[hr,t0,t1,t2,if_true,Bool.false_eq_true,if_false,List.length_append,List.length_cons,List.length_nil];omega
   ·
    have t0:NH 0 (a,b,false,1,v,c)=false:=rfl;have t1:NH 1 (a,b,false,1,v,c)=true:=rfl;have t2:NH 2 (a,b,false,1,v,c)=false:=rfl;simp only[hr,t0,t1,t2,if_true,Bool.false_eq_true,if_false,List.length_append,List.length_cons,List.length_nil];omega
   ·
    have t0:NH 0 (a,b,false,2,v,c)=false:=rfl;have t1:NH 1 (a,b,false,2,v,c)=false:=rfl;have t2:NH 2 (a,b,false,2,v,c)=true:=rfl;simp only[hr,t0,t1,t2,if_true,Bool.false_eq_true,if_false,List.length_append,List.length_cons,List.length_nil];omega
  ·
   have hr:Ae (a,b,true,p,v,c)=true:=rfl;have t:∀q,NH q (a,b,true,p,v,c)=false:=fun _=>rfl
   simp only[hr,t,if_true,Bool.false_eq_true,if_false,List.length_append,List.length_cons,List.length_nil];omega
theorem Oi {l t:List Ev}(h:l=B5++t):l.getD 0 zE=(-1,-1,false,0,0,0)/\l.getD 1 zE=(-1,-1,false,1,0,1)/\l.getD 2 zE=(-1,-1,false,2,0,2):=by
 subst h;exact⟨rfl,rfl,rfl⟩
theorem VN {l t:List Ev}(h:l=B5++t)(p:Nat)(hp:p<3):∃r,BR (NH (p:Int)) l l.length=(p:Int)::r:=by
 obtain⟨h0,h1,h2⟩:=Oi h;have hl:3<=l.length:=by rw[h];simp[B5]
 obtain⟨r,hr⟩:=L6 (NH (p:Int)) l 3 l.length hl
 have e:∃q,BR (NH (p:Int)) l 3=(p:Int)::q:=by
  have:p=0\/p=1\/p=2:=by omega
  simp only[BR,h0,h1,h2,NH];rcases this with rfl|rfl|rfl
  . exact⟨[],by simp⟩
  . exact⟨[],by simp⟩
  . exact⟨[],by simp⟩
 obtain⟨q,hq⟩:=e;exact⟨q++r,by rw[hr,hq];rfl⟩
theorem SU {AA:List (List Dd)}{out:List Ev}{j:Nat}(hok:∀i,i<AA.length->FP (AA.getD i [])=true)(h:IU AA out j):0<=(out.getD j zE).2.2.2.1/\(out.getD j zE).2.2.2.1<=2:=by
 obtain⟨i,k,c,rd,vl,h1,h2,h3,_⟩:=h;have hi:=hok i h2;simp only[FP,Bool.and_eq_true,decide_eq_true_eq] at hi;have:=B8 (Be zD hi.1 k h3);rw[List.getD_eq_getElem?_getD,h1];exact⟨this.1,this.2.1⟩
theorem Lr {AA:List (List Dd)}(h:AL AA=true):(Ax AA AA.length).length<=12/\((Ax AA AA.length).length:Int)=3+Qb AA AA.length /\
  (BR Ae (Ax AA AA.length) (Ax AA AA.length).length).length+(BR (NH 0) (Ax AA AA.length) (Ax AA AA.length).length).length+(BR (NH 1) (Ax AA AA.length) (Ax AA AA.length).length).length+(BR (NH 2) (Ax AA AA.length) (Ax AA AA.length).length).length=(Ax AA AA.length).length /\
  (∀p:Nat,p<3->∃r,BR (NH (p:Int)) (Ax AA AA.length) (Ax AA AA.length).length=(p:Int)::r)/\∀j,3<=j->j<(Ax AA AA.length).length->IU AA (Ax AA AA.length) j:=by
 simp only[AL,Bool.and_eq_true,decide_eq_true_eq] at h;obtain⟨⟨⟨⟨h1,h2⟩,h3⟩,h4⟩,_⟩:=h;have hok:∀i,i<AA.length->FP (AA.getD i [])=true:=fun i hi=>Be [] h2 i hi
 have hl:=Gr hok AA.length (Nat.le_refl _);obtain⟨⟨t,ht⟩,hg⟩:=Ls hok AA.length (Nat.le_refl _);refine⟨by omega,hl,Tt _ (fun j hj=>?_),fun p hp=>VN ht p hp,hg⟩;by_cases hj3:3<=j
 . exact SU hok (hg j hj3 hj)
 ·
  obtain⟨b0,b1,b2⟩:=Oi ht;have:j=0\/j=1\/j=2:=by omega
  rcases this with rfl|rfl|rfl
  . rw[b0];decide
  . rw[b1];decide
  . rw[b2];decide
section
section
variable {α:Type} {cf:α->List Value} {n:Nat}
def ZP (cf:α->List Value)(w:World)(b o:Nat)(x:α):Prop:=∀m u,(cf x)[m]? = some u->w.cell? ⟨b,o+m,none⟩=some u
def kR (cf:α->List Value)(n:Nat)(w:World)(v:Value)(xs:List α):Prop:=
 ∃(a:Option Addr) (cap:Nat),v = .slice a xs.length (xs.length+cap) /\
  (xs=[]\/∃b off,a=some ⟨b,off,none⟩/\b<w.heap.size/\∀i x,xs[i]? = some x->ZP cf w b (off+i*n) x)
theorem ZP.same {w w':World}{b o:Nat}{x:α}(h:ZP cf w b o x)(hh:w'.heap[b]? = w.heap[b]?):ZP cf w' b o x:=
 fun m u hm=>by
  have:=h m u hm;simp only[World.cell?,hh] at this ⊢;exact this
theorem ZP.keep {w w':World}{b o:Nat}{x:α}(h:ZP cf w b o x)(hb:b<w.heap.size)(k:AC w w'):ZP cf w' b o x:=h.same (Below.block k b hb)
theorem kR.keep {w w':World}{v:Value}{xs:List α}(h:kR cf n w v xs)(k:AC w w'):kR cf n w' v xs:=by
 obtain⟨a,cap,hv,h⟩:=h;refine⟨a,cap,hv,?_⟩;rcases h with h|⟨b,off,ha,hb,hc⟩
 . exact .inl h
 . exact .inr ⟨b,off,ha,Nat.lt_of_lt_of_le hb k.size,fun i x hx=>(hc i x hx).keep hb k⟩
def Bp (cf:α->List Value)(e:TypeId)(n:Nat)(w:World)(base:Nat)(v:Value)(xs:List α):Prop:=w.ownsRow base e n v xs.length (xs.flatMap cf)
variable {e:TypeId}
theorem Bp.keep {w w':World}{base:Nat}{v:Value}{xs:List α}(h:Bp cf e n w base v xs)(k:AC w w'):Bp cf e n w' base v xs:=
 World.ownsRow.kept h k.grownBy (by cases v.ownBlock<;>simp)
theorem Bp.kept {w w':World}{base:Nat}{v:Value}{xs:List α}{row:Option Nat}(h:Bp cf e n w base v xs)(hg:w.grownBy w' row)(hne:v.ownBlock=none\/v.ownBlock≠row):Bp cf e n w' base v xs:=
 World.ownsRow.kept h hg hne
theorem Bp.lt {w:World}{base:Nat}{v:Value}{xs:List α}(h:Bp cf e n w base v xs):∀k,v.ownBlock=some k->base<=k/\k<w.heap.size:=World.ownsRow.lt h
theorem Bp.ge {w:World}{base:Nat}{v:Value}{xs:List α}(h:Bp cf e n w base v xs):∀k,v.ownBlock=some k->base<=k:=fun k hk=>(h.lt k hk).1
theorem JJ {w:World}{base:Nat}{v:Value}{xs:List α}{x:α}(h:w.ownsRow base e n v (xs.length+1) (xs.flatMap cf++cf x)):Bp cf e n w base v (xs++[x]):=by
 unfold Bp;rw[List.flatMap_append];simpa using h
theorem Lc (w:World):Bp cf e n (w.alloc (.cells #[] e)) w.heap.size (.slice (some ⟨w.heap.size,0,none⟩) 0 0) []:=
 World.ownsRow_lit w #[] 0 (Nat.le_refl _) (by decide) (by simp)
theorem Tm (hn:∀x,(cf x).length=n):∀(xs:List α) (i:Nat) (x:α) (m:Nat),xs[i]? = some x->m<n->(xs.flatMap cf)[i*n+m]? = (cf x)[m]?
 | [],i,x,m,h,_=>by simp at h
 |y::r,0,x,m,h,hm=>by
  simp at h;subst h;rw[List.flatMap_cons,List.getElem?_append_left (by rw[hn];omega)];simp
 |y::r,i+1,x,m,h,hm=>by
  have ih:=Tm hn r i x m (by simpa using h) hm;have e1:(i+1)*n+m=n+(i*n+m):=by rw[Nat.add_mul];omega
  rw[List.flatMap_cons,List.getElem?_append_right (by rw[hn];omega),hn,e1,Nat.add_sub_cancel_left,ih]
theorem Bp.shape {w:World}{base:Nat}{v:Value}{xs:List α}(h:Bp cf e n w base v xs):∃a c,v = .slice a xs.length c:=by
 rcases h.2 with ⟨rfl,hz⟩|⟨g,cap,cur,rfl,_⟩
 . exact⟨none,0,by rw[hz]⟩
 . exact⟨_,_,rfl⟩
theorem Bp.rd (hn:∀x,(cf x).length=n){w:World}{base:Nat}{v:Value}{xs:List α}(h:Bp cf e n w base v xs):kR cf n w v xs:=by
 have h2:=h;have hlt:=h.lt;rcases h.2 with ⟨rfl,hz⟩|⟨g,cap,cur,rfl,hb,hg,hcap,_,hs,_⟩
 ·
  have:xs=[]:=List.eq_nil_of_length_eq_zero hz;subst this;exact⟨none,0,rfl,.inl rfl⟩
 ·
  obtain⟨x,rfl⟩:∃x,cap=xs.length+x:=⟨cap-xs.length,by omega⟩;refine⟨_,x,rfl,.inr ⟨g,0,rfl,(hlt g rfl).2,fun i y hy m u hm=>?_⟩⟩;have hi:i<xs.length:=(List.getElem?_eq_some_iff.1 hy).1;have hmn:m<n:=by have:=(List.getElem?_eq_some_iff.1 hm).1;rw[hn] at this;exact this
  have hb2:i*n+m<xs.length*n:=by
   have h3:(i+1)*n<=xs.length*n:=Nat.mul_le_mul_right n hi;rw[Nat.add_mul] at h3;omega
  rw[Nat.zero_add,World.ownsRow.cellAt h2 (i*n+m) hb2,Tm hn xs i y m hy hmn];exact hm
end
end
def cE (e:Ev):List Value:=[.int .i64 e.1,.int .i64 e.2.1,.bool e.2.2.1,.int .i64 e.2.2.2.1,.int .i64 e.2.2.2.2.1,.int .i64 e.2.2.2.2.2]
theorem iZ (e:Ev):(cE e).length=6:=rfl
theorem Tryz.YI:(Tryz.prog.info? 85).map (fun i=>(i.zero,i.size,i.bytes))=some (some (.agg #[.int .i64 0,.int .i64 0,.bool false,.int .i64 0,.int .i64 0,.int .i64 0]),6,48):=by kernel_rfl
abbrev ZR (w:World)(v:Value)(es:List Ev):Prop:=kR cE 6 w v es
abbrev IG (w:World)(base:Nat)(v:Value)(es:List Ev):Prop:=Bp cE 85 6 w base v es
theorem kV {w:World}{b o:Nat}{x0 x1:Int}{r:Bool}{x3 x4 x5:Int}(h:ZP cE w b o (x0,x1,r,x3,x4,x5)):
  w.cell? ⟨b,o,none⟩=some (.int .i64 x0)/\w.cell? ⟨b,o+1,none⟩=some (.int .i64 x1)/\w.cell? ⟨b,o+2,none⟩=some (.bool r)/\w.cell? ⟨b,o+3,none⟩=some (.int .i64 x3)/\w.cell? ⟨b,o+4,none⟩=some (.int .i64 x4)/\w.cell? ⟨b,o+5,none⟩=some (.int .i64 x5):=
 ⟨h 0 _ rfl,h 1 _ rfl,h 2 _ rfl,h 3 _ rfl,h 4 _ rfl,h 5 _ rfl⟩
theorem IG.rd {w:World}{base:Nat}{v:Value}{es:List Ev}(h:IG w base v es):ZR w v es:=Bp.rd iZ h
theorem LI {es:List Ev}{i:Nat}(h:i<es.length):es[i]? = some (es.getD i zE):=by
 rw[List.getD_eq_getElem?_getD,List.getElem?_eq_getElem h];rfl
theorem Fd (f:Ev->Bool)(es:List Ev):(AX f es).length<=12:=by
 unfold AX;split
 . have:=D4 f es es.length;omega
 . simp
def Nx (AA:List (List Dd)):Int:=(AX Ae (Ax AA AA.length)).length
theorem GG (AA:List (List Dd)):0<=Nx AA/\Nx AA<=12:=by have:=Fd Ae (Ax AA AA.length);unfold Nx;omega
def Kw (n reads:Int):Bool:=CJ n 0 (reads-1)||CJ n 100 102
def Gj (reads:Int)(rs vs:List Int):Nat->Bool
 | 0=>true
 |k+1=>Gj reads rs vs k&&(Kw (rs.getD k 0) reads&&CJ (vs.getD k 0) 0 9)
def P0 (reads:Int)(rs vs:List Int):Bool:=(decide (rs.length<=6)&&decide (rs.length=vs.length))&&Gj reads rs vs rs.length
def ED (AA:List (List Dd))(rs vs:List Int):Bool:=AL AA&&P0 (Nx AA) rs vs
theorem Gl {reads:Int}{rs vs:List Int}{k n:Nat}(h:Gj reads rs vs k=false)(hk:k<=n):Gj reads rs vs n=false:=by
 induction n with
 |zero=>
  obtain rfl:k=0:=by omega
  exact h
 |succ n ih=>
  by_cases e:k=n+1
  . rw[<-e];exact h
  ·
   show (Gj reads rs vs n&&_)=false;rw[ih (by omega),Bool.false_and]
theorem Zw {reads:Int}{rs vs:List Int}{n:Nat}(h:Gj reads rs vs n=true){i:Nat}(hi:i<n):Kw (rs.getD i 0) reads=true/\CJ (vs.getD i 0) 0 9=true:=by
 induction n with
 |zero=>omega
 |succ n ih=>
  have h':(Gj reads rs vs n&&(Kw (rs.getD n 0) reads&&CJ (vs.getD n 0) 0 9))=true:=h;simp only[Bool.and_eq_true] at h';by_cases e:i=n
  . subst e;exact h'.2
  . exact ih h'.1 (by omega)
theorem UF {reads:Int}{rs vs:List Int}(h:P0 reads rs vs=true):rs.length<=6/\rs.length=vs.length/\∀i,i<rs.length->Kw (rs.getD i 0) reads=true/\CJ (vs.getD i 0) 0 9=true:=by
 unfold P0 at h;simp only[Bool.and_eq_true,decide_eq_true_eq] at h;exact⟨h.1.1,h.1.2,fun i hi=>Zw h.2 hi⟩
def Fq (n:Nat)(r:Int):Int:=if 100<=r then (n:Int)-3+r-100 else r
def Ff (rs vs one:List Int):Nat->Bool
 | 0=>true
 |k+1=>Ff rs vs one k&&decide (one.getD (Fq one.length (rs.getD k 0)).toNat 0=vs.getD k 0)
def Eh (rs vs one:List Int):Bool:=Ff rs vs one rs.length
def Ei (AA:List (List Dd))(rs vs one:List Int):Bool:=(ED AA rs vs&&decide ((one.length:Int)=Nx AA+3))&&Eh rs vs one
theorem Hq {rs vs one:List Int}{k n:Nat}(h:Ff rs vs one k=false)(hk:k<=n):Ff rs vs one n=false:=by
 induction n with
 |zero=>
  obtain rfl:k=0:=by omega
  exact h
 |succ n ih=>
  by_cases e:k=n+1
  . rw[<-e];exact h
  ·
   show (Ff rs vs one n&&_)=false;rw[ih (by omega),Bool.false_and]
theorem TP {reads:Int}{n:Nat}{r:Int}(h:Kw r reads=true)(hn:(n:Int)=reads+3)(h0:0<=reads)(h1:reads<=12):0<=Fq n r/\Fq n r<(n:Int):=by
 unfold Kw CJ at h;simp only[Bool.or_eq_true,decide_eq_true_eq] at h;unfold Fq;split<;>omega
theorem YQ {reads r:Int}(h:Kw r reads=true)(h0:0<=reads)(h1:reads<=12):0<=r/\r<=102:=by
 unfold Kw CJ at h;simp only[Bool.or_eq_true,decide_eq_true_eq] at h;omega
def Qv (rs vs:List Int)(l:List (List Int)):Nat->Nat
 | 0=>0
 |k+1=>Qv rs vs l k+(if Eh rs vs (l.getD k [])=true then 1 else 0)
def Fw (ds:List Dd)(k:Nat):Bool:=decide (0<k)&&((ds.getD k zD).2.2.2 != 0)&&((ds.getD k zD).2.2.2==(ds.getD (k-1) zD).2.2.2)
def MF (out:List Ev):Int:=ZW (out.getD (out.length-1) zE)
def Mm (out:List Ev)(go:Bool):Int:=if go=true then MF out else (out.length:Int)
def Jz (i:Nat)(ds:List Dd)(out:List Ev):Nat->List Ev
 | 0=>out
 |k+1=>Jz i ds out k++Cj i k (ds.getD k zD) (Mm (Jz i ds out k) (Fw ds k))
def SQ (AA:List (List Dd)):Nat->List Ev
 | 0=>B5
 |i+1=>Jz i (AA.getD i []) (SQ AA i) (AA.getD i []).length
def qh (ds:List Dd):Prop:=∀k j,k<ds.length->j<k->(ds.getD k zD).2.2.2≠0->(ds.getD j zD).2.2.2=(ds.getD k zD).2.2.2->(ds.getD (k-1) zD).2.2.2=(ds.getD k zD).2.2.2
theorem Qj {i:Nat}{own:List Int}{ds:List Dd}(hl:own.length=10):∀(k:Nat) (o:List Int),Ch i own ds k=some o->(∀j,j<k->Eu (ds.getD j zD)=true) ->
  ∀j,j<k->(ds.getD j zD).2.2.2≠0->o.getD (ds.getD j zD).2.2.2.toNat 0=(i:Int)+1
 | 0,o,h,_,j,hj,_=>by omega
 |k+1,o',h,hok,j,hj,h0=>by
  rw[Ch] at h
  cases hq:Ch i own ds k with
  |none=>rw[hq] at h;cases h
  |some o=>
   rw[hq] at h;have ih:=Qj hl k o hq (fun j hj=>hok j (by omega));have hol:=JX hq;simp only at h;have okj:=B8 (hok j hj);split at h
   ·
    rename_i hz;simp only[Option.some.injEq] at h;subst h;by_cases e:j=k
    . subst e;exact absurd hz h0
    . exact ih j (by omega) h0
   ·
    rename_i hz;split at h
    . cases h
    ·
     simp only[Option.some.injEq] at h;subst h;have LS:=B8 (hok k (by omega));rw[B7 o _ _ _ (by omega)];by_cases e:(ds.getD k zD).2.2.2.toNat=(ds.getD j zD).2.2.2.toNat
     . rw[if_pos e]
     ·
      rw[if_neg e];by_cases e2:j=k
      . subst e2;exact absurd rfl e
      . exact ih j (by omega) h0
theorem X7 {i:Nat}{own:List Int}{ds:List Dd}(hl:own.length=10){o:List Int}(h:Ch i own ds ds.length=some o)(hok:∀j,j<ds.length->Eu (ds.getD j zD)=true):qh ds:=by
 intro k j hk hj h0 he
 have step:∃o',Ch i own ds (k+1)=some o':=by
  cases hq:Ch i own ds (k+1) with
  |none=>rw[J5 hq ds.length (by omega)] at h;cases h
  |some o'=>exact⟨o',rfl⟩
 obtain⟨o',ho'⟩:=step;rw[Ch] at ho'
 cases hq:Ch i own ds k with
 |none=>rw[hq] at ho';cases ho'
 |some o1=>
  rw[hq] at ho';have hown:=Qj hl k o1 hq (fun j hj=>hok j (by omega)) j hj (by rw[he];exact h0);rw[he] at hown;simp only at ho';rw[if_neg h0] at ho';split at ho'
  . cases ho'
  ·
   rename_i hn;apply Classical.byContradiction;intro hc;exact hn ⟨by rw[hown];omega,.inr (.inr hc)⟩
theorem Rh {AA:List (List Dd)}(hb:AL AA=true):∀i,i<AA.length->qh (AA.getD i []):=by
 intro i hi;simp only[AL,Bool.and_eq_true,decide_eq_true_eq] at hb;obtain⟨⟨⟨⟨_,h2⟩,_⟩,_⟩,hg⟩:=hb;have hok:=Be [] h2 i hi;simp only[FP,Bool.and_eq_true,decide_eq_true_eq] at hok
 have hs:∀n,n<=AA.length->∃o,EF AA n=some o:=by
  intro n hn
  cases hq:EF AA n with
  |none=>rw[JW,J6 hq AA.length hn] at hg;cases hg
  |some o=>exact⟨o,rfl⟩
 obtain⟨o,ho⟩:=hs i (by omega);obtain⟨o',ho'⟩:=hs (i+1) (by omega);rw[EF,ho] at ho';exact X7 (Lx ho) ho' (fun j hj=>Be zD hok.1 j hj)
theorem VS (out t:List Ev)(e:Ev):MF (out++(t++[e]))=ZW e:=by
 unfold MF;rw[<-List.append_assoc,List.length_append,List.getD_eq_getElem?_getD];simp
theorem NU {i:Nat}{ds:List Dd}{out:List Ev}(ht:qh ds)(hok:∀j,j<ds.length->Eu (ds.getD j zD)=true)(ho:1<=out.length):
  ∀k:Nat,k<=ds.length->Jz i ds out k=(BP i ds out k).1/\(BP i ds out k).2.length=10/\1<=(BP i ds out k).1.length /\
   (∀g:Nat,0<g->g<10->(∀j,j<k->(ds.getD j zD).2.2.2≠(g:Int))->(BP i ds out k).2.getD g 0=0) /\
   (∀j,j<k->(ds.getD j zD).2.2.2≠0->(BP i ds out k).2.getD (ds.getD j zD).2.2.2.toNat 0≠0) /\
   (0<k->(ds.getD (k-1) zD).2.2.2≠0->(BP i ds out k).2.getD (ds.getD (k-1) zD).2.2.2.toNat 0=MF (BP i ds out k).1)
 | 0,_=>⟨rfl,by simp[BP],ho,fun g _ hg _=>by simp only[BP];rw[List.getD_eq_getElem?_getD,List.getElem?_replicate,if_pos hg];rfl,fun j hj=>by omega,fun h=>by omega⟩
 |k+1,hk=>by
  obtain⟨h1,h2,h3,h4,h5,h6⟩:=NU ht hok ho k (by omega);have hd:=hok k (by omega);obtain⟨r0,r1,r2,r3,r4⟩:=B8 hd;have hkd:=Bz hd;rw[Jz,BP,h1,Nat.add_sub_cancel];generalize hS:BP i ds out k=S at h2 h3 h4 h5 h6;obtain⟨L,f⟩:=S;simp only at h2 h3 h4 h5 h6;generalize hdd:ds.getD k zD=d at hd r0 r1 r2 r3 r4 hkd;have hg:Fw ds k=(decide (0<k)&&(d.2.2.2 != 0)&&(d.2.2.2==(ds.getD (k-1) zD).2.2.2)):=by rw[Fw,hdd]
  have old5:∀j,j<k->(ds.getD j zD).2.2.2≠0->(ds.getD j zD).2.2.2.toNat<10:=fun j hj _=>by
   have:=B8 (hok j (by omega));omega
  by_cases oH:d.1=4
  ·
   have g0:d.2.2.2=0:=r4 (by omega);have e1:Cj i k d (Mm L (Fw ds k))=[]:=by unfold Cj;rw[if_pos oH]
   rw[D7,if_pos oH,e1,List.append_nil];refine⟨rfl,h2,h3,fun g hg0 hg10 hn=>h4 g hg0 hg10 (fun j hj=>hn j (by omega)),fun j hj hne=>?_,fun _ hne=>absurd g0 hne⟩;by_cases e:j=k
   . subst e;rw[hdd] at hne;exact absurd g0 hne
   . exact h5 j (by omega) hne
  ·
   rw[D7,if_neg oH];by_cases g0:d.2.2.2=0
   ·
    have e1:Mm L (Fw ds k)=Cm d.2.2.2 L.length f:=by
     rw[hg,g0];simp[Mm,Cm]
    have e2:C9 d.2.2.2 L.length f=f:=by unfold C9;rw[if_neg (by rw[g0];omega)]
    rw[e1];simp only;rw[e2];refine⟨by trivial,h2,by rw[List.length_append];omega,fun g hg0 hg10 hn=>h4 g hg0 hg10 (fun j hj=>hn j (by omega)),fun j hj hne=>?_,fun _ hne=>absurd g0 hne⟩;by_cases e:j=k
    . subst e;rw[hdd] at hne;exact absurd g0 hne
    . exact h5 j (by omega) hne
   ·
    have gp:(0:Int)<d.2.2.2:=by omega
    have k2:d.1=1\/d.1=2:=by
     apply Classical.byContradiction;intro hn;exact g0 (r4 (by omega))
    have one:∀c,∃e,Cj i k d c=[e]/\ZW e=c:=by
     intro c;unfold Cj;rcases k2 with e|e
     . exact⟨_,by rw[if_neg oH,if_neg (by omega),if_neg (by omega)],rfl⟩
     . exact⟨_,by rw[if_neg oH,if_neg (by omega),if_pos e],rfl⟩
    have fin:∀c,MF (L++Cj i k d c)=c:=fun c=>by
     obtain⟨e,he,hc⟩:=one c;rw[he,<-hc];exact VS L [] e
    by_cases hgo:0<k/\(ds.getD (k-1) zD).2.2.2=d.2.2.2
    ·
     obtain⟨k0,hgo⟩:=hgo;have e0:Fw ds k=true:=by rw[hg,hgo];simp[k0,g0]
     have f0:f.getD d.2.2.2.toNat 0≠0:=by have:=h5 (k-1) (by omega) (by rw[hgo];exact g0);rw[hgo] at this;exact this
     have f1:f.getD d.2.2.2.toNat 0=MF L:=by have:=h6 k0 (by rw[hgo];exact g0);rw[hgo] at this;exact this
     have e2:C9 d.2.2.2 L.length f=f:=by unfold C9;rw[if_neg (fun h=>f0 h.2)]
     have e1:Mm L (Fw ds k)=Cm d.2.2.2 L.length f:=by
      rw[e0];unfold Mm Cm;rw[if_pos rfl,if_pos gp,e2,f1]
     have e3:Cm d.2.2.2 L.length f=f.getD d.2.2.2.toNat 0:=by unfold Cm;rw[if_pos gp,e2]
     rw[e1];simp only;rw[e2];refine⟨by trivial,h2,by rw[List.length_append];omega,fun g hg0 hg10 hn=>h4 g hg0 hg10 (fun j hj=>hn j (by omega)),fun j hj hne=>?_,fun _ _=>?_⟩
     ·
      by_cases e:j=k
      . subst e;rw[hdd];exact f0
      . exact h5 j (by omega) hne
     . rw[fin,e3]
    ·
     have none:∀j,j<k->(ds.getD j zD).2.2.2≠d.2.2.2:=by
      intro j hj he;refine hgo ⟨by omega,?_⟩;have:=ht k j (by omega) hj (by rw[hdd];exact g0) (by rw[hdd];exact he);rw[hdd] at this;exact this
     obtain⟨g,hgg⟩:=Int.eq_ofNat_of_zero_le r2;have g10:g<10:=by omega
     have f0:f.getD d.2.2.2.toNat 0=0:=by
      rw[hgg,Int.toNat_natCast];exact h4 g (by omega) g10 (fun j hj=>by rw[<-hgg];exact none j hj)
     have e0:Fw ds k=false:=by
      rw[hg];by_cases k0:0<k
      ·
       have:¬(d.2.2.2=(ds.getD (k-1) zD).2.2.2):=fun e=>hgo ⟨k0,e.symm⟩
       have e:(d.2.2.2==(ds.getD (k-1) zD).2.2.2)=false:=by simpa using this
       rw[e,Bool.and_false]
      . simp[k0]
     have e2:C9 d.2.2.2 L.length f=f.set d.2.2.2.toNat (L.length:Int):=by unfold C9;rw[if_pos ⟨gp,f0⟩]
     have e3:Cm d.2.2.2 L.length f=(L.length:Int):=by
      unfold Cm;rw[if_pos gp,e2,B7 f _ _ _ (by omega),if_pos rfl]
     have e1:Mm L (Fw ds k)=Cm d.2.2.2 L.length f:=by rw[e0,e3];simp[Mm]
     rw[e1];simp only;rw[e2];refine⟨by trivial,by rw[List.length_set];exact h2,by rw[List.length_append];omega,fun q hq0 hq10 hn=>?_,fun j hj hne=>?_,fun _ _=>?_⟩
     ·
      have hqk:=hn k (by omega);rw[hdd] at hqk;rw[B7 f _ _ _ (by omega),if_neg (by omega)];exact h4 q hq0 hq10 (fun j hj=>hn j (by omega))
     ·
      by_cases e:j=k
      ·
       subst e;rw[hdd,B7 f _ _ _ (by omega),if_pos rfl];omega
      ·
       have nj:=none j (by omega);have okj:=B8 (hok j (by omega));rw[B7 f _ _ _ (by omega),if_neg (by omega)];exact h5 j (by omega) hne
     . rw[fin,e3,B7 f _ _ _ (by omega),if_pos rfl]
theorem Ng {AA:List (List Dd)}(hb:AL AA=true):∀n:Nat,n<=AA.length->SQ AA n=Ax AA n/\1<=(Ax AA n).length
 | 0,_=>⟨rfl,by simp[Ax,B5]⟩
 |n+1,h=>by
  obtain⟨h1,h2⟩:=Ng hb n (by omega);have ht:=Rh hb n (by omega);simp only[AL,Bool.and_eq_true,decide_eq_true_eq] at hb;obtain⟨⟨⟨⟨_,ha⟩,_⟩,_⟩,_⟩:=hb;have hok:=Be [] ha n (by omega);simp only[FP,Bool.and_eq_true,decide_eq_true_eq] at hok;obtain⟨q1,_,q3,_⟩:=NU (i:=n) ht (fun j hj=>Be zD hok.1 j hj) h2 (AA.getD n []).length (Nat.le_refl _);rw[SQ,Ax,h1,q1];exact⟨rfl,q3⟩
theorem Wx (a i:Nat)(ha:a<4096):Zx (a:Int) (i:Int)=a.testBit i:=by
 unfold Zx;have hd:a / 2 ^ i<=a:=Nat.div_le_self _ _;have e:((a:Int) / 2 ^ (i:Int).toNat)=((a / 2 ^ i:Nat):Int):=by simp
 rw[e,show (1:Int)=((1:Nat):Int) from rfl,Kd _ _ (by omega) (by omega),Nat.and_one_is_mod,Nat.testBit_eq_decide_div_mod_eq];generalize a / 2 ^ i % 2=r;rw[Bool.eq_iff_iff,beq_iff_eq,decide_eq_true_eq];omega
theorem L9 (a i:Nat)(ha:a<4096)(hi:i<12):Ef (a:Int) (i:Int)=a.testBit i:=by
 have h1:CJ (i:Int) 0 11=true:=by unfold CJ;simp;omega
 have h2:CJ (a:Int) 0 4095=true:=by unfold CJ;simp;omega
 simp[Ef,h1,h2,Wx a i ha]
theorem Xw (a i:Nat)(ha:a<4096)(hi:i<12):Ku (a:Int) (i:Int)=((a ||| 2 ^ i:Nat):Int):=by
 have h1:CJ (i:Int) 0 11=true:=by unfold CJ;simp;omega
 rw[aQ _ _ (by omega) h1,Mi _ (by omega) (by omega)];have hq:(2:Nat) ^ i<2 ^ 12:=Nat.pow_lt_pow_right (by omega) hi;have e:((2:Int) ^ (i:Int).toNat)=((2 ^ i:Nat):Int):=by simp
 rw[e,Lz a _ (by omega) (by omega)]
theorem pV (a i:Nat)(ha:a<4096)(hi:i<12):a ||| 2 ^ i<4096:=by
 have hq:(2:Nat) ^ i<2 ^ 12:=Nat.pow_lt_pow_right (by omega) hi;exact Nat.or_lt_two_pow (n:=12) ha hq
def iY (es:List Ev)(i k:Nat):Bool:=decide (i<k)&&((decide (i<3)&&decide (3<=k))||(decide (3<=i)&&((es.getD i zE).1==(es.getD k zE).1)))
def EL (d:Dd):Bool:=(d.1==3)||decide (0<d.2.2.2)
def Pw (ds:List Dd)(lo hi:Nat):Bool:=(List.range hi).any (fun j=>decide (lo<j)&&((ds.getD j zD).1==4))
theorem WF {ds:List Dd}{lo hi:Nat}(h:∀j,lo<j->j<hi->(ds.getD j zD).1≠4):Pw ds lo hi=false:=by
 unfold Pw;rw[List.any_eq_false];intro j hj;rw[List.mem_range] at hj;by_cases hl:lo<j
 ·
  have:=h j hl hj;simp[hl];simpa using this
 . simp[hl]
def kX (AA:List (List Dd))(e:Ev):Dd:=(AA.getD e.1.toNat []).getD e.2.1.toNat zD
def pJ (AA:List (List Dd))(a b:Ev):Bool:=!(Ae a)&&Ae b&&(ZW a != ZW b)&&(!Pw (AA.getD a.1.toNat []) a.2.1.toNat b.2.1.toNat&&!EL (kX AA a)&&!EL (kX AA b))
def jQ (AA:List (List Dd))(es:List Ev)(i k:Nat):Bool:=decide (3<=i)&&iY es i k&&pJ AA (es.getD i zE) (es.getD k zE)
abbrev Ai (AA:List (List Dd))(c k:Nat):Dd:=(AA.getD c []).getD k zD
def AZ (AA:List (List Dd))(c k:Nat):Nat:=(BP c (AA.getD c []) (Ax AA c) k).1.length
def El (d:Dd):Nat:=if d.1=4 then 0 else if d.1=3 then 2 else 1
theorem Ym (i k:Nat)(d:Dd)(c:Int):(Cj i k d c).length=El d:=by
 unfold Cj El;split
 . rfl
 ·
  split
  . rfl
  . split<;>rfl
def Co (AA:List (List Dd))(c k:Nat):Int:=Cm (Ai AA c k).2.2.2 (AZ AA c k) (BP c (AA.getD c []) (Ax AA c) k).2
theorem Lk (AA:List (List Dd))(c k:Nat):(BP c (AA.getD c []) (Ax AA c) (k+1)).1=(BP c (AA.getD c []) (Ax AA c) k).1++Cj c k (Ai AA c k) (Co AA c k):=by
 rw[BP,D7];split
 ·
  rename_i h;have e:Cj c k (Ai AA c k) (Co AA c k)=[]:=by unfold Cj;rw[if_pos h]
  rw[e,List.append_nil]
 . rfl
theorem MN (AA:List (List Dd))(c k:Nat):AZ AA c (k+1)=AZ AA c k+El (Ai AA c k):=by
 unfold AZ;rw[Lk,List.length_append,Ym]
theorem MO (AA:List (List Dd))(c:Nat):AZ AA c 0=(Ax AA c).length:=rfl
theorem UE (AA:List (List Dd))(c:Nat):(Ax AA (c+1)).length=AZ AA c (AA.getD c []).length:=rfl
theorem LG (AA:List (List Dd))(c k:Nat):∀n:Nat,k<=n->∃t,(BP c (AA.getD c []) (Ax AA c) n).1=(BP c (AA.getD c []) (Ax AA c) k).1++t
 | 0,h=>by
  obtain rfl:k=0:=by omega
  exact⟨[],by simp⟩
 |n+1,h=>by
  by_cases e:k=n+1
  . subst e;exact⟨[],by simp⟩
  ·
   obtain⟨t,ht⟩:=LG AA c k n (by omega);exact⟨t++Cj c n (Ai AA c n) (Co AA c n),by rw[Lk,ht,List.append_assoc]⟩
theorem Fv (AA:List (List Dd))(c:Nat):∀n:Nat,c<=n->∃t,Ax AA n=Ax AA c++t
 | 0,h=>by
  obtain rfl:c=0:=by omega
  exact⟨[],by simp⟩
 |n+1,h=>by
  by_cases e:c=n+1
  . subst e;exact⟨[],by simp⟩
  ·
   obtain⟨t,ht⟩:=Fv AA c n (by omega);obtain⟨t2,h2⟩:=LG AA n 0 (AA.getD n []).length (Nat.zero_le _);refine⟨t++t2,?_⟩;show (BP n (AA.getD n []) (Ax AA n) (AA.getD n []).length).1=_;rw[h2];show Ax AA n++t2=_;rw[ht,List.append_assoc]
theorem gF {AA:List (List Dd)}{c k n:Nat}(hc:c<n)(hk:k<(AA.getD c []).length){i:Nat}{e:Ev}(h:(Cj c k (Ai AA c k) (Co AA c k))[i]? = some e):(Ax AA n)[AZ AA c k+i]? = some e:=by
 obtain⟨t1,h1⟩:=Fv AA (c+1) n hc;obtain⟨t2,h2⟩:=LG AA c (k+1) (AA.getD c []).length hk;rw[h1];refine Hj t1 ?_;show (BP c (AA.getD c []) (Ax AA c) (AA.getD c []).length).1[AZ AA c k+i]? = some e;rw[h2];refine Hj t2 ?_;rw[Lk,List.getElem?_append_right (by unfold AZ;omega)];show (Cj c k (Ai AA c k) (Co AA c k))[AZ AA c k+i-AZ AA c k]? = some e;rw[show AZ AA c k+i-AZ AA c k=i by omega];exact h
theorem Te (AA:List (List Dd))(c:Nat){j:Nat}(h0:AZ AA c 0<=j):∀k:Nat,j<AZ AA c k->∃k' i,k'<k/\i<El (Ai AA c k')/\j=AZ AA c k'+i
 | 0,h=>by omega
 |k+1,h=>by
  by_cases hj:j<AZ AA c k
  ·
   obtain⟨k',i,h1,h2,h3⟩:=Te AA c h0 k hj;exact⟨k',i,by omega,h2,h3⟩
  ·
   rw[MN] at h;exact⟨k,j-AZ AA c k,by omega,by omega,by omega⟩
theorem Xo (AA:List (List Dd)){j:Nat}(h3:3<=j):∀n:Nat,j<(Ax AA n).length->∃c k i,c<n/\k<(AA.getD c []).length/\i<El (Ai AA c k)/\j=AZ AA c k+i
 | 0,h=>by simp[Ax,B5] at h;omega
 |n+1,h=>by
  by_cases hj:j<(Ax AA n).length
  ·
   obtain⟨c,k,i,h1,h2⟩:=Xo AA h3 n hj;exact⟨c,k,i,by omega,h2⟩
  ·
   rw[UE] at h;obtain⟨k,i,h1,h2⟩:=Te AA n (by rw[MO];omega) _ h;exact⟨n,k,i,by omega,h1,h2⟩
theorem PS (AA:List (List Dd))(c:Nat){k k':Nat}(h:k<=k'):AZ AA c k<=AZ AA c k':=by
 obtain⟨t,ht⟩:=LG AA c k k' h;unfold AZ;rw[ht,List.length_append];omega
theorem G4 {AA:List (List Dd)}{c c' k k':Nat}(hk:k<(AA.getD c []).length)(h:c<c'\/(c=c'/\k<k')):AZ AA c k+El (Ai AA c k)<=AZ AA c' k':=by
 rcases h with h|⟨rfl,h⟩
 ·
  have h1:=PS AA c (k:=k+1) (k':=(AA.getD c []).length) hk;rw[MN] at h1;obtain⟨t,ht⟩:=Fv AA (c+1) c' h;have h2:=PS AA c' (Nat.zero_le k');rw[MO,ht,List.length_append,UE] at h2;omega
 ·
  have h1:=PS AA c (k:=k+1) (k':=k') h;rw[MN] at h1;exact h1
theorem Hx (AA:List (List Dd))(c k:Nat):3<=AZ AA c k:=by
 obtain⟨t,ht⟩:=Fv AA 0 c (Nat.zero_le _);have h:=PS AA c (Nat.zero_le k);rw[MO,ht,List.length_append] at h;simp[Ax,B5] at h;omega
abbrev BE (AA:List (List Dd))(c k:Nat):Int:=(Ai AA c k).2.2.2
def iI (AA:List (List Dd))(c:Nat):Prop:=∀k,k<(AA.getD c []).length->Eu (Ai AA c k)=true
theorem Bu {AA:List (List Dd)}(h:AL AA=true){c:Nat}(hc:c<AA.length):iI AA c:=by
 simp only[AL,Bool.and_eq_true,decide_eq_true_eq] at h;obtain⟨⟨⟨⟨_,h2⟩,_⟩,_⟩,_⟩:=h;have h3:=Be [] h2 c hc;unfold FP at h3;rw[Bool.and_eq_true] at h3;exact fun k hk=>Be zD h3.1 k hk
theorem Xx {AA:List (List Dd)}{c k:Nat}(h:iI AA c)(hk:k<(AA.getD c []).length):0<=BE AA c k/\BE AA c k<=9/\(2<(Ai AA c k).1->BE AA c k=0):=
 ⟨(B8 (h k hk)).2.2.1,(B8 (h k hk)).2.2.2.1,(B8 (h k hk)).2.2.2.2⟩
theorem Tn (AA:List (List Dd))(c:Nat):∀k:Nat,(BP c (AA.getD c []) (Ax AA c) k).2.length=10
 | 0=>by simp[BP]
 |k+1=>by
  have ih:=Tn AA c k;rw[BP,D7];split
  . exact ih
  ·
   show (C9 _ _ _).length=10;unfold C9;split
   . rw[List.length_set];exact ih
   . exact ih
theorem Xu {AA:List (List Dd)}{c:Nat}(hok:iI AA c){g:Nat}(h0:0<g)(h9:g<=9):∀k:Nat,k<=(AA.getD c []).length ->
  ((BP c (AA.getD c []) (Ax AA c) k).2.getD g 0=0/\∀j,j<k->BE AA c j≠g) \/
  ∃j,j<k/\BE AA c j=g/\(∀i,i<j->BE AA c i≠g)/\(BP c (AA.getD c []) (Ax AA c) k).2.getD g 0=(AZ AA c j:Int)
 | 0,_ => .inl ⟨by
   show (List.replicate 10 (0:Int)).getD g 0=0;rw[List.getD_eq_getElem?_getD,List.getElem?_replicate]
   split<;>rfl,fun j hj=>by omega⟩
 |k+1,hk=>by
  have ih:=Xu hok h0 h9 k (by omega);have hl:=Tn AA c k;have hd:=Xx hok (k:=k) (by omega);have hkk:=Bz (hok k (by omega));by_cases h4:(Ai AA c k).1=4
  ·
   have e:(BP c (AA.getD c []) (Ax AA c) (k+1)).2=(BP c (AA.getD c []) (Ax AA c) k).2:=by
    rw[BP,D7,if_pos h4]
   have hg:BE AA c k=0:=hd.2.2 (by omega);rw[e];rcases ih with ⟨h1,h2⟩|⟨j,h1,h2,h3,h5⟩
   ·
    refine .inl ⟨h1,fun j hj=>?_⟩;by_cases e:j=k
    . subst e;omega
    . exact h2 j (by omega)
   . exact .inr ⟨j,by omega,h2,h3,h5⟩
  ·
   have e:(BP c (AA.getD c []) (Ax AA c) (k+1)).2=C9 (BE AA c k) (AZ AA c k) (BP c (AA.getD c []) (Ax AA c) k).2:=by
    rw[BP,D7,if_neg h4];rfl
   rw[e];by_cases hg:BE AA c k=(g:Int)
   ·
    rcases ih with ⟨h1,h2⟩|⟨j,h1,h2,h3,h5⟩
    ·
     refine .inr ⟨k,by omega,hg,h2,?_⟩;unfold C9;rw[hg,Int.toNat_natCast,if_pos ⟨by omega,h1⟩,B7 _ _ _ _ (by omega),if_pos rfl]
    ·
     refine .inr ⟨j,by omega,h2,h3,?_⟩;have h6:=Hx AA c j;unfold C9;rw[hg,Int.toNat_natCast,if_neg (by rw[h5];omega)];exact h5
   ·
    have e2:(C9 (BE AA c k) (AZ AA c k) (BP c (AA.getD c []) (Ax AA c) k).2).getD g 0=(BP c (AA.getD c []) (Ax AA c) k).2.getD g 0:=by
     unfold C9;split
     ·
      rename_i hp;have hx:(BE AA c k).toNat<=9:=by have:=hd.2.1;omega
      rw[B7 _ _ _ _ (by omega),if_neg (by omega)]
     . rfl
    rw[e2];rcases ih with ⟨h1,h2⟩|⟨j,h1,h2,h3,h5⟩
    ·
     refine .inl ⟨h1,fun j hj=>?_⟩;by_cases e:j=k
     . subst e;exact hg
     . exact h2 j (by omega)
    . exact .inr ⟨j,by omega,h2,h3,h5⟩
theorem J1 {AA:List (List Dd)}{c k:Nat}(hok:iI AA c)(hk:k<(AA.getD c []).length)(h4:(Ai AA c k).1≠4):
  (BE AA c k=0/\Co AA c k=(AZ AA c k:Int))\/(BE AA c k≠0/\∃j,j<=k/\BE AA c j=BE AA c k/\(∀i,i<j->BE AA c i≠BE AA c k)/\Co AA c k=(AZ AA c j:Int)):=by
 have hd:=Xx hok hk;by_cases hg:BE AA c k=0
 ·
  refine .inl ⟨hg,?_⟩;unfold Co Cm;rw[if_neg (by have:(Ai AA c k).2.2.2=0:=hg;omega)]
 ·
  obtain⟨g,hgg⟩:=Int.eq_ofNat_of_zero_le hd.1;have hgg':BE AA c k=(g:Int):=hgg;have h9:g<=9:=by have:=hd.2.1;omega
  refine .inr ⟨hg,?_⟩;have h1:=Xu hok (g:=g) (by omega) h9 (k+1) hk
  have e:(BP c (AA.getD c []) (Ax AA c) (k+1)).2=C9 (BE AA c k) (AZ AA c k) (BP c (AA.getD c []) (Ax AA c) k).2:=by
   rw[BP,D7,if_neg h4];rfl
  rw[e] at h1;rcases h1 with ⟨_,h2⟩|⟨j,h1,h2,h3,h5⟩
  . exact absurd hgg' (h2 k (by omega))
  ·
   refine⟨j,by omega,by rw[hgg'];exact h2,fun i hi=>by rw[hgg'];exact h3 i hi,?_⟩;unfold Co Cm;rw[if_pos (by have:(Ai AA c k).2.2.2=(g:Int):=hgg';omega)];have hq:(Ai AA c k).2.2.2.toNat=g:=by have:(Ai AA c k).2.2.2=(g:Int):=hgg';omega
   rw[hq];exact h5
theorem LR {AA:List (List Dd)}{c c' k k':Nat}(hk:k<(AA.getD c []).length)(hk':k'<(AA.getD c' []).length)(h1:0<El (Ai AA c k))(h2:0<El (Ai AA c' k'))(e:AZ AA c k=AZ AA c' k'):c=c'/\k=k':=by
 by_cases hc:c<c'
 . have:=G4 (k':=k') hk (.inl hc);omega
 by_cases hc':c'<c
 . have:=G4 (k':=k) hk' (.inl hc');omega
 obtain rfl:c=c':=by omega
 refine⟨rfl,?_⟩;by_cases hkk:k<k'
 . have:=G4 (c':=c) (k':=k') hk (.inr ⟨rfl,hkk⟩);omega
 by_cases hkk':k'<k
 . have:=G4 (c':=c) (k':=k) hk' (.inr ⟨rfl,hkk'⟩);omega
 omega
theorem ER {AA:List (List Dd)}{c k:Nat}(hok:iI AA c)(hk:k<(AA.getD c []).length)(hg:BE AA c k≠0):(Ai AA c k).1≠4/\(Ai AA c k).1≠3/\0<El (Ai AA c k):=by
 have hd:=Xx hok hk;have hkk:=Bz (hok k hk);have h3:¬ 2<(Ai AA c k).1:=fun h=>hg (hd.2.2 h)
 refine⟨by omega,by omega,?_⟩;unfold El;rw[if_neg (by omega),if_neg (by omega)];omega
theorem Jk {d:Dd}(h:d.1≠4):0<El d:=by
 unfold El;rw[if_neg h];split<;>omega
theorem Hl {AA:List (List Dd)}{c c' k k':Nat}(hok:iI AA c)(hok':iI AA c')(hk:k<(AA.getD c []).length)(hk':k'<(AA.getD c' []).length)(h4:(Ai AA c k).1≠4)(h4':(Ai AA c' k').1≠4):
  Co AA c k=Co AA c' k'↔c=c'/\(k=k'\/(BE AA c k≠0/\BE AA c k=BE AA c' k')):=by
 constructor
 ·
  intro e;rcases J1 hok hk h4 with ⟨g1,e1⟩|⟨g1,j,j1,j2,j3,e1⟩
  ·
   rcases J1 hok' hk' h4' with ⟨g2,e2⟩|⟨g2,j',l1,l2,l3,e2⟩
   ·
    rw[e1,e2] at e;obtain⟨rfl,rfl⟩:=LR hk hk' (Jk h4) (Jk h4') (by omega);exact⟨rfl,.inl rfl⟩
   ·
    rw[e1,e2] at e;obtain⟨rfl,rfl⟩:=LR (k':=j') hk (by omega) (Jk h4) (ER (k:=j') hok' (by omega) (by rw[l2];exact g2)).2.2 (by omega);exact absurd (l2.symm.trans g1) g2
  ·
   rcases J1 hok' hk' h4' with ⟨g2,e2⟩|⟨g2,j',l1,l2,l3,e2⟩
   ·
    rw[e1,e2] at e;obtain⟨rfl,rfl⟩:=LR (k:=j) (by omega) hk' (ER (k:=j) hok (by omega) (by rw[j2];exact g1)).2.2 (Jk h4') (by omega);exact absurd (j2.symm.trans g2) g1
   ·
    rw[e1,e2] at e;obtain⟨rfl,rfl⟩:=LR (k:=j) (k':=j') (by omega) (by omega) (ER (k:=j) hok (by omega) (by rw[j2];exact g1)).2.2 (ER (k:=j') hok' (by omega) (by rw[l2];exact g2)).2.2 (by omega);exact⟨rfl,.inr ⟨g1,by rw[<-j2,l2]⟩⟩
 ·
  rintro⟨rfl,rfl|⟨g1,g2⟩⟩
  . rfl
  ·
   rcases J1 hok hk h4 with ⟨g0,_⟩|⟨_,j,j1,j2,j3,e1⟩
   . exact absurd g0 g1
   rcases J1 hok' hk' h4' with ⟨g0,_⟩|⟨_,j',l1,l2,l3,e2⟩
   . rw[g0] at g2;exact absurd g2 g1
   rw[e1,e2]
   have:j=j':=by
    by_cases a:j<j'
    . exact absurd (by rw[j2,g2]) (l3 j a)
    by_cases a':j'<j
    . exact absurd (by rw[l2,g2]) (j3 j' a')
    omega
   rw[this]
def LB (d:Dd)(i:Nat):Bool:=decide (d.1≠2)&&decide (i=0)
def WE (d:Dd)(i:Nat):Int:=if LB d i=true then 0 else d.2.2.1
theorem UH {c k:Nat}{d:Dd}{z:Int}(hd:d.1=1\/d.1=2\/d.1=3\/d.1=4){i:Nat}(hi:i<El d):(Cj c k d z)[i]? = some ((c:Int),(k:Int),LB d i,d.2.1,WE d i,z):=by
 unfold El at hi;unfold Cj WE LB;rcases hd with h|h|h|h
 ·
  rw[if_neg (by omega),if_neg (by omega)] at hi;rw[if_neg (by omega),if_neg (by omega),if_neg (by omega)];obtain rfl:i=0:=by omega
  simp[h]
 ·
  rw[if_neg (by omega),if_neg (by omega)] at hi;rw[if_neg (by omega),if_neg (by omega),if_pos h];obtain rfl:i=0:=by omega
  simp[h]
 ·
  rw[if_neg (by omega),if_pos h] at hi;rw[if_neg (by omega),if_pos h];rcases (by omega:i=0\/i=1) with rfl|rfl
  . simp[h]
  . simp
 ·
  rw[if_pos h] at hi;omega
structure Dm (AA:List (List Dd))(j c k i:Nat):Prop where
 hc:c<AA.length
 hk:k<(AA.getD c []).length
 hi:i<El (Ai AA c k)
 hj:j=AZ AA c k+i
theorem Dm.kind {AA:List (List Dd)}{j c k i:Nat}(h:Dm AA j c k i):(Ai AA c k).1≠4:=by
 intro e;have:=h.hi;unfold El at this;rw[if_pos e] at this;omega
theorem Fu {AA:List (List Dd)}(hb:AL AA=true){j:Nat}(h3:3<=j)(hj:j<(AB AA).length):∃c k i,Dm AA j c k i:=by
 rw[AB,if_pos hb] at hj;obtain⟨c,k,i,h1,h2,h4,h5⟩:=Xo AA h3 AA.length hj;exact⟨c,k,i,h1,h2,h4,h5⟩
theorem Dm.at {AA:List (List Dd)}(hb:AL AA=true){j c k i:Nat}(h:Dm AA j c k i):(AB AA).getD j zE=((c:Int),(k:Int),LB (Ai AA c k) i,(Ai AA c k).2.1,WE (Ai AA c k) i,Co AA c k):=by
 have hd:=Bz (Bu hb h.hc k h.hk);rw[AB,if_pos hb,List.getD_eq_getElem?_getD,h.hj,gF h.hc h.hk (UH hd h.hi)];rfl
theorem Dm.lt {AA:List (List Dd)}(hb:AL AA=true){j c k i:Nat}(h:Dm AA j c k i):3<=j/\j<(AB AA).length:=by
 have hd:=Bz (Bu hb h.hc k h.hk);have h1:=gF (n:=AA.length) h.hc h.hk (UH (z:=Co AA c k) (c:=c) (k:=k) hd h.hi);have h2:=Hx AA c k;rw[AB,if_pos hb,h.hj];exact⟨by omega,(List.getElem?_eq_some_iff.1 h1).1⟩
theorem Dm.ord {AA:List (List Dd)}{j c k i j' c' k' i':Nat}(h:Dm AA j c k i)(h':Dm AA j' c' k' i'):j<j'↔c<c'\/(c=c'/\(k<k'\/(k=k'/\i<i'))):=by
 have e1:=h.hj;have e2:=h'.hj;have l1:=h.hi;have l2:=h'.hi;constructor
 ·
  intro hlt;by_cases a:c<c'
  . exact .inl a
  by_cases b:c'<c
  . have:=G4 (k':=k) h'.hk (.inl b);omega
  obtain rfl:c=c':=by omega
  refine .inr ⟨rfl,?_⟩;by_cases a:k<k'
  . exact .inl a
  by_cases b:k'<k
  . have:=G4 (c':=c) (k':=k) h'.hk (.inr ⟨rfl,b⟩);omega
  obtain rfl:k=k':=by omega
  exact .inr ⟨rfl,by omega⟩
 ·
  rintro (a|⟨rfl,a|⟨rfl,a⟩⟩)
  . have:=G4 (k':=k') h.hk (.inl a);omega
  . have:=G4 (c':=c) (k':=k') h.hk (.inr ⟨rfl,a⟩);omega
  . omega
theorem Dm.one {AA:List (List Dd)}{j c k i c' k' i':Nat}(h:Dm AA j c k i)(h':Dm AA j c' k' i'):c=c'/\k=k'/\i=i':=by
 have a:=h.ord h';have b:=h'.ord h;by_cases hc:c=c'
 ·
  subst hc;by_cases hk:k=k'
  ·
   subst hk;exact⟨rfl,rfl,by have:=h.hj;have:=h'.hj;omega⟩
  ·
   by_cases hlt:k<k'
   . have:=a.2 (.inr ⟨rfl,.inl hlt⟩);omega
   . have:=b.2 (.inr ⟨rfl,.inl (by omega)⟩);omega
 ·
  by_cases hlt:c<c'
  . have:=a.2 (.inl hlt);omega
  . have:=b.2 (.inl (by omega));omega
theorem Kp {ds:List Dd}(ht:qh ds){j k:Nat}(hk:k<ds.length)(hg:(ds.getD k zD).2.2.2≠0)(e:(ds.getD j zD).2.2.2=(ds.getD k zD).2.2.2):∀m:Nat,j+m<k->(ds.getD (k-1-m) zD).2.2.2=(ds.getD k zD).2.2.2
 | 0,h=>ht k j hk (by omega) hg e
 |m+1,h=>by
  have ih:=Kp ht hk hg e m (by omega);have h2:=ht (k-1-m) j (by omega) (by omega) (by rw[ih];exact hg) (by rw[ih];exact e);rw[show k-1-(m+1)=k-1-m-1 by omega,h2,ih]
theorem Ka {AA:List (List Dd)}(hb:AL AA=true){c j k l:Nat}(hc:c<AA.length)(h1:j<=k)(h2:k<=l)(hl:l<(AA.getD c []).length)(hg:BE AA c l≠0)(e:BE AA c j=BE AA c l):BE AA c k=BE AA c l:=by
 by_cases a:k=l
 . rw[a]
 by_cases b:k=j
 . rw[b];exact e
 have:=Kp (Rh hb c hc) hl hg e (l-1-k) (by omega);rw[show l-1-(l-1-k)=k by omega] at this;exact this
def Mx (l:List Int)(n:Int):Bool:=l.any (·==n)
abbrev Nt:=Int×Int×Int
structure Bd where
 AM:List Int
 AO:List Int
 AJ:List (List Nt)
 AK:List Int
 sn:List Int
 fr:List Int
 rws:List (List Int)
def Ci (AA:List (List Dd)):Bd:=
 { AM:=[0,0,0],AO:=[0,1,2],AJ:=List.replicate AA.length [],AK:=List.replicate AA.length 0,sn:=List.replicate (AX Ae (AB AA)).length (-1),fr:=List.replicate (AX Ae (AB AA)).length (-1),rws:=[[0],[1],[2]] }
def Ck (b:Bd)(c p:Nat):Int×Int:=
 match (b.AJ.getD c []).reverse.find? (fun x=>x.1==(p:Int)) with
 |some x=>x.2
 |none=>(b.AM.getD p 0,b.AO.getD p 0)
def GI (rs:List Int)(ev v:Int)(l:List Int):List Int:=List.zipWith (fun r x=>if r=ev then v else x) rs l
def Ew (rs:List Int)(b:Bd)(ev v f:Int):Bd:={ b with sn:=GI rs ev v b.sn,fr:=GI rs ev f b.fr }
def Db (b:Bd)(p:Nat)(v ev:Int):Bd:={ b with AM:=b.AM.set p v,AO:=b.AO.set p ev,rws:=b.rws.set p (b.rws.getD p []++[ev]) }
def Jv (es:List Ev)(c k:Nat):Int:=
 match (List.range es.length).find? (fun i=>decide (3<=i)&&((es.getD i zE).1==(c:Int))&&((es.getD i zE).2.1==(k:Int))) with
 |some i=>(i:Int)
 |none=>-1
def BA (AA:List (List Dd))(es:List Ev)(b:Bd)(c k:Nat):Bd:=
 if (Ai AA c k).1=1 then Ew (AX Ae es) b (Jv es c k) (Ck b c (Ai AA c k).2.1.toNat).1 (Ck b c (Ai AA c k).2.1.toNat).2
 else if (Ai AA c k).1=3 then
  Db (Ew (AX Ae es) b (Jv es c k) (b.AM.getD (Ai AA c k).2.1.toNat 0) (b.AO.getD (Ai AA c k).2.1.toNat 0)) (Ai AA c k).2.1.toNat (Ai AA c k).2.2.1 (Jv es c k+1)
 else if (Ai AA c k).1=2/\0<BE AA c k then Db b (Ai AA c k).2.1.toNat (Ai AA c k).2.2.1 (Jv es c k)
 else if (Ai AA c k).1=2 then { b with AJ:=b.AJ.set c (b.AJ.getD c []++[((Ai AA c k).2.1,(Ai AA c k).2.2.1,Jv es c k)]) }
 else b
def Aj (b:Bd)(c:Nat):Nat:=(b.AK.getD c 0).toNat
def Ag (AA:List (List Dd))(es:List Ev)(b:Bd)(c:Nat):Bd:=
 { BA AA es b c (Aj b c) with AK:=b.AK.set c (b.AK.getD c 0+1) }
def EE (AA:List (List Dd))(es:List Ev)(g:Int)(c:Nat):Nat->Bd->Bd
 | 0,b=>b
 |m+1,b=>
  if g=0\/Aj (Ag AA es b c) c=(AA.getD c []).length\/BE AA c (Aj (Ag AA es b c) c)≠g then Ag AA es b c else EE AA es g c m (Ag AA es b c)
def BG (b:Bd)(c:Nat):Bd:=
 match b.AJ.getD c [] with
 | []=>b
 |x::r=>Db { b with AJ:=b.AJ.set c r } x.1.toNat x.2.1 x.2.2
def Ao (AA:List (List Dd))(es:List Ev)(b:Bd)(s:Int):Bd:=
 if 10<=s then BG b (s-10).toNat else EE AA es (BE AA s.toNat (Aj b s.toNat)) s.toNat (AA.getD s.toNat []).length b
def Bx (AA:List (List Dd))(b:Bd)(c:Nat):Bool:=
 decide (Aj b c<(AA.getD c []).length)&&((decide ((Ai AA c (Aj b c)).1<=2)&&decide (BE AA c (Aj b c)=0))||(b.AJ.getD c []).isEmpty)
def An (AA:List (List Dd))(b:Bd):List Int:=
 ((List.range AA.length).filter (Bx AA b)).map (fun c:Nat=>(c:Int))++((List.range AA.length).filter (fun c=>!(b.AJ.getD c []).isEmpty)).map (fun c:Nat=>10+(c:Int))
def DF (AA:List (List Dd))(b:Bd):Bool:=(List.range AA.length).all (fun c=>decide ((AA.getD c []).length<=Aj b c)&&(b.AJ.getD c []).isEmpty)
structure Rt where
 n:Nat
 ck:Nat->Int
 pl:Nat->Nat
 rd:Nat->Bool
 cs:Nat->Int
 ex:Nat->Nat->Bool
structure A6 where
 X:Nat->Prop
 N:Int->List Nat
 R:Nat->List Nat
 F:Nat->Nat
 τ:Nat->Nat
def A6.L (S:Rt)(s:A6)(c:Int)(p:Nat):List Nat:=s.R p++(s.N c).filter (fun x=>S.pl x==p)
def A6.D (S:Rt)(s:A6)(j:Nat):Prop:=s.X j/\j∉s.N (S.ck j)
def A6.v (S:Rt)(s:A6)(i:Nat):Nat:=if S.rd i=true then s.F i else i
abbrev Zd (L:List Nat)(x y:Nat):Prop:=[x,y].Sublist L
structure FE (S:Rt)(s:A6)(T:Nat)(z:Int):Prop where
 ES:∀j,j<3->s.X j/\S.rd j=false/\S.pl j=j/\S.ck j=-1/\s.τ j=0/\S.cs j=j
 lt:∀j,s.X j->j<S.n
 down:∀i j,s.X j->3<=i->i<j->S.ck i=S.ck j->s.X i
 note:∀c x,x∈s.N c->s.X x/\3<=x/\S.ck x=c/\S.rd x=false
 Kz:∀c,(s.N c).Pairwise (·<·)
 pend:∀c x j,x∈s.N c->s.X j->x<j->S.ck j=c->(S.rd j=true/\S.ex x j=true)\/j∈s.N c
 rows:∀p x,x∈s.R p↔s.D S x/\S.rd x=false/\S.pl x=p
 Ph:∀p,(s.R p).Nodup
 Sv:∀p,(s.R p).Pairwise (fun x y=>s.τ x<=s.τ y)
 NG:∀j,s.D S j->s.τ j<=T
 tpos:∀j,s.D S j->3<=j->1<=s.τ j
 same:∀i j,s.D S i->s.D S j->3<=i->3<=j->s.τ i=s.τ j->S.cs i=S.cs j
 PQ:∀i j,s.D S i->s.D S j->3<=i->3<=j->S.cs i=S.cs j->s.τ i=s.τ j
 now:∀i,s.D S i->3<=i->(s.τ i=T↔S.cs i=z)
 kept:∀i j,s.D S i->s.D S j->3<=i->i<j->S.ck i=S.ck j->S.cs i≠S.cs j->S.ex i j=false->s.τ i<s.τ j
 src:∀r,s.X r->S.rd r=true->s.X (s.F r)/\S.rd (s.F r)=false/\S.pl (s.F r)=S.pl r/\((3<=s.F r/\S.ck (s.F r)=S.ck r)\/(s.D S (s.F r)/\s.τ (s.F r)<=s.τ r))
 Lb:∀r w p,s.X r->S.rd r=true->Zd (s.R p) (s.F r) w->s.τ r<=s.τ w
 WM:∀i,s.X i->3<=i->s.v S i∈s.L S (S.ck i) (S.pl i)
 Z6:∀i j,s.X i->s.X j->3<=i->i<j->S.ck i=S.ck j->S.pl i=S.pl j->s.v S i=s.v S j\/Zd (s.L S (S.ck i) (S.pl i)) (s.v S i) (s.v S j)
 R9:∀i j,s.X i->s.X j->3<=i->i<j->S.ck i=S.ck j->S.pl i=S.pl j->S.rd i=true->S.rd j=false->s.F i≠j
structure mH (S:Rt)(s:A6)(j:Nat):Prop where
 three:3<=j
 lt:j<S.n
 new:¬s.X j
 all:∀i,3<=i->i<j->S.ck i=S.ck j->s.X i
 last:∀i,s.X i->3<=i->S.ck i=S.ck j->i<j
theorem TR {L:List Nat}{x y:Nat}(h:Zd L x y):x∈L/\y∈L:=⟨h.subset (by simp),h.subset (by simp)⟩
theorem Lf {L:List Nat}{x w:Nat}(h:x∈L):Zd (L++[w]) x w:=by
 have h1:[x].Sublist L:=List.singleton_sublist.2 h;exact h1.append (List.Sublist.refl [w])
theorem Ww {L:List Nat}{x y:Nat}(hn:(L++[x]).Nodup)(h:Zd (L++[x]) x y):False:=by
 have h2:¬x∈L:=by
  rw[List.nodup_append] at hn;intro hx;exact hn.2.2 x hx x (by simp) rfl
 obtain⟨l1,l2,e,s1,s2⟩:=List.sublist_append_iff.1 h
 cases l1 with
 |nil=>
  simp only[List.nil_append] at e;rw[<-e] at s2;have:=s2.length_le;simp at this
 |cons a l1=>
  simp only[List.cons_append,List.cons.injEq] at e;rw[<-e.1] at s1;exact h2 (s1.subset (by simp))
theorem JK {L:List Nat}{x y w:Nat}(h:Zd (L++[w]) x y)(hy:y≠w):Zd L x y:=by
 obtain⟨l1,l2,e,s1,s2⟩:=List.sublist_append_iff.1 h
 have hl2:l2=[]:=by
  cases l2 with
  |nil=>rfl
  |cons a l2=>
   have hl:=s2.length_le;simp at hl;subst hl;have ha:a=w:=by simpa using s2
   have:y=a:=by
    have:=congrArg List.getLast? e
    simpa using this
   exact absurd (this.trans ha) hy
 subst hl2;rw[List.append_nil] at e;rw[<-e] at s1;exact s1
theorem QN {L:List Nat}{x:Nat}(hx:x∈L){l:Nat}(hl:L.getLast? = some l):x=l\/Zd L x l:=by
 obtain⟨L',rfl⟩:=List.getLast?_eq_some_iff.1 hl;rw[List.mem_append] at hx;rcases hx with hx|hx
 . exact .inr (Lf hx)
 . exact .inl (by simpa using hx)
end Go.Proofs.YtflehmepjhikcaaGreatDoor
