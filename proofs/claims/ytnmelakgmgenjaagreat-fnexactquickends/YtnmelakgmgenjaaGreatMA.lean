/- Gathered texts. -/
import Derived.WalkKit
import Derived.ProofKit
import Derived.Laws.BitsAllLaws
import Derived.Laws.BitsLemmas
import Derived.Test.YtnmelakgmgenjaaGreatRows
import Derived.OpenShut
import Derived.Below
import Derived.WalkSmall
import Derived.Laws.Rows
import Derived.Laws.ResultCell
import Derived.Lib.IndexMore
import Derived.Lib.ParseIntB
import Derived.Lib.ItoaNum
set_option maxRecDepth 100000
set_option maxHeartbeats 8000000
namespace Go.Proofs.YtnmelakgmgenjaaGreat
open Go.ChangeShapes Go.WideShapes Go.ChangeAt Go.RowKit
open Go.RowKit
theorem BG {a b:Bool}(h:a=b):Ending.returned (.bool a) = .returned (.bool b):=by rw[h]
theorem RM {k:IntKind}{a b:Int}(h:a=b):Ending.returned (.int k a) = .returned (.int k b):=by rw[h]
theorem E0 (a:Nat)(ha:a<9223372036854775808):(BitVec.ofInt 64 (a:Int)).toNat=a:=ofInt_u64 a (by omega)
theorem Jc (a b:Nat)(ha:a<9223372036854775808)(hb:b<9223372036854775808):bits .or .i64 (a:Int) (b:Int)=((a ||| b:Nat):Int):=by
 have hx:a ||| b<2 ^ 63:=Nat.or_lt_two_pow (by omega) (by omega);show IntKind.i64.wrap ((BitVec.ofInt 64 (a:Int) ||| BitVec.ofInt 64 (b:Int)).toNat:Int)=_;rw[BitVec.toNat_or,E0 a ha,E0 b hb,IntKind.wrap_i64];omega
theorem MH (a b:Nat)(ha:a<9223372036854775808)(hb:b<9223372036854775808):bits .and .i64 (a:Int) (b:Int)=((a &&& b:Nat):Int):=by
 have hx:a &&& b<2 ^ 63:=Nat.and_lt_two_pow _ (by omega);show IntKind.i64.wrap ((BitVec.ofInt 64 (a:Int) &&& BitVec.ofInt 64 (b:Int)).toNat:Int)=_;rw[BitVec.toNat_and,E0 a ha,E0 b hb,IntKind.wrap_i64];omega
theorem TD (n:Nat)(h:n<=12):(2:Int) ^ n<=4096/\(1:Int)<=2 ^ n:=by
 have:n=0\/n=1\/n=2\/n=3\/n=4\/n=5\/n=6\/n=7\/n=8\/n=9\/n=10\/n=11\/n=12:=by omega
 rcases this with rfl|rfl|rfl|rfl|rfl|rfl|rfl|rfl|rfl|rfl|rfl|rfl|rfl<;>decide
theorem Dy (x:Int)(h1:-9223372036854775808<=x)(h2:x<=9223372036854775807):wrap64 x=x:=by
 simp only[wrap64];omega
theorem Ol (n:Int)(h0:0<=n)(h:n<=12):wrap64 (2 ^ n.toNat)=2 ^ n.toNat:=by
 have:=TD n.toNat (by omega);exact Dy _ (by omega) (by omega)
def Cx (x lo hi:Int):Bool:=decide (lo<=x/\x<=hi)
def JE (n s:Int):Bool:=decide ((0<=n/\n<=12)/\0<=s/\s<2 ^ n.toNat)
def jE (s i:Int):Bool:=bits .and .i64 (s / 2 ^ i.toNat) 1==1
def BW (s i:Int):Bool:=Cx i 0 11&&Cx s 0 4095&&jE s i
def y8 (s:Int):Nat->List Int
 | 0=>[]
 |k+1=>y8 s k++(if BW s k=true then [(k:Int)] else [])
def Fp (s i:Int):Int:=if s=-1\/Cx i 0 11=false then -1 else bits .or .i64 s (wrap64 (2 ^ i.toNat))
theorem Zw (s i:Int)(h:Cx i 0 11=false):Fp s i=-1:=by simp[Fp,h]
theorem Xk (i:Int):Fp (-1) i=-1:=by simp[Fp]
theorem jW (s i:Int)(h0:0<=s)(h:Cx i 0 11=true):Fp s i=bits .or .i64 s (wrap64 (2 ^ i.toNat)):=by
 have:¬s=-1:=by omega
 simp[Fp,h,this]
theorem GP (l:List Int)(k:Nat)(h:k<l.length):l.take (k+1)=l.take k++[l.getD k 0]:=by
 rw[List.take_succ_eq_append_getElem h,List.getD_eq_getElem?_getD,List.getElem?_eq_getElem h];rfl
def AC (w w':World):Prop:=Below w.heap.size w w'
theorem AC.refl (w:World):AC w w:=Below.refl _ _
theorem AC.size {w w':World}(h:AC w w'):w.heap.size<=w'.heap.size:=Below.size h
theorem AC.trans {a b c:World}(h:AC a b)(k:AC b c):AC a c:=Below.trans h (Below.mono k h.size)
theorem AC.drew {a w:World}(h:AC a w):AC a w.drew:=Below.drew h
theorem AC.drewN {a w:World}(h:AC a w)(n:Nat):AC a (w.drewN n):=below_drewN h n
theorem AC.alloc {a w:World}(h:AC a w)(o:Obj):AC a (w.alloc o):=Below.alloc h h.size o
theorem AC.grown {a w w':World}{row:Option Nat}(h:AC a w)(hg:w.grownBy w' row)(hr:∀k,row=some k->a.heap.size<=k):AC a w':=Below.grown h hg h.size hr
theorem AC.grownBy {w w':World}(h:AC w w'):w.grownBy w' none:=⟨Below.os h,Below.tape h,Below.output h,Below.size h,fun k hk _=>Below.block h k hk⟩
theorem AC.cell {w w':World}(h:AC w w'){b o:Nat}(hb:b<w.heap.size):w'.cell? ⟨b,o,none⟩=w.cell? ⟨b,o,none⟩:=Below.cell h hb
theorem Ce {a b c:World}{row:Option Nat}(h:a.grownBy b row)(k:b.grownBy c row):a.grownBy c row:=
 ⟨k.os.trans h.os,k.tape.trans h.tape,k.output.trans h.output,Nat.le_trans h.size k.size,fun i hi hne=>(k.block i (Nat.lt_of_lt_of_le hi h.size) hne).trans (h.block i hi hne)⟩
def Rd (w:World)(v:Value)(zs:List Int):Prop:=
 ∃(a:Option Addr) (cap:Nat),v = .slice a zs.length cap /\
  (zs=[]\/∃b off,a=some ⟨b,off,none⟩/\b<w.heap.size/\∀i,i<zs.length->w.cell? ⟨b,off+i,none⟩=some (.int .i64 (zs.getD i 0)))
theorem Rd.keep {w w':World}{v:Value}{zs:List Int}(h:Rd w v zs)(k:AC w w'):Rd w' v zs:=by
 obtain⟨a,cap,hv,h⟩:=h;refine⟨a,cap,hv,?_⟩;rcases h with h|⟨b,off,ha,hb,hc⟩
 . exact .inl h
 . exact .inr ⟨b,off,ha,Nat.lt_of_lt_of_le hb k.size,fun i hi=>(k.cell hb).trans (hc i hi)⟩
def BO (w:World)(base:Nat)(v:Value)(zs:List Int):Prop:=w.ownsRow base 2 1 v zs.length (zs.map (Value.int .i64))
theorem BO.kept {w w':World}{base:Nat}{v:Value}{zs:List Int}{row:Option Nat}(h:BO w base v zs)(hg:w.grownBy w' row)(hne:v.ownBlock=none\/v.ownBlock≠row):BO w' base v zs:=
 World.ownsRow.kept h hg hne
theorem BO.keep {w w':World}{base:Nat}{v:Value}{zs:List Int}(h:BO w base v zs)(k:AC w w'):BO w' base v zs:=
 BO.kept h k.grownBy (by cases v.ownBlock<;>simp)
theorem BO.rd {w:World}{base:Nat}{v:Value}{zs:List Int}(h:BO w base v zs):Rd w v zs:=by
 have hlt:=World.ownsRow.lt h;rcases h.2 with ⟨rfl,hn⟩|⟨g,cap,cur,rfl,hb,hg,rest⟩
 ·
  have:zs=[]:=List.eq_nil_of_length_eq_zero hn;subst this;exact⟨none,0,rfl,.inl rfl⟩
 ·
  refine⟨some ⟨g,0,none⟩,cap,rfl,.inr ⟨g,0,rfl,(hlt g rfl).2,fun i hi=>?_⟩⟩;have hc:=World.ownsRow.cellAt h i (by simpa using hi);rw[Nat.zero_add,hc,List.getElem?_map,List.getElem?_eq_getElem hi,List.getD_eq_getElem?_getD,List.getElem?_eq_getElem hi];rfl
theorem BO.BM {w:World}{base base':Nat}{v:Value}{zs:List Int}(h:BO w base v zs)(hb:base'<=base):BO w base' v zs:=by
 refine⟨h.1,?_⟩;rcases h.2 with h|⟨g,cap,cur,hv,hg,rest⟩
 . exact .inl h
 . exact .inr ⟨g,cap,cur,hv,Nat.le_trans hb hg,rest⟩
theorem BO.ge {w:World}{base:Nat}{v:Value}{zs:List Int}(h:BO w base v zs):∀k,v.ownBlock=some k->base<=k:=fun k hk=>(World.ownsRow.lt h k hk).1
theorem BO.apart {w w':World}{base:Nat}{v v':Value}{zs zs':List Int}(h:BO w base v zs)(h':BO w' w.heap.size v' zs'):v.ownBlock=none\/v.ownBlock≠v'.ownBlock:=by
 cases hv:v.ownBlock with
 |none=>exact .inl rfl
 |some k=>
  refine .inr fun e=>?_
  have h1:=(World.ownsRow.lt h k hv).2;have h2:=h'.ge k e.symm;omega
theorem EJ {w:World}{base:Nat}{v:Value}{zs:List Int}{x:Int}(h:w.ownsRow base 2 1 v (zs.length+1) (zs.map (Value.int .i64)++[.int .i64 x])):BO w base v (zs++[x]):=by
 unfold BO;simpa using h
theorem Tryz.GI:(Tryz.prog.info? 2).map (fun i=>(i.zero,i.size,i.bytes))=some (some (.int .i64 0),1,8):=by kernel_rfl
theorem Gn {α:Type}(f:Nat->α)(n i:Nat)(z:α)(h:i<n):((List.range n).map f).getD i z=f i:=by
 rw[List.getD_eq_getElem?_getD,List.getElem?_map,List.getElem?_range h];rfl
theorem Iu {b o i:Nat}:(⟨b,o,none⟩:Addr).add i=⟨b,o+i,none⟩:=by unfold Addr.add;split<;>simp_all
theorem R7 {w:World}{b o:Nat}{v:Value}(h:w.cell? ⟨b,o,none⟩=some v):b<w.heap.size:=by
 apply Classical.byContradiction;intro hn;have h3:w.heap[b]? = none:=by simp;omega
 simp[World.cell?,h3] at h
theorem B7 (w:World)(A:Obj)(i:Nat):(w.alloc A).heap[i]? = if i=w.heap.size then some A else w.heap[i]?:=Array.getElem?_push
theorem AD (w:World)(A:Obj):(w.alloc A).heap.size=w.heap.size+1:=Array.size_push _
theorem BL (w:World):w.drew.heap=w.heap:=rfl
theorem Hs {w w1:World}{o:Obj}(k:AC (w.alloc o) w1):w.heap.size<w1.heap.size:=by
 have:=k.size;rw[AD] at this;omega
theorem AZ {w w1:World}{cs:Array Value}{t:TypeId}(k:AC (w.alloc (.cells cs t)) w1)(i:Nat):w1.cell? ⟨w.heap.size,i,none⟩=cs[i]?:=by
 rw[k.cell (by rw[AD];omega),cell_of_row (w.alloc (.cells cs t)) w.heap.size i cs t (0,0) (heap_alloc_new w _)]
theorem Ci {w w1:World}{o:Obj}(k:AC (w.alloc o) w1):w1.heap[w.heap.size]? = some o:=
 (Below.block k w.heap.size (by rw[AD];omega)).trans (heap_alloc_new w o)
theorem CJ {P:Program}{fn:Func}{p:Tmp}{ty:TypeId}(h:fn.results=#[.cell p ty])(tmps:Array Value)(w:World)(g:Nat)(t:TypeId)(cs:Array Value)(fr:Nat×Nat)(d:TypeDesc)
  (hp:tmps.getD p undef = .pointer (some ⟨g,0,none⟩)) (hg:w.heap[g]? = some (.cells cs t fr))
  (hu:P.underlying ty=some d) (hd:(match d with | .struct _ | .array _ _=>true|_=>false)=true) (hi:(P.info? ty).map (·.size)=some cs.size):
  (results fn tmps).run P w = .ok (.agg cs) w:=results_cell_row h tmps w g t cs fr d hp hg hu hd hi
theorem BN {P:Program}{fn:Func}{p u:Tmp}{ty:TypeId}(h:fn.results=#[.cell p ty,.tmp u])(tmps:Array Value)(w:World)(g:Nat)(t:TypeId)(cs:Array Value)(fr:Nat×Nat)(d:TypeDesc)(v:Value)
  (hp:tmps.getD p undef = .pointer (some ⟨g,0,none⟩)) (hg:w.heap[g]? = some (.cells cs t fr)) (hv:tmps.getD u undef=v)
  (hu:P.underlying ty=some d) (hd:(match d with | .struct _ | .array _ _=>true|_=>false)=true) (hi:(P.info? ty).map (·.size)=some cs.size):
  (results fn tmps).run P w = .ok (.tuple #[.agg cs,v]) w:=by
 rw[results_cell_tmp h,hp,hv];simp[asAddr,run_loadVar_row w g t ty cs fr d hg hu hd hi,Result.andThen]
theorem RK {P:Program}{fn:Func}{p q:Tmp}{ty:TypeId}(h:fn.results=#[.cell p ty,.cell q ty])(tmps:Array Value)(w:World)(g g':Nat)(t t':TypeId)(cs cs':Array Value)(fr fr':Nat×Nat)(d:TypeDesc)
  (hp:tmps.getD p undef = .pointer (some ⟨g,0,none⟩)) (hg:w.heap[g]? = some (.cells cs t fr))
  (hq:tmps.getD q undef = .pointer (some ⟨g',0,none⟩)) (hg':w.heap[g']? = some (.cells cs' t' fr'))
  (hu:P.underlying ty=some d) (hd:(match d with | .struct _ | .array _ _=>true|_=>false)=true) (hi:(P.info? ty).map (·.size)=some cs.size) (hi':(P.info? ty).map (·.size)=some cs'.size):
  (results fn tmps).run P w = .ok (.tuple #[.agg cs,.agg cs']) w:=by
 have hp':tmps[p]?.getD undef = .pointer (some ⟨g,0,none⟩):=by simpa using hp
 have hq':tmps[q]?.getD undef = .pointer (some ⟨g',0,none⟩):=by simpa using hq
 simp[results,h,hp',hq',asAddr,run_loadVar_row w g t ty cs fr d hg hu hd hi,run_loadVar_row w g' t' ty cs' fr' d hg' hu hd hi']
def D2 (k p v g:Int):Bool:=
 decide ((1<=k/\k<=4)/\(0<=p/\p<=2)/\(0<=g/\g<=9)/\(k=4->p=0)/\(2<k->g=0)/\((k=2\/k=3)->1<=v/\v<=9)/\(¬(k=2\/k=3)->v=0))
abbrev Dd:=Int×Int×Int×Int
def zD:Dd:=(0,0,0,0)
def FW (d:Dd):Bool:=D2 d.1 d.2.1 d.2.2.1 d.2.2.2
def UV (d:Dd):Int:=if d.1=1 then 1 else if d.1=2 then 1 else if d.1=3 then 2 else 0
def PW (ds:List Dd):Nat->Int
 | 0=>0
 |k+1=>PW ds k+UV (ds.getD k zD)
def SQ (AA:List (List Dd)):Nat->Int
 | 0=>0
 |i+1=>SQ AA i+PW (AA.getD i []) (AA.getD i []).length
theorem pz (d:Dd):0<=UV d/\UV d<=2:=by
 unfold UV
 repeat' split
 all_goals omega
theorem Zq (ds:List Dd):∀k:Nat,0<=PW ds k/\PW ds k<=2*k
 | 0=>by simp[PW]
 |k+1=>by have:=Zq ds k;have:=pz (ds.getD k zD);rw[PW];omega
def Cn (i:Nat)(own:List Int)(ds:List Dd):Nat->Option (List Int)
 | 0=>some own
 |k+1=>match Cn i own ds k with
  |none=>none
  |some o=>
   if (ds.getD k zD).2.2.2=0 then some o
   else if o.getD (ds.getD k zD).2.2.2.toNat 0≠0/\(o.getD (ds.getD k zD).2.2.2.toNat 0≠(i:Int)+1\/k=0\/(ds.getD (k-1) zD).2.2.2≠(ds.getD k zD).2.2.2) then none
   else some (o.set (ds.getD k zD).2.2.2.toNat ((i:Int)+1))
def Ec (AA:List (List Dd)):Nat->Option (List Int)
 | 0=>some (List.replicate 10 0)
 |i+1=>match Ec AA i with
  |none=>none
  |some o=>Cn i o (AA.getD i []) (AA.getD i []).length
def KR (AA:List (List Dd)):Bool:=(Ec AA AA.length).isSome
def BF:List (List Dd)->Nat
 | []=>0
 |d::r=>d.length+BF r
def Fu (ds:List Dd):Bool:=ds.all FW&&decide (ds.length<=5)
def AO (AA:List (List Dd)):Bool:=
 decide (1<=AA.length/\AA.length<=3)&&AA.all Fu&&decide (BF AA<=12)&&decide (SQ AA AA.length<=6)&&KR AA
theorem La {i:Nat}{own:List Int}{ds:List Dd}{k:Nat}(h:Cn i own ds k=none):∀n:Nat,k<=n->Cn i own ds n=none
 | 0,hn=>by
  obtain rfl:k=0:=by omega
  exact h
 |n+1,hn=>by
  by_cases e:k=n+1
  . rw[<-e];exact h
  . rw[Cn,La h n (by omega)]
theorem Lb {AA:List (List Dd)}{i:Nat}(h:Ec AA i=none):∀n:Nat,i<=n->Ec AA n=none
 | 0,hn=>by
  obtain rfl:i=0:=by omega
  exact h
 |n+1,hn=>by
  by_cases e:i=n+1
  . rw[<-e];exact h
  . rw[Ec,Lb h n (by omega)]
theorem KT {i:Nat}{own:List Int}{ds:List Dd}:∀ {k:Nat} {o:List Int},Cn i own ds k=some o->o.length=own.length
 | 0,o,h=>by simp only[Cn,Option.some.injEq] at h;rw[<-h]
 |k+1,o,h=>by
  rw[Cn] at h;split at h
  . cases h
  ·
   rename_i o' ho';have ih:=KT ho';split at h
   . simp only[Option.some.injEq] at h;rw[<-h];exact ih
   ·
    split at h
    . cases h
    . simp only[Option.some.injEq] at h;rw[<-h,List.length_set];exact ih
theorem NU {AA:List (List Dd)}:∀ {i:Nat} {o:List Int},Ec AA i=some o->o.length=10
 | 0,o,h=>by simp only[Ec,Option.some.injEq] at h;rw[<-h];simp
 |i+1,o,h=>by
  rw[Ec] at h;split at h
  . cases h
  ·
   rename_i o' ho';rw[KT h];exact NU ho'
theorem Bo {α:Type}{f:α->Bool}{l:List α}(z:α)(h:l.all f=true)(i:Nat)(hi:i<l.length):f (l.getD i z)=true:=by
 rw[List.getD_eq_getElem?_getD,List.getElem?_eq_getElem hi];exact List.all_eq_true.1 h _ (List.getElem_mem hi)
theorem pR {α:Type}{f:α->Bool}{l:List α}(z:α)(h:∀i,i<l.length->f (l.getD i z)=true):l.all f=true:=by
 rw[List.all_eq_true];intro x hx;obtain⟨i,hi,rfl⟩:=List.getElem_of_mem hx;have:=h i hi
 rwa [List.getD_eq_getElem?_getD,List.getElem?_eq_getElem hi] at this
theorem QV {α:Type}{f:α->Bool}{l:List α}(z:α)(i:Nat)(hi:i<l.length)(h:f (l.getD i z)=false):l.all f=false:=by
 cases hb:l.all f
 . rfl
 . rw[Bo z hb i hi] at h;cases h
abbrev Ev:=Int×Int×Bool×Int×Int×Int
def zE:Ev:=(0,0,false,0,0,0)
def Zg (e:Ev):Int:=e.2.2.2.2.2
def CU:List Ev:=[(-1,-1,false,0,0,0),(-1,-1,false,1,0,1),(-1,-1,false,2,0,2)]
def Cr (i k:Nat)(d:Dd)(c:Int):List Ev:=
 if d.1=4 then [] else if d.1=3 then [((i:Int),(k:Int),true,d.2.1,0,c),((i:Int),(k:Int),false,d.2.1,d.2.2.1,c)]
 else if d.1=2 then [((i:Int),(k:Int),false,d.2.1,d.2.2.1,c)] else [((i:Int),(k:Int),true,d.2.1,0,c)]
def DJ (g:Int)(at0:Nat)(f:List Int):List Int:=if 0<g/\f.getD g.toNat 0=0 then f.set g.toNat (at0:Int) else f
def Cw (g:Int)(at0:Nat)(f:List Int):Int:=if 0<g then (DJ g at0 f).getD g.toNat 0 else (at0:Int)
def EU (i k:Nat)(d:Dd)(s:List Ev×List Int):List Ev×List Int:=
 if d.1=4 then s else (s.1++Cr i k d (Cw d.2.2.2 s.1.length s.2),DJ d.2.2.2 s.1.length s.2)
def Bh (i:Nat)(ds:List Dd)(out:List Ev):Nat->List Ev×List Int
 | 0=>(out,List.replicate 10 0)
 |k+1=>EU i k (ds.getD k zD) (Bh i ds out k)
def A8 (AA:List (List Dd)):Nat->List Ev
 | 0=>CU
 |i+1=>(Bh i (AA.getD i []) (A8 AA i) (AA.getD i []).length).1
def AB (AA:List (List Dd)):List Ev:=if AO AA=true then A8 AA AA.length else []
theorem cZ (i k:Nat)(d:Dd)(c:Int)(h:d.1=1\/d.1=2\/d.1=3\/d.1=4):((Cr i k d c).length:Int)=UV d:=by
 unfold Cr UV;rcases h with h|h|h|h<;>simp[h]
theorem CQ {d:Dd}(h:FW d=true):d.1=1\/d.1=2\/d.1=3\/d.1=4:=by
 simp[FW,D2] at h;omega
theorem Cd {d:Dd}(h:FW d=true):0<=d.2.1/\d.2.1<=2/\0<=d.2.2.2/\d.2.2.2<=9/\(2<d.1->d.2.2.2=0):=by
 simp[FW,D2] at h;omega
theorem SC {i:Nat}{ds:List Dd}{out:List Ev}(hok:∀j,j<ds.length->FW (ds.getD j zD)=true):∀k:Nat,k<=ds.length->((Bh i ds out k).1.length:Int)=out.length+PW ds k
 | 0,_=>by simp[Bh,PW]
 |k+1,h=>by
  have ih:=SC (i:=i) (out:=out) hok k (by omega);have hk:=CQ (hok k (by omega));rw[Bh,EU,PW];split
  ·
   rename_i h4;rw[ih];unfold UV;rw[h4];simp
  ·
   have:=cZ i k (ds.getD k zD) (Cw (ds.getD k zD).2.2.2 (Bh i ds out k).1.length (Bh i ds out k).2) hk;rw[List.length_append];omega
theorem KL {AA:List (List Dd)}(hok:∀i,i<AA.length->Fu (AA.getD i [])=true):∀n:Nat,n<=AA.length->((A8 AA n).length:Int)=3+SQ AA n
 | 0,_=>by simp[A8,CU,SQ]
 |n+1,h=>by
  have ih:=KL hok n (by omega);have hn:=hok n (by omega);simp only[Fu,Bool.and_eq_true,decide_eq_true_eq] at hn;rw[A8,SC (fun j hj=>Bo zD hn.1 j hj) _ (Nat.le_refl _),ih,SQ];omega
def JJ (AA:List (List Dd))(out:List Ev)(j:Nat):Prop:=
 ∃(i k c:Nat) (rd:Bool) (vl:Int),out[j]? = some ((i:Int),(k:Int),rd,((AA.getD i []).getD k zD).2.1,vl,(c:Int))/\i<AA.length/\k<(AA.getD i []).length /\
  (rd=true->vl=0)/\(rd=false->vl=((AA.getD i []).getD k zD).2.2.1)/\c<=j /\
  ∃(k':Nat) (rd':Bool) (pl' vl':Int),out[c]? = some ((i:Int),(k':Int),rd',pl',vl',(c:Int))/\k'<(AA.getD i []).length /\
   (c≠j->((AA.getD i []).getD k zD).1≠3->((AA.getD i []).getD k zD).2.2.2≠0/\((AA.getD i []).getD k' zD).2.2.2=((AA.getD i []).getD k zD).2.2.2)
theorem IY {α:Type}{l:List α}{j:Nat}{x:α}(t:List α)(h:l[j]? = some x):(l++t)[j]? = some x:=by
 rw[List.getElem?_append_left (List.getElem?_eq_some_iff.1 h).1];exact h
theorem JJ.more {AA:List (List Dd)}{out:List Ev}{j:Nat}(h:JJ AA out j)(t:List Ev):JJ AA (out++t) j:=by
 obtain⟨i,k,c,rd,vl,h1,h2,h3,h4,h5,h6,k',rd',pl',vl',g1,g2,g3⟩:=h;exact⟨i,k,c,rd,vl,IY t h1,h2,h3,h4,h5,h6,k',rd',pl',vl',IY t g1,g2,g3⟩
def Yu (AA:List (List Dd))(i:Nat)(out:List Ev)(f:List Int):Prop:=
 f.length=10/\∀g:Nat,0<g->g<10->f.getD g 0=0\/∃(c k':Nat) (rd':Bool) (pl' vl':Int),f.getD g 0=(c:Int)/\out[c]? = some ((i:Int),(k':Int),rd',pl',vl',(c:Int))/\k'<(AA.getD i []).length/\((AA.getD i []).getD k' zD).2.2.2=(g:Int)
theorem CZ (o:List Int)(g:Nat)(x:Int)(j:Nat)(hg:g<o.length):(o.set g x).getD j 0=if g=j then x else o.getD j 0:=by
 rw[List.getD_eq_getElem?_getD,List.getElem?_set];by_cases e:g=j
 . subst e;rw[if_pos rfl,if_pos hg,if_pos rfl];rfl
 . rw[if_neg e,if_neg e,List.getD_eq_getElem?_getD]
theorem N1 (i k:Nat)(d:Dd)(c:Int)(h4:d.1≠4):∃rd vl,(Cr i k d c)[0]? = some ((i:Int),(k:Int),rd,d.2.1,vl,c)/\(rd=true->vl=0)/\(rd=false->vl=d.2.2.1):=by
 unfold Cr;rw[if_neg h4];split
 . exact⟨true,0,rfl,by simp,by simp⟩
 ·
  split
  . exact⟨false,d.2.2.1,rfl,by simp,by simp⟩
  . exact⟨true,0,rfl,by simp,by simp⟩
theorem Yd {AA:List (List Dd)}{i k:Nat}{out:List Ev}{f:List Int}(hi:i<AA.length)(hk:k<(AA.getD i []).length)(hok:FW ((AA.getD i []).getD k zD)=true)
  (hG:∀j,3<=j->j<out.length->JJ AA out j) (hF:Yu AA i out f):
  (∀j,3<=j->j<(EU i k ((AA.getD i []).getD k zD) (out,f)).1.length->JJ AA (EU i k ((AA.getD i []).getD k zD) (out,f)).1 j)/\Yu AA i (EU i k ((AA.getD i []).getD k zD) (out,f)).1 (EU i k ((AA.getD i []).getD k zD) (out,f)).2:=by
 obtain⟨d,hd⟩:∃d,d=(AA.getD i []).getD k zD:=⟨_,rfl⟩;rw[<-hd] at hok ⊢;by_cases h4:d.1=4
 . rw[EU,if_pos h4];exact⟨hG,hF⟩
 rw[EU,if_neg h4];dsimp only;obtain⟨r0,r1,r2,r3,r4⟩:=Cd hok;obtain⟨g,hg⟩:=Int.eq_ofNat_of_zero_le r2;obtain⟨hl,hf⟩:=hF
 have hcls:∃(c k':Nat) (rd':Bool) (pl' vl':Int),Cw d.2.2.2 out.length f=(c:Int)/\c<=out.length/\(out++Cr i k d (Cw d.2.2.2 out.length f))[c]? = some ((i:Int),(k':Int),rd',pl',vl',(c:Int))/\k'<(AA.getD i []).length /\
   (c≠out.length->d.2.2.2≠0/\((AA.getD i []).getD k' zD).2.2.2=d.2.2.2)/\(c=out.length->k'=k):=by
  obtain⟨rd,vl,ho,_,_⟩:=N1 i k d (Cw d.2.2.2 out.length f) h4
  have new:Cw d.2.2.2 out.length f=(out.length:Int)->(out++Cr i k d (Cw d.2.2.2 out.length f))[out.length]? = some ((i:Int),(k:Int),rd,d.2.1,vl,((out.length:Nat):Int)):=fun e=>by
   rw[List.getElem?_append_right (Nat.le_refl _),Nat.sub_self,ho,e]
  by_cases hg0:g=0
  ·
   have e:Cw d.2.2.2 out.length f=(out.length:Int):=by unfold Cw;rw[hg,if_neg (by omega)]
   exact⟨out.length,k,rd,d.2.1,vl,e,Nat.le_refl _,new e,hk,fun h=>absurd rfl h,fun _=>rfl⟩
  ·
   have gp:(0:Int)<d.2.2.2:=by rw[hg];omega
   have g10:g<10:=by rw[hg] at r3;omega
   rcases hf g (by omega) g10 with h0|⟨c,k',rd',pl',vl',e1,e2,e3,e4⟩
   ·
    have e:Cw d.2.2.2 out.length f=(out.length:Int):=by
     unfold Cw DJ;rw[if_pos gp,hg,Int.toNat_natCast,if_pos ⟨by omega,h0⟩,CZ f g _ g (by omega),if_pos rfl]
    exact⟨out.length,k,rd,d.2.1,vl,e,Nat.le_refl _,new e,hk,fun h=>absurd rfl h,fun _=>rfl⟩
   ·
    have cl:c<out.length:=(List.getElem?_eq_some_iff.1 e2).1;by_cases hc0:(c:Int)=0
    ·
     have e:Cw d.2.2.2 out.length f=(out.length:Int):=by
      unfold Cw DJ;rw[if_pos gp,hg,Int.toNat_natCast,if_pos ⟨by omega,by rw[e1];exact hc0⟩,CZ f g _ g (by omega),if_pos rfl]
     exact⟨out.length,k,rd,d.2.1,vl,e,Nat.le_refl _,new e,hk,fun h=>absurd rfl h,fun _=>rfl⟩
    ·
     have e:Cw d.2.2.2 out.length f=(c:Int):=by
      unfold Cw DJ;rw[if_pos gp,hg,Int.toNat_natCast,if_neg (by rw[e1];omega),e1]
     exact⟨c,k',rd',pl',vl',e,by omega,IY _ e2,e3,fun _=>⟨by omega,by rw[e4,hg]⟩,fun h=>by omega⟩
 obtain⟨c,k',rd',pl',vl',hc,hcl,hce,hk',hcg,hcn⟩:=hcls;rw[hc] at hce ⊢;refine⟨fun j hj3 hj=>?_,?_⟩
 ·
  by_cases hold:j<out.length
  . exact (hG j hj3 hold).more _
  ·
   have e1:(out++Cr i k d (c:Int))[j]? = (Cr i k d (c:Int))[j-out.length]?:=List.getElem?_append_right (by omega);have hjl:j-out.length<(Cr i k d (c:Int)).length:=by rw[List.length_append] at hj;omega
   have form:∃rd vl,(Cr i k d (c:Int))[j-out.length]? = some ((i:Int),(k:Int),rd,d.2.1,vl,(c:Int))/\(rd=true->vl=0)/\(rd=false->vl=d.2.2.1)/\(j≠out.length->d.1=3):=by
    by_cases hz:j-out.length=0
    ·
     obtain⟨rd,vl,ho,h5,h6⟩:=N1 i k d (c:Int) h4;exact⟨rd,vl,by rw[hz];exact ho,h5,h6,fun h=>by omega⟩
    ·
     unfold Cr at hjl ⊢;rw[if_neg h4] at hjl ⊢;split at hjl
     ·
      rename_i h3;rw[if_pos h3];have:j-out.length=1:=by simp at hjl;omega
      rw[this];exact⟨false,d.2.2.1,rfl,by simp,by simp,fun _=>h3⟩
     ·
      split at hjl
      . simp at hjl;omega
      . simp at hjl;omega
   obtain⟨rd,vl,h1,h5,h6,h7⟩:=form;refine⟨i,k,c,rd,vl,by rw[e1,<-hd];exact h1,hi,hk,h5,by rw[<-hd];exact h6,by omega,k',rd',pl',vl',hce,hk',fun hcj h3=>?_⟩;rw[<-hd] at h3 ⊢
   have:j=out.length:=by
    apply Classical.byContradiction;intro hne;exact h3 (h7 hne)
   exact hcg (by omega)
 ·
  refine⟨by unfold DJ;split<;>simp[hl],fun q hq0 hq=>?_⟩
  have Vu:f.getD q 0=0\/∃(c' k'':Nat) (rd'':Bool) (pl'' vl'':Int),f.getD q 0=(c':Int)/\(out++Cr i k d (c:Int))[c']? = some ((i:Int),(k'':Int),rd'',pl'',vl'',(c':Int))/\k''<(AA.getD i []).length/\((AA.getD i []).getD k'' zD).2.2.2=(q:Int):=by
   rcases hf q hq0 hq with h0|⟨c',k'',rd'',pl'',vl'',e1,e2,e3,e4⟩
   . exact .inl h0
   . exact .inr ⟨c',k'',rd'',pl'',vl'',e1,IY _ e2,e3,e4⟩
  unfold DJ;split
  ·
   rename_i hcond;rw[hg,Int.toNat_natCast] at hcond ⊢;rw[CZ f g _ q (by rw[hg] at r3;omega)];by_cases e:g=q
   ·
    subst e;rw[if_pos rfl];right
    have ec:c=out.length:=by
     have:Cw d.2.2.2 out.length f=(out.length:Int):=by
      unfold Cw DJ;rw[if_pos (by rw[hg];exact hcond.1),hg,Int.toNat_natCast,if_pos hcond,CZ f g _ g (by rw[hg] at r3;omega),if_pos rfl]
     omega
    have ek:=hcn ec;subst ek;refine⟨out.length,k',rd',pl',vl',rfl,?_,hk',by rw[<-hd,hg]⟩;rw[ec] at hce;rw[ec];exact hce
   . rw[if_neg e];exact Vu
  . exact Vu
theorem SD {AA:List (List Dd)}{i:Nat}{out:List Ev}(hi:i<AA.length)(hok:∀j,j<(AA.getD i []).length->FW ((AA.getD i []).getD j zD)=true)(hG:∀j,3<=j->j<out.length->JJ AA out j):
  ∀k:Nat,k<=(AA.getD i []).length->(∃t,(Bh i (AA.getD i []) out k).1=out++t)/\(∀j,3<=j->j<(Bh i (AA.getD i []) out k).1.length->JJ AA (Bh i (AA.getD i []) out k).1 j)/\Yu AA i (Bh i (AA.getD i []) out k).1 (Bh i (AA.getD i []) out k).2
 | 0,_=>⟨⟨[],by simp[Bh]⟩,hG,by simp[Bh],fun g _ hg => .inl (by simp only[Bh];rw[List.getD_eq_getElem?_getD,List.getElem?_replicate,if_pos hg];rfl)⟩
 |k+1,h=>by
  obtain⟨⟨t,ht⟩,h2,h3⟩:=SD hi hok hG k (by omega);have:=Yd (k:=k) hi (by omega) (hok k (by omega)) h2 h3;refine⟨?_,this⟩;rw[Bh,EU];split
  . exact⟨t,ht⟩
  . exact⟨t++Cr i k ((AA.getD i []).getD k zD) (Cw ((AA.getD i []).getD k zD).2.2.2 (Bh i (AA.getD i []) out k).1.length (Bh i (AA.getD i []) out k).2),by simp only;rw[ht,List.append_assoc]⟩
theorem KM {AA:List (List Dd)}(hok:∀i,i<AA.length->Fu (AA.getD i [])=true):∀n:Nat,n<=AA.length->(∃t,A8 AA n=CU++t)/\∀j,3<=j->j<(A8 AA n).length->JJ AA (A8 AA n) j
 | 0,_=>⟨⟨[],by simp[A8]⟩,fun j h1 h2=>by simp[A8,CU] at h2;omega⟩
 |n+1,h=>by
  obtain⟨⟨t,ht⟩,h2⟩:=KM hok n (by omega);have hn:=hok n (by omega);simp only[Fu,Bool.and_eq_true,decide_eq_true_eq] at hn;obtain⟨⟨t2,ht2⟩,h3,_⟩:=SD (i:=n) (out:=A8 AA n) (by omega) (fun j hj=>Bo zD hn.1 j hj) h2 (AA.getD n []).length (Nat.le_refl _);rw[A8];exact⟨⟨t++t2,by rw[ht2,ht,List.append_assoc]⟩,h3⟩
def Ad (e:Ev):Bool:=e.2.2.1
def Ju (p:Int)(e:Ev):Bool:=!e.2.2.1&&(e.2.2.2.1==p)
def BZ (f:Ev->Bool)(l:List Ev):Nat->List Int
 | 0=>[]
 |k+1=>if f (l.getD k zE)=true then BZ f l k++[(k:Int)] else BZ f l k
def AV (f:Ev->Bool)(l:List Ev):List Int:=if l.length<=12 then BZ f l l.length else []
def uy (l:List Ev):List Int:=if l.length<=12 then l.map Zg else []
theorem C9 (f:Ev->Bool)(l:List Ev):∀k:Nat,(BZ f l k).length<=k
 | 0=>by simp[BZ]
 |k+1=>by
  have ih:=C9 f l k;rw[BZ];split
  . simp;omega
  . omega
theorem EG (f:Ev->Bool)(l:List Ev):∀(k:Nat) (x:Int),x∈BZ f l k->0<=x/\x<(k:Int)
 | 0,x,h=>by simp[BZ] at h
 |k+1,x,h=>by
  rw[BZ] at h;split at h
  ·
   rcases List.mem_append.1 h with h|h
   . have:=EG f l k x h;omega
   . simp at h;omega
  . have:=EG f l k x h;omega
theorem GZ (f:Ev->Bool)(l:List Ev):∀k:Nat,(BZ f l k).Pairwise (·<·)
 | 0=>by simp[BZ]
 |k+1=>by
  have ih:=GZ f l k;rw[BZ];split
  ·
   rw[List.pairwise_append];refine⟨ih,by simp,fun a ha b hb=>?_⟩;simp at hb;have:=EG f l k a ha;omega
  . exact ih
theorem Nf (f:Ev->Bool)(l:List Ev)(k:Nat):∀n:Nat,k<=n->∃t,BZ f l n=BZ f l k++t
 | 0,h=>by
  obtain rfl:k=0:=by omega
  exact⟨[],by simp⟩
 |n+1,h=>by
  by_cases e:k=n+1
  . subst e;exact⟨[],by simp⟩
  ·
   obtain⟨t,ht⟩:=Nf f l k n (by omega);rw[BZ];split
   . exact⟨t++[(n:Int)],by rw[ht,List.append_assoc]⟩
   . exact⟨t,ht⟩
theorem Vs {l:List Ev}:∀k:Nat,(∀j,j<k->0<=(l.getD j zE).2.2.2.1/\(l.getD j zE).2.2.2.1<=2)->(BZ Ad l k).length+(BZ (Ju 0) l k).length+(BZ (Ju 1) l k).length+(BZ (Ju 2) l k).length=k
 | 0,_=>by simp[BZ]
 |k+1,h=>by
  have ih:=Vs (l:=l) k (fun j hj=>h j (by omega));have hp:=h k (by omega);obtain⟨e,he⟩:∃e,e=l.getD k zE:=⟨_,rfl⟩;rw[<-he] at hp;simp only[BZ,<-he];clear he;obtain⟨a,b,r,p,v,c⟩:=e;simp only at hp;cases r
  ·
   have hr:Ad (a,b,false,p,v,c)=false:=rfl;have:p=0\/p=1\/p=2:=by omega
   rcases this with rfl|rfl|rfl
   ·
    have t0:Ju 0 (a,b,false,0,v,c)=true:=rfl;have t1:Ju 1 (a,b,false,0,v,c)=false:=rfl;have t2:Ju 2 (a,b,false,0,v,c)=false:=rfl;simp only[hr,t0,t1,t2,if_true,Bool.false_eq_true,if_false,List.length_append,List.length_cons,List.length_nil];omega
   ·
    have t0:Ju 0 (a,b,false,1,v,c)=false:=rfl;have t1:Ju 1 (a,b,false,1,v,c)=true:=rfl;have t2:Ju 2 (a,b,false,1,v,c)=false:=rfl;simp only[hr,t0,t1,t2,if_true,Bool.false_eq_true,if_false,List.length_append,List.length_cons,List.length_nil];omega
   ·
    have t0:Ju 0 (a,b,false,2,v,c)=false:=rfl;have t1:Ju 1 (a,b,false,2,v,c)=false:=rfl;have t2:Ju 2 (a,b,false,2,v,c)=true:=rfl;simp only[hr,t0,t1,t2,if_true,Bool.false_eq_true,if_false,List.length_append,List.length_cons,List.length_nil];omega
  ·
   have hr:Ad (a,b,true,p,v,c)=true:=rfl;have t:∀q,Ju q (a,b,true,p,v,c)=false:=fun _=>rfl
   simp only[hr,t,if_true,Bool.false_eq_true,if_false,List.length_append,List.length_cons,List.length_nil];omega
theorem Me {l t:List Ev}(h:l=CU++t):l.getD 0 zE=(-1,-1,false,0,0,0)/\l.getD 1 zE=(-1,-1,false,1,0,1)/\l.getD 2 zE=(-1,-1,false,2,0,2):=by
 subst h;exact⟨rfl,rfl,rfl⟩
theorem Xp {l t:List Ev}(h:l=CU++t)(p:Nat)(hp:p<3):∃r,BZ (Ju (p:Int)) l l.length=(p:Int)::r:=by
 obtain⟨h0,h1,h2⟩:=Me h;have hl:3<=l.length:=by rw[h];simp[CU]
 obtain⟨r,hr⟩:=Nf (Ju (p:Int)) l 3 l.length hl
 have e:∃q,BZ (Ju (p:Int)) l 3=(p:Int)::q:=by
  have:p=0\/p=1\/p=2:=by omega
  simp only[BZ,h0,h1,h2,Ju];rcases this with rfl|rfl|rfl
  . exact⟨[],by simp⟩
  . exact⟨[],by simp⟩
  . exact⟨[],by simp⟩
 obtain⟨q,hq⟩:=e;exact⟨q++r,by rw[hr,hq];rfl⟩
theorem NS {AA:List (List Dd)}{out:List Ev}{j:Nat}(hok:∀i,i<AA.length->Fu (AA.getD i [])=true)(h:JJ AA out j):0<=(out.getD j zE).2.2.2.1/\(out.getD j zE).2.2.2.1<=2:=by
 obtain⟨i,k,c,rd,vl,h1,h2,h3,_⟩:=h;have hi:=hok i h2;simp only[Fu,Bool.and_eq_true,decide_eq_true_eq] at hi;have:=Cd (Bo zD hi.1 k h3);rw[List.getD_eq_getElem?_getD,h1];exact⟨this.1,this.2.1⟩
theorem Ja {AA:List (List Dd)}(h:AO AA=true):(A8 AA AA.length).length<=12/\((A8 AA AA.length).length:Int)=3+SQ AA AA.length /\
  (BZ Ad (A8 AA AA.length) (A8 AA AA.length).length).length+(BZ (Ju 0) (A8 AA AA.length) (A8 AA AA.length).length).length+(BZ (Ju 1) (A8 AA AA.length) (A8 AA AA.length).length).length+(BZ (Ju 2) (A8 AA AA.length) (A8 AA AA.length).length).length=(A8 AA AA.length).length /\
  (∀p:Nat,p<3->∃r,BZ (Ju (p:Int)) (A8 AA AA.length) (A8 AA AA.length).length=(p:Int)::r)/\∀j,3<=j->j<(A8 AA AA.length).length->JJ AA (A8 AA AA.length) j:=by
 simp only[AO,Bool.and_eq_true,decide_eq_true_eq] at h;obtain⟨⟨⟨⟨h1,h2⟩,h3⟩,h4⟩,_⟩:=h;have hok:∀i,i<AA.length->Fu (AA.getD i [])=true:=fun i hi=>Bo [] h2 i hi
 have hl:=KL hok AA.length (Nat.le_refl _);obtain⟨⟨t,ht⟩,hg⟩:=KM hok AA.length (Nat.le_refl _);refine⟨by omega,hl,Vs _ (fun j hj=>?_),fun p hp=>Xp ht p hp,hg⟩;by_cases hj3:3<=j
 . exact NS hok (hg j hj3 hj)
 ·
  obtain⟨b0,b1,b2⟩:=Me ht;have:j=0\/j=1\/j=2:=by omega
  rcases this with rfl|rfl|rfl
  . rw[b0];decide
  . rw[b1];decide
  . rw[b2];decide
def GX (ds:List Dd)(k:Nat):Bool:=decide (0<k)&&((ds.getD k zD).2.2.2 != 0)&&((ds.getD k zD).2.2.2==(ds.getD (k-1) zD).2.2.2)
def Nn (out:List Ev):Int:=Zg (out.getD (out.length-1) zE)
def Oo (out:List Ev)(go:Bool):Int:=if go=true then Nn out else (out.length:Int)
def LS (i:Nat)(ds:List Dd)(out:List Ev):Nat->List Ev
 | 0=>out
 |k+1=>LS i ds out k++Cr i k (ds.getD k zD) (Oo (LS i ds out k) (GX ds k))
def UX (AA:List (List Dd)):Nat->List Ev
 | 0=>CU
 |i+1=>LS i (AA.getD i []) (UX AA i) (AA.getD i []).length
def yO (ds:List Dd):Prop:=∀k j,k<ds.length->j<k->(ds.getD k zD).2.2.2≠0->(ds.getD j zD).2.2.2=(ds.getD k zD).2.2.2->(ds.getD (k-1) zD).2.2.2=(ds.getD k zD).2.2.2
theorem Sa {i:Nat}{own:List Int}{ds:List Dd}(hl:own.length=10):∀(k:Nat) (o:List Int),Cn i own ds k=some o->(∀j,j<k->FW (ds.getD j zD)=true) ->
  ∀j,j<k->(ds.getD j zD).2.2.2≠0->o.getD (ds.getD j zD).2.2.2.toNat 0=(i:Int)+1
 | 0,o,h,_,j,hj,_=>by omega
 |k+1,o',h,hok,j,hj,h0=>by
  rw[Cn] at h
  cases hq:Cn i own ds k with
  |none=>rw[hq] at h;cases h
  |some o=>
   rw[hq] at h;have ih:=Sa hl k o hq (fun j hj=>hok j (by omega));have hol:=KT hq;simp only at h;have okj:=Cd (hok j hj);split at h
   ·
    rename_i hz;simp only[Option.some.injEq] at h;subst h;by_cases e:j=k
    . subst e;exact absurd hz h0
    . exact ih j (by omega) h0
   ·
    rename_i hz;split at h
    . cases h
    ·
     simp only[Option.some.injEq] at h;subst h;have Mp:=Cd (hok k (by omega));rw[CZ o _ _ _ (by omega)];by_cases e:(ds.getD k zD).2.2.2.toNat=(ds.getD j zD).2.2.2.toNat
     . rw[if_pos e]
     ·
      rw[if_neg e];by_cases e2:j=k
      . subst e2;exact absurd rfl e
      . exact ih j (by omega) h0
theorem Z5 {i:Nat}{own:List Int}{ds:List Dd}(hl:own.length=10){o:List Int}(h:Cn i own ds ds.length=some o)(hok:∀j,j<ds.length->FW (ds.getD j zD)=true):yO ds:=by
 intro k j hk hj h0 he
 have step:∃o',Cn i own ds (k+1)=some o':=by
  cases hq:Cn i own ds (k+1) with
  |none=>rw[La hq ds.length (by omega)] at h;cases h
  |some o'=>exact⟨o',rfl⟩
 obtain⟨o',ho'⟩:=step;rw[Cn] at ho'
 cases hq:Cn i own ds k with
 |none=>rw[hq] at ho';cases ho'
 |some o1=>
  rw[hq] at ho';have hown:=Sa hl k o1 hq (fun j hj=>hok j (by omega)) j hj (by rw[he];exact h0);rw[he] at hown;simp only at ho';rw[if_neg h0] at ho';split at ho'
  . cases ho'
  ·
   rename_i hn;apply Classical.byContradiction;intro hc;exact hn ⟨by rw[hown];omega,.inr (.inr hc)⟩
theorem Tr {AA:List (List Dd)}(hb:AO AA=true):∀i,i<AA.length->yO (AA.getD i []):=by
 intro i hi;simp only[AO,Bool.and_eq_true,decide_eq_true_eq] at hb;obtain⟨⟨⟨⟨_,h2⟩,_⟩,_⟩,hg⟩:=hb;have hok:=Bo [] h2 i hi;simp only[Fu,Bool.and_eq_true,decide_eq_true_eq] at hok
 have hs:∀n,n<=AA.length->∃o,Ec AA n=some o:=by
  intro n hn
  cases hq:Ec AA n with
  |none=>rw[KR,Lb hq AA.length hn] at hg;cases hg
  |some o=>exact⟨o,rfl⟩
 obtain⟨o,ho⟩:=hs i (by omega);obtain⟨o',ho'⟩:=hs (i+1) (by omega);rw[Ec,ho] at ho';exact Z5 (NU ho) ho' (fun j hj=>Bo zD hok.1 j hj)
theorem Xu (out t:List Ev)(e:Ev):Nn (out++(t++[e]))=Zg e:=by
 unfold Nn;rw[<-List.append_assoc,List.length_append,List.getD_eq_getElem?_getD];simp
theorem PQ {i:Nat}{ds:List Dd}{out:List Ev}(ht:yO ds)(hok:∀j,j<ds.length->FW (ds.getD j zD)=true)(ho:1<=out.length):
  ∀k:Nat,k<=ds.length->LS i ds out k=(Bh i ds out k).1/\(Bh i ds out k).2.length=10/\1<=(Bh i ds out k).1.length /\
   (∀g:Nat,0<g->g<10->(∀j,j<k->(ds.getD j zD).2.2.2≠(g:Int))->(Bh i ds out k).2.getD g 0=0) /\
   (∀j,j<k->(ds.getD j zD).2.2.2≠0->(Bh i ds out k).2.getD (ds.getD j zD).2.2.2.toNat 0≠0) /\
   (0<k->(ds.getD (k-1) zD).2.2.2≠0->(Bh i ds out k).2.getD (ds.getD (k-1) zD).2.2.2.toNat 0=Nn (Bh i ds out k).1)
 | 0,_=>⟨rfl,by simp[Bh],ho,fun g _ hg _=>by simp only[Bh];rw[List.getD_eq_getElem?_getD,List.getElem?_replicate,if_pos hg];rfl,fun j hj=>by omega,fun h=>by omega⟩
 |k+1,hk=>by
  obtain⟨h1,h2,h3,h4,h5,h6⟩:=PQ ht hok ho k (by omega);have hd:=hok k (by omega);obtain⟨r0,r1,r2,r3,r4⟩:=Cd hd;have hkd:=CQ hd;rw[LS,Bh,h1,Nat.add_sub_cancel];generalize hS:Bh i ds out k=S at h2 h3 h4 h5 h6;obtain⟨L,f⟩:=S;simp only at h2 h3 h4 h5 h6;generalize hdd:ds.getD k zD=d at hd r0 r1 r2 r3 r4 hkd;have hg:GX ds k=(decide (0<k)&&(d.2.2.2 != 0)&&(d.2.2.2==(ds.getD (k-1) zD).2.2.2)):=by rw[GX,hdd]
  have old5:∀j,j<k->(ds.getD j zD).2.2.2≠0->(ds.getD j zD).2.2.2.toNat<10:=fun j hj _=>by
   have:=Cd (hok j (by omega));omega
  by_cases vM:d.1=4
  ·
   have g0:d.2.2.2=0:=r4 (by omega);have e1:Cr i k d (Oo L (GX ds k))=[]:=by unfold Cr;rw[if_pos vM]
   rw[EU,if_pos vM,e1,List.append_nil];refine⟨rfl,h2,h3,fun g hg0 hg10 hn=>h4 g hg0 hg10 (fun j hj=>hn j (by omega)),fun j hj hne=>?_,fun _ hne=>absurd g0 hne⟩;by_cases e:j=k
   . subst e;rw[hdd] at hne;exact absurd g0 hne
   . exact h5 j (by omega) hne
  ·
   rw[EU,if_neg vM];by_cases g0:d.2.2.2=0
   ·
    have e1:Oo L (GX ds k)=Cw d.2.2.2 L.length f:=by
     rw[hg,g0];simp[Oo,Cw]
    have e2:DJ d.2.2.2 L.length f=f:=by unfold DJ;rw[if_neg (by rw[g0];omega)]
    rw[e1];simp only;rw[e2];refine⟨by trivial,h2,by rw[List.length_append];omega,fun g hg0 hg10 hn=>h4 g hg0 hg10 (fun j hj=>hn j (by omega)),fun j hj hne=>?_,fun _ hne=>absurd g0 hne⟩;by_cases e:j=k
    . subst e;rw[hdd] at hne;exact absurd g0 hne
    . exact h5 j (by omega) hne
   ·
    have gp:(0:Int)<d.2.2.2:=by omega
    have k2:d.1=1\/d.1=2:=by
     apply Classical.byContradiction;intro hn;exact g0 (r4 (by omega))
    have one:∀c,∃e,Cr i k d c=[e]/\Zg e=c:=by
     intro c;unfold Cr;rcases k2 with e|e
     . exact⟨_,by rw[if_neg vM,if_neg (by omega),if_neg (by omega)],rfl⟩
     . exact⟨_,by rw[if_neg vM,if_neg (by omega),if_pos e],rfl⟩
    have fin:∀c,Nn (L++Cr i k d c)=c:=fun c=>by
     obtain⟨e,he,hc⟩:=one c;rw[he,<-hc];exact Xu L [] e
    by_cases hgo:0<k/\(ds.getD (k-1) zD).2.2.2=d.2.2.2
    ·
     obtain⟨k0,hgo⟩:=hgo;have e0:GX ds k=true:=by rw[hg,hgo];simp[k0,g0]
     have f0:f.getD d.2.2.2.toNat 0≠0:=by have:=h5 (k-1) (by omega) (by rw[hgo];exact g0);rw[hgo] at this;exact this
     have f1:f.getD d.2.2.2.toNat 0=Nn L:=by have:=h6 k0 (by rw[hgo];exact g0);rw[hgo] at this;exact this
     have e2:DJ d.2.2.2 L.length f=f:=by unfold DJ;rw[if_neg (fun h=>f0 h.2)]
     have e1:Oo L (GX ds k)=Cw d.2.2.2 L.length f:=by
      rw[e0];unfold Oo Cw;rw[if_pos rfl,if_pos gp,e2,f1]
     have e3:Cw d.2.2.2 L.length f=f.getD d.2.2.2.toNat 0:=by unfold Cw;rw[if_pos gp,e2]
     rw[e1];simp only;rw[e2];refine⟨by trivial,h2,by rw[List.length_append];omega,fun g hg0 hg10 hn=>h4 g hg0 hg10 (fun j hj=>hn j (by omega)),fun j hj hne=>?_,fun _ _=>?_⟩
     ·
      by_cases e:j=k
      . subst e;rw[hdd];exact f0
      . exact h5 j (by omega) hne
     . rw[fin,e3]
    ·
     have none:∀j,j<k->(ds.getD j zD).2.2.2≠d.2.2.2:=by
      intro j hj he;refine hgo ⟨by omega,?_⟩;have:=ht k j (by omega) hj (by rw[hdd];exact g0) (by rw[hdd];exact he);rw[hdd] at this;exact this
     obtain⟨g,hgg⟩:=Int.eq_ofNat_of_zero_le r2;have g10:g<10:=by omega
     have f0:f.getD d.2.2.2.toNat 0=0:=by
      rw[hgg,Int.toNat_natCast];exact h4 g (by omega) g10 (fun j hj=>by rw[<-hgg];exact none j hj)
     have e0:GX ds k=false:=by
      rw[hg];by_cases k0:0<k
      ·
       have:¬(d.2.2.2=(ds.getD (k-1) zD).2.2.2):=fun e=>hgo ⟨k0,e.symm⟩
       have e:(d.2.2.2==(ds.getD (k-1) zD).2.2.2)=false:=by simpa using this
       rw[e,Bool.and_false]
      . simp[k0]
     have e2:DJ d.2.2.2 L.length f=f.set d.2.2.2.toNat (L.length:Int):=by unfold DJ;rw[if_pos ⟨gp,f0⟩]
     have e3:Cw d.2.2.2 L.length f=(L.length:Int):=by
      unfold Cw;rw[if_pos gp,e2,CZ f _ _ _ (by omega),if_pos rfl]
     have e1:Oo L (GX ds k)=Cw d.2.2.2 L.length f:=by rw[e0,e3];simp[Oo]
     rw[e1];simp only;rw[e2];refine⟨by trivial,by rw[List.length_set];exact h2,by rw[List.length_append];omega,fun q hq0 hq10 hn=>?_,fun j hj hne=>?_,fun _ _=>?_⟩
     ·
      have hqk:=hn k (by omega);rw[hdd] at hqk;rw[CZ f _ _ _ (by omega),if_neg (by omega)];exact h4 q hq0 hq10 (fun j hj=>hn j (by omega))
     ·
      by_cases e:j=k
      ·
       subst e;rw[hdd,CZ f _ _ _ (by omega),if_pos rfl];omega
      ·
       have nj:=none j (by omega);have okj:=Cd (hok j (by omega));rw[CZ f _ _ _ (by omega),if_neg (by omega)];exact h5 j (by omega) hne
     . rw[fin,e3,CZ f _ _ _ (by omega),if_pos rfl]
theorem PX {AA:List (List Dd)}(hb:AO AA=true):∀n:Nat,n<=AA.length->UX AA n=A8 AA n/\1<=(A8 AA n).length
 | 0,_=>⟨rfl,by simp[A8,CU]⟩
 |n+1,h=>by
  obtain⟨h1,h2⟩:=PX hb n (by omega);have ht:=Tr hb n (by omega);simp only[AO,Bool.and_eq_true,decide_eq_true_eq] at hb;obtain⟨⟨⟨⟨_,ha⟩,_⟩,_⟩,_⟩:=hb;have hok:=Bo [] ha n (by omega);simp only[Fu,Bool.and_eq_true,decide_eq_true_eq] at hok;obtain⟨q1,_,q3,_⟩:=PQ (i:=n) ht (fun j hj=>Bo zD hok.1 j hj) h2 (AA.getD n []).length (Nat.le_refl _);rw[UX,A8,h1,q1];exact⟨rfl,q3⟩
theorem ZL (a i:Nat)(ha:a<4096):jE (a:Int) (i:Int)=a.testBit i:=by
 unfold jE;have hd:a / 2 ^ i<=a:=Nat.div_le_self _ _;have e:((a:Int) / 2 ^ (i:Int).toNat)=((a / 2 ^ i:Nat):Int):=by simp
 rw[e,show (1:Int)=((1:Nat):Int) from rfl,MH _ _ (by omega) (by omega),Nat.and_one_is_mod,Nat.testBit_eq_decide_div_mod_eq];generalize a / 2 ^ i % 2=r;rw[Bool.eq_iff_iff,beq_iff_eq,decide_eq_true_eq];omega
theorem Bq (a i:Nat)(ha:a<4096)(hi:i<12):BW (a:Int) (i:Int)=a.testBit i:=by
 have h1:Cx (i:Int) 0 11=true:=by unfold Cx;simp;omega
 have h2:Cx (a:Int) 0 4095=true:=by unfold Cx;simp;omega
 simp[BW,h1,h2,ZL a i ha]
theorem SV (a i:Nat)(ha:a<4096)(hi:i<12):Fp (a:Int) (i:Int)=((a ||| 2 ^ i:Nat):Int):=by
 have h1:Cx (i:Int) 0 11=true:=by unfold Cx;simp;omega
 rw[jW _ _ (by omega) h1,Ol _ (by omega) (by omega)];have hq:(2:Nat) ^ i<2 ^ 12:=Nat.pow_lt_pow_right (by omega) hi;have e:((2:Int) ^ (i:Int).toNat)=((2 ^ i:Nat):Int):=by simp
 rw[e,Jc a _ (by omega) (by omega)]
theorem nO (a i:Nat)(ha:a<4096)(hi:i<12):a ||| 2 ^ i<4096:=by
 have hq:(2:Nat) ^ i<2 ^ 12:=Nat.pow_lt_pow_right (by omega) hi;exact Nat.or_lt_two_pow (n:=12) ha hq
theorem y9 (s:Int)(n:Nat)(x:Int):x∈y8 s n↔∃k:Nat,k<n/\x=k/\BW s k=true:=by
 induction n with
 |zero=>simp[y8]
 |succ n ih=>
  unfold y8;rw[List.mem_append,ih];constructor
  ·
   rintro (⟨k,hk,rfl,h⟩|h)
   . exact⟨k,by omega,rfl,h⟩
   ·
    split at h
    ·
     rename_i hs;simp at h;exact⟨n,by omega,h,hs⟩
    . simp at h
  ·
   rintro⟨k,hk,rfl,h⟩;by_cases hkn:k=n
   . subst hkn;right;simp[h]
   . exact .inl ⟨k,by omega,rfl,h⟩
def Lu (zs:List Int):Bool:=zs.all (JE zs.length)
def rF (a b:List Int):Bool:=decide (a.length=b.length)&&Lu a&&Lu b
def Gj (f:Int->Int->Int)(a b:List Int):List Int:=if rF a b=true then List.zipWith f a b else []
def Mq (a b:Int):Int:=bits .or .i64 a b
def X6 (a b:Int):Int:=bits .andNot .i64 a b
def oC (x:Int)(b:List Int):Nat->Int
 | 0=>0
 |k+1=>if BW x k=true then Mq (oC x b k) (b.getD k 0) else oC x b k
def Eh (k:Nat)(st:List Int):Nat->List Int
 | 0=>st
 |i+1=>if BW ((Eh k st i).getD i 0) k=true then (Eh k st i).set i (Mq ((Eh k st i).getD i 0) ((Eh k st i).getD k 0)) else Eh k st i
def Cu (zs:List Int):Nat->List Int
 | 0=>zs
 |k+1=>Eh k (Cu zs k) zs.length
def Wf (zs:List Int):List Int:=if Lu zs=true then Cu zs zs.length else []
theorem SW {zs:List Int}{i:Nat}(h:i<zs.length):zs.getD i 0∈zs:=by
 rw[List.getD_eq_getElem?_getD,List.getElem?_eq_getElem h];exact List.getElem_mem h
theorem gG {zs:List Int}(h:∀i,i<zs.length->JE zs.length (zs.getD i 0)=true):Lu zs=true:=by
 unfold Lu;rw[List.all_eq_true];intro x hx;obtain⟨i,hi,rfl⟩:=List.getElem_of_mem hx;have:=h i hi
 rwa [List.getD_eq_getElem?_getD,List.getElem?_eq_getElem hi] at this
theorem To {zs:List Int}(h:Lu zs=true){i:Nat}(hi:i<zs.length):JE zs.length (zs.getD i 0)=true:=by
 unfold Lu at h;rw[List.all_eq_true] at h;exact h _ (SW hi)
theorem Mo {n s:Int}:JE n s=true↔(0<=n/\n<=12)/\0<=s/\s<2 ^ n.toNat:=by unfold JE;rw[decide_eq_true_eq]
theorem gH {zs:List Int}(h:Lu zs=true):zs.length<=12:=by
 by_cases h0:zs.length=0
 . omega
 . have:=Mo.1 (To h (i:=0) (by omega));omega
theorem YD {n s:Int}(h:JE n s=true):0<=s/\s<=4095:=by
 have h1:=Mo.1 h;have:=TD n.toNat (by omega);omega
theorem fq {a b:List Int}:rF a b=true↔a.length=b.length/\Lu a=true/\Lu b=true:=by
 unfold rF;rw[Bool.and_eq_true,Bool.and_eq_true,decide_eq_true_eq,and_assoc]
theorem Fg {n:Nat}{s:Int}(h:JE n s=true):n<=12/\∃a:Nat,s=a/\a<2 ^ n/\a<4096:=by
 have h1:=Mo.1 h;have h2:=YD h;obtain⟨a,rfl⟩:=Int.eq_ofNat_of_zero_le h2.1;refine⟨by omega,a,rfl,?_,by omega⟩;have:=h1.2.2;simp at this
 exact_mod_cast this
theorem Gm {n a:Nat}(hn:n<=12)(ha:a<2 ^ n):JE n a=true:=by
 rw[Mo];refine⟨by omega,by omega,?_⟩;simp
 exact_mod_cast ha
theorem Uf {n:Nat}{s:Int}(h:JE n s=true){j:Nat}(hj:BW s j=true):j<n:=by
 obtain⟨hn,a,rfl,ha,h12⟩:=Fg h
 have hj12:j<12:=by
  have:Cx (j:Int) 0 11=true:=by unfold BW at hj;simp at hj;exact hj.1.1
  unfold Cx at this;simp at this;omega
 rw[Bq a j h12 hj12] at hj;apply Classical.byContradiction;intro hnj;have hp:(2:Nat) ^ n<=2 ^ j:=Nat.pow_le_pow_right (by omega) (by omega);rw[Nat.testBit_lt_two_pow (by omega)] at hj;cases hj
theorem Co (s:Int){j:Nat}(hj:12<=j):BW s j=false:=by
 have:Cx (j:Int) 0 11=false:=by unfold Cx;simp;omega
 simp[BW,this]
theorem qf {n:Nat}{s t:Int}(hs:JE n s=true)(ht:JE n t=true)(h:∀j:Nat,j<n->BW s j=BW t j):s=t:=by
 obtain⟨hn,a,rfl,ha,ha'⟩:=Fg hs;obtain⟨_,b,rfl,hb,hb'⟩:=Fg ht
 congr 1
 apply Nat.eq_of_testBit_eq;intro j;by_cases hj:j<n
 ·
  have:=h j hj
  rwa [Bq a j ha' (by omega),Bq b j hb' (by omega)] at this
 ·
  have hp:(2:Nat) ^ n<=2 ^ j:=Nat.pow_le_pow_right (by omega) (by omega);rw[Nat.testBit_lt_two_pow (by omega),Nat.testBit_lt_two_pow (by omega)]
theorem WD {n:Nat}(hn:n<=12):JE n 0=true:=Gm (a:=0) hn (Nat.two_pow_pos n)
theorem Tt (j:Nat):BW 0 j=false:=by
 by_cases hj:j<12
 . rw[show (0:Int)=((0:Nat):Int) from rfl,Bq 0 j (by omega) hj,Nat.zero_testBit]
 . exact Co _ (by omega)
theorem NY (a b:Nat)(ha:a<9223372036854775808)(hb:b<9223372036854775808):bits .andNot .i64 (a:Int) (b:Int)=((a &&& (18446744073709551615-b):Nat):Int):=by
 have hx:a &&& (18446744073709551615-b)<=a:=Nat.and_le_left;show IntKind.i64.wrap ((BitVec.ofInt 64 (a:Int) &&& ~~~ BitVec.ofInt 64 (b:Int)).toNat:Int)=_;rw[BitVec.toNat_and,BitVec.toNat_not,E0 a ha,E0 b hb,IntKind.wrap_i64,show (2:Nat) ^ 64-1-b=18446744073709551615-b from rfl];omega
theorem cK {n:Nat}{s t:Int}(hs:JE n s=true)(ht:JE n t=true):JE n (Mq s t)=true/\∀j:Nat,BW (Mq s t) j=(BW s j||BW t j):=by
 obtain⟨hn,a,rfl,ha,ha'⟩:=Fg hs;obtain⟨_,b,rfl,hb,hb'⟩:=Fg ht;have e:Mq (a:Int) (b:Int)=((a ||| b:Nat):Int):=Jc a b (by omega) (by omega);have hl:a ||| b<2 ^ n:=Nat.or_lt_two_pow ha hb;have hl':a ||| b<4096:=Nat.or_lt_two_pow (n:=12) ha' hb';rw[e];refine⟨Gm hn hl,fun j=>?_⟩;by_cases hj:j<12
 . rw[Bq _ j hl' hj,Bq _ j ha' hj,Bq _ j hb' hj,Nat.testBit_or]
 . rw[Co _ (by omega),Co _ (by omega),Co _ (by omega)];rfl
theorem qg {n:Nat}{s t:Int}(hs:JE n s=true)(ht:JE n t=true):JE n (X6 s t)=true/\∀j:Nat,BW (X6 s t) j=(BW s j&&!BW t j):=by
 obtain⟨hn,a,rfl,ha,ha'⟩:=Fg hs;obtain⟨_,b,rfl,hb,hb'⟩:=Fg ht;have e:X6 (a:Int) (b:Int)=((a &&& (18446744073709551615-b):Nat):Int):=NY a b (by omega) (by omega);have hl:a &&& (18446744073709551615-b)<=a:=Nat.and_le_left;rw[e];refine⟨Gm hn (by omega),fun j=>?_⟩;by_cases hj:j<12
 ·
  have h2:(18446744073709551615-b).testBit j=!b.testBit j:=by
   have e2:18446744073709551615-b=2 ^ 64-(b+1):=by omega
   rw[e2,Nat.testBit_two_pow_sub_succ (by omega)];have:j<64:=by omega
   simp[this]
  rw[Bq _ j (by omega) hj,Bq _ j ha' hj,Bq _ j hb' hj,Nat.testBit_and,h2]
 . rw[Co _ (by omega),Co _ (by omega),Co _ (by omega)];rfl
theorem Q4 {n:Nat}{s:Int}(hs:JE n s=true){i:Nat}(hi:i<n):JE n (Fp s i)=true/\∀j:Nat,BW (Fp s i) j=(BW s j||decide (i=j)):=by
 obtain⟨hn,a,rfl,ha,ha'⟩:=Fg hs;rw[SV a i ha' (by omega)];have hp:(2:Nat) ^ i<2 ^ n:=Nat.pow_lt_pow_right (by omega) hi;have hl:a ||| 2 ^ i<2 ^ n:=Nat.or_lt_two_pow ha hp;refine⟨Gm hn hl,fun j=>?_⟩;by_cases hj:j<12
 . rw[Bq _ j (nO a i ha' (by omega)) hj,Bq _ j ha' hj,Nat.testBit_or,Nat.testBit_two_pow]
 ·
  have:¬i=j:=by omega
  rw[Co _ (by omega),Co _ (by omega)];simp[this]
def DH (n:Nat)(zs:List Int):Prop:=n<=12/\zs.length=n/\∀i,i<n->JE n (zs.getD i 0)=true
theorem l7 {zs:List Int}:Lu zs=true↔DH zs.length zs:=by
 constructor
 . intro h;exact⟨gH h,rfl,fun i hi=>To h hi⟩
 . intro h;exact gG h.2.2
theorem DH.b {n:Nat}{zs:List Int}(h:DH n zs):Lu zs=true:=by
 obtain⟨h1,rfl,h2⟩:=h;exact l7.2 ⟨h1,rfl,h2⟩
theorem ay {n:Nat}{a b:List Int}(ha:a.length=n)(hb:b.length=n)(h:∀i,i<n->a.getD i 0=b.getD i 0):a=b:=by
 apply List.ext_getElem (by omega);intro i h1 h2;have:=h i (by omega);rw[List.getD_eq_getElem?_getD,List.getD_eq_getElem?_getD,List.getElem?_eq_getElem h1,List.getElem?_eq_getElem h2] at this;exact this
def Aq (zs:List Int)(i j:Nat):Bool:=BW (zs.getD i 0) j
theorem DH.ext {n:Nat}{a b:List Int}(ha:DH n a)(hb:DH n b)(h:∀i j,i<n->j<n->Aq a i j=Aq b i j):a=b:=
 ay ha.2.1 hb.2.1 fun i hi=>qf (ha.2.2 i hi) (hb.2.2 i hi) fun j hj=>h i j hi hj
theorem DH.lt {n:Nat}{a:List Int}(ha:DH n a){i j:Nat}(hi:i<n)(h:Aq a i j=true):j<n:=Uf (ha.2.2 i hi) h
theorem FH (zs:List Int)(i j:Nat)(x:Int)(hi:i<zs.length):(zs.set i x).getD j 0=if i=j then x else zs.getD j 0:=by
 rw[List.getD_eq_getElem?_getD,List.getD_eq_getElem?_getD,List.getElem?_set];by_cases h:i=j
 . subst h;simp[hi]
 . simp[h]
theorem DH.set {n:Nat}{a:List Int}(ha:DH n a){i:Nat}{x:Int}(hx:JE n x=true):DH n (a.set i x):=by
 obtain⟨h1,h2,h3⟩:=ha;refine⟨h1,by simp[h2],fun j hj=>?_⟩;by_cases hi:i<a.length
 ·
  rw[FH a i j x hi];split
  . exact hx
  . exact h3 j hj
 . rw[List.set_eq_of_length_le (by omega)];exact h3 j hj
theorem DH.zero {n:Nat}(hn:n<=12):DH n (List.replicate n 0):=by
 refine⟨hn,by simp,fun i hi=>?_⟩;rw[List.getD_eq_getElem?_getD,List.getElem?_replicate,if_pos hi];exact WD hn
theorem Ih (n i j:Nat):Aq (List.replicate n 0) i j=false:=by
 unfold Aq;rw[List.getD_eq_getElem?_getD,List.getElem?_replicate];split<;>exact Tt j
theorem QL {n k:Nat}{st:List Int}(hk:k<n)(hst:DH n st)(m:Nat)(hm:m<=n):
  DH n (Eh k st m)/\∀i j:Nat,i<n->Aq (Eh k st m) i j=(Aq st i j||(decide (i<m)&&Aq st i k&&Aq st k j)):=by
 induction m with
 |zero=>exact⟨hst,fun i j _=>by simp[Eh]⟩
 |succ m ih=>
  have ih:=ih (by omega);have hmn:m<n:=by omega
  have hkk:∀j,Aq (Eh k st m) k j=Aq st k j:=by
   intro j;rw[ih.2 k j hk];cases Aq st k j<;>simp
  have hmk:Aq (Eh k st m) m k=Aq st m k:=by rw[ih.2 m k hmn];simp
  have hmj:∀j,Aq (Eh k st m) m j=Aq st m j:=by intro j;rw[ih.2 m j hmn];simp
  unfold Eh
  cases hb:BW ((Eh k st m).getD m 0) k with
  |false=>
   have hb':Aq st m k=false:=by rw[<-hmk];exact hb
   refine⟨by simpa using ih.1,fun i j hi=>?_⟩;simp only[Bool.false_eq_true,if_false];rw[ih.2 i j hi];by_cases e:i=m
   . subst e;simp[hb']
   ·
    have:(i<m+1)↔i<m:=by omega
    simp[this]
  |true=>
   have hb':Aq st m k=true:=by rw[<-hmk];exact hb
   have ho:=cK (ih.1.2.2 m hmn) (ih.1.2.2 k hk);refine⟨by simpa using ih.1.set ho.1,fun i j hi=>?_⟩;simp only[if_true];have e1:=ih.2 i j hi;have e2:=hkk j;have e3:=hmj j;unfold Aq at e1 e2 e3 ⊢;rw[FH _ _ _ _ (by rw[ih.1.2.1];exact hmn)];by_cases e:m=i
   ·
    subst e;simp only[if_true];rw[ho.2 j,e2,e3];unfold Aq at hb';rw[hb'];simp
   ·
    have:(i<m+1)↔i<m:=by omega
    simp only[e,if_false];rw[e1];simp[this]
theorem VK {n:Nat}{zs:List Int}(hz:DH n zs)(m:Nat)(hm:m<=n):DH n (Cu zs m):=by
 induction m with
 |zero=>exact hz
 |succ m ih=>
  show DH n (Eh m (Cu zs m) zs.length);rw[hz.2.1];exact (QL (by omega) (ih (by omega)) n (Nat.le_refl _)).1
theorem ER {n:Nat}{zs:List Int}(hz:DH n zs)(m:Nat)(hm:m<n){i:Nat}(hi:i<n)(j:Nat):
  Aq (Cu zs (m+1)) i j=(Aq (Cu zs m) i j||(Aq (Cu zs m) i m&&Aq (Cu zs m) m j)):=by
 show Aq (Eh m (Cu zs m) zs.length) i j=_;rw[hz.2.1,(QL hm (VK hz m (by omega)) n (Nat.le_refl _)).2 i j hi];simp[hi]
def GA (p:Nat->Nat->Bool)(i:Nat)(st:List Int):Nat->List Int
 | 0=>st
 |k+1=>if p i k=true then (GA p i st k).set i (Fp ((GA p i st k).getD i 0) k) else GA p i st k
def LO (p:Nat->Nat->Bool)(n:Nat):Nat->List Int
 | 0=>List.replicate n 0
 |i+1=>GA p i (LO p n i) n
def ZM (k:Nat):Int:=wrap64 (2 ^ (k:Int).toNat)
def GK (p:Nat->Nat->Bool)(i:Nat)(st:List Int):Nat->List Int
 | 0=>st
 |k+1=>if p i k=true then (GK p i st k).set i (X6 ((GK p i st k).getD i 0) (ZM k)) else GK p i st k
def IE (p:Nat->Nat->Bool)(n:Nat)(st:List Int):Nat->List Int
 | 0=>st
 |i+1=>GK p i (IE p n st i) n
theorem Wn {p:Nat->Nat->Bool}{i k:Nat}(st:List Int)(h:p i k=true):GA p i st (k+1)=(GA p i st k).set i (Fp ((GA p i st k).getD i 0) k):=if_pos h
theorem UG {p:Nat->Nat->Bool}{i k:Nat}(st:List Int)(h:p i k=false):GA p i st (k+1)=GA p i st k:=if_neg (by simp[h])
theorem YC {p:Nat->Nat->Bool}{i k:Nat}(st:List Int)(h:p i k=true):GK p i st (k+1)=(GK p i st k).set i (X6 ((GK p i st k).getD i 0) (ZM k)):=if_pos h
theorem Ut {p:Nat->Nat->Bool}{i k:Nat}(st:List Int)(h:p i k=false):GK p i st (k+1)=GK p i st k:=if_neg (by simp[h])
theorem ZN:∀k:Nat,k<12->ZM k=Fp 0 k:=by decide +kernel
theorem qd {n k:Nat}(hn:n<=12)(hk:k<n):JE n (ZM k)=true/\∀j:Nat,BW (ZM k) j=decide (k=j):=by
 rw[ZN k (by omega)];have h:=Q4 (WD hn) hk;exact⟨h.1,fun j=>by rw[h.2 j,Tt];simp⟩
theorem QH {p:Nat->Nat->Bool}{n i:Nat}{st:List Int}(hi:i<n)(hst:DH n st):∀m:Nat,m<=n ->
  DH n (GA p i st m)/\∀a j:Nat,a<n->Aq (GA p i st m) a j=(Aq st a j||(decide (i=a)&&decide (j<m)&&p i j))
 | 0,_=>⟨hst,fun a j _=>by simp[GA]⟩
 |m+1,hm=>by
  have ih:=QH hi hst m (by omega) (p:=p)
  cases hp:p i m with
  |false=>
   rw[UG st hp];refine⟨ih.1,fun a j ha=>?_⟩;rw[ih.2 a j ha];by_cases e:j=m
   . subst e;simp[hp]
   ·
    have d:decide (j<m+1)=decide (j<m):=decide_eq_decide.2 (by omega);rw[d]
  |true=>
   rw[Wn st hp];have ha:=Q4 (ih.1.2.2 i hi) (show m<n by omega);refine⟨ih.1.set ha.1,fun a j gy=>?_⟩;have e1:=ih.2 a j gy;unfold Aq at e1 ⊢;rw[FH _ _ _ _ (by rw[ih.1.2.1];exact hi)];by_cases e:i=a
   ·
    subst e;simp only[if_true];rw[ha.2 j,e1];by_cases e2:m=j
    . subst e2;simp[hp]
    ·
     have d:decide (j<m+1)=decide (j<m):=decide_eq_decide.2 (by omega);rw[d];simp[e2]
   . simp only[e,if_false];rw[e1];simp[e]
theorem Oi {p:Nat->Nat->Bool}{n:Nat}(hn:n<=12):∀m:Nat,m<=n ->
  DH n (LO p n m)/\∀a j:Nat,a<n->Aq (LO p n m) a j=(decide (a<m)&&decide (j<n)&&p a j)
 | 0,_=>⟨DH.zero hn,fun a j _=>by unfold LO;rw[Ih];simp⟩
 |m+1,hm=>by
  have ih:=Oi hn m (by omega) (p:=p);have h1:=QH (p:=p) (show m<n by omega) ih.1 n (Nat.le_refl _);refine⟨h1.1,fun a j ha=>?_⟩;show Aq (GA p m (LO p n m) n) a j=_;rw[h1.2 a j ha,ih.2 a j ha];by_cases e:m=a
  . subst e;simp
  ·
   have d:decide (a<m+1)=decide (a<m):=decide_eq_decide.2 (by omega);rw[d];simp[e]
theorem QJ {p:Nat->Nat->Bool}{n i:Nat}{st:List Int}(hi:i<n)(hst:DH n st):∀m:Nat,m<=n ->
  DH n (GK p i st m)/\∀a j:Nat,a<n->Aq (GK p i st m) a j=(Aq st a j&&!(decide (i=a)&&decide (j<m)&&p i j))
 | 0,_=>⟨hst,fun a j _=>by simp[GK]⟩
 |m+1,hm=>by
  have ih:=QJ hi hst m (by omega) (p:=p)
  cases hp:p i m with
  |false=>
   rw[Ut st hp];refine⟨ih.1,fun a j ha=>?_⟩;rw[ih.2 a j ha];by_cases e:j=m
   . subst e;simp[hp]
   ·
    have d:decide (j<m+1)=decide (j<m):=decide_eq_decide.2 (by omega);rw[d]
  |true=>
   rw[YC st hp];have hb:=qd hst.1 (show m<n by omega);have ha:=qg (ih.1.2.2 i hi) hb.1;refine⟨ih.1.set ha.1,fun a j gy=>?_⟩;have e1:=ih.2 a j gy;unfold Aq at e1 ⊢;rw[FH _ _ _ _ (by rw[ih.1.2.1];exact hi)];by_cases e:i=a
   ·
    subst e;simp only[if_true];rw[ha.2 j,e1,hb.2 j];by_cases e2:m=j
    . subst e2;simp[hp]
    ·
     have d:decide (j<m+1)=decide (j<m):=decide_eq_decide.2 (by omega);rw[d];simp[e2]
   . simp only[e,if_false];rw[e1];simp[e]
theorem Gv {p:Nat->Nat->Bool}{n:Nat}{st:List Int}(hst:DH n st):∀m:Nat,m<=n ->
  DH n (IE p n st m)/\∀a j:Nat,a<n->Aq (IE p n st m) a j=(Aq st a j&&!(decide (a<m)&&decide (j<n)&&p a j))
 | 0,_=>⟨hst,fun a j _=>by simp[IE]⟩
 |m+1,hm=>by
  have ih:=Gv hst m (by omega) (p:=p);have h1:=QJ (p:=p) (show m<n by omega) ih.1 n (Nat.le_refl _);refine⟨h1.1,fun a j ha=>?_⟩;show Aq (GK p m (IE p n st m) n) a j=_;rw[h1.2 a j ha,ih.2 a j ha];by_cases e:m=a
  . subst e;simp
  ·
   have d:decide (a<m+1)=decide (a<m):=decide_eq_decide.2 (by omega);rw[d];simp[e]
def MW (es:List Ev)(i k:Nat):Bool:=decide (i<k)&&((decide (i<3)&&decide (3<=k))||(decide (3<=i)&&((es.getD i zE).1==(es.getD k zE).1)))
def UM (es:List Ev):List Int:=LO (MW es) es.length es.length
def kQ (es:List Ev)(i k:Nat):Bool:=(es.getD i zE).2.2.2.1 != (es.getD k zE).2.2.2.1
def dH (es:List Ev):List Int:=IE (kQ es) es.length (UM es) es.length
theorem jD {es:List Ev}{i j:Nat}(h:j<=i):MW es i j=false:=by unfold MW;simp;omega
theorem M5 {es:List Ev}(h:es.length<=12):DH es.length (UM es)/\∀a j:Nat,a<es.length->Aq (UM es) a j=(decide (j<es.length)&&MW es a j):=by
 have h1:=Oi (p:=MW es) h es.length (Nat.le_refl _);exact⟨h1.1,fun a j ha=>by unfold UM;rw[h1.2 a j ha];simp[ha]⟩
theorem TB {es:List Ev}(h:es.length<=12):DH es.length (dH es)/\∀a j:Nat,a<es.length->Aq (dH es) a j=(decide (j<es.length)&&MW es a j&&!kQ es a j):=by
 have h1:=M5 h;have h2:=Gv (p:=kQ es) h1.1 es.length (Nat.le_refl _);refine⟨h2.1,fun a j ha=>?_⟩;unfold dH;rw[h2.2 a j ha,h1.2 a j ha];by_cases hj:j<es.length
 . simp[ha,hj]
 . simp[hj]
def Ef (d:Dd):Bool:=(d.1==3)||decide (0<d.2.2.2)
def Rg (ds:List Dd)(lo hi:Nat):Bool:=(List.range hi).any (fun j=>decide (lo<j)&&((ds.getD j zD).1==4))
theorem Yf {ds:List Dd}{lo hi:Nat}(h:∀j,lo<j->j<hi->(ds.getD j zD).1≠4):Rg ds lo hi=false:=by
 unfold Rg;rw[List.any_eq_false];intro j hj;rw[List.mem_range] at hj;by_cases hl:lo<j
 ·
  have:=h j hl hj;simp[hl];simpa using this
 . simp[hl]
def rf (AA:List (List Dd))(e:Ev):Dd:=(AA.getD e.1.toNat []).getD e.2.1.toNat zD
def wM (AA:List (List Dd))(a b:Ev):Bool:=!(Ad a)&&Ad b&&(Zg a != Zg b)&&(!Rg (AA.getD a.1.toNat []) a.2.1.toNat b.2.1.toNat&&!Ef (rf AA a)&&!Ef (rf AA b))
def Xt (AA:List (List Dd))(es:List Ev)(i k:Nat):Bool:=decide (3<=i)&&MW es i k&&wM AA (es.getD i zE) (es.getD k zE)
def aV (AA:List (List Dd))(es:List Ev):List Int:=IE (Xt AA es) es.length (UM es) es.length
theorem aY {AA:List (List Dd)}{es:List Ev}(h:es.length<=12):DH es.length (aV AA es)/\∀a j:Nat,a<es.length->Aq (aV AA es) a j=(decide (j<es.length)&&MW es a j&&!Xt AA es a j):=by
 have h1:=M5 h;have h2:=Gv (p:=Xt AA es) h1.1 es.length (Nat.le_refl _);refine⟨h2.1,fun a j ha=>?_⟩;unfold aV;rw[h2.2 a j ha,h1.2 a j ha];by_cases hj:j<es.length
 . simp[ha,hj]
 . simp[hj]
abbrev Ak (AA:List (List Dd))(c k:Nat):Dd:=(AA.getD c []).getD k zD
def AY (AA:List (List Dd))(c k:Nat):Nat:=(Bh c (AA.getD c []) (A8 AA c) k).1.length
def FM (d:Dd):Nat:=if d.1=4 then 0 else if d.1=3 then 2 else 1
theorem dA (i k:Nat)(d:Dd)(c:Int):(Cr i k d c).length=FM d:=by
 unfold Cr FM;split
 . rfl
 ·
  split
  . rfl
  . split<;>rfl
def C3 (AA:List (List Dd))(c k:Nat):Int:=Cw (Ak AA c k).2.2.2 (AY AA c k) (Bh c (AA.getD c []) (A8 AA c) k).2
theorem NG (AA:List (List Dd))(c k:Nat):(Bh c (AA.getD c []) (A8 AA c) (k+1)).1=(Bh c (AA.getD c []) (A8 AA c) k).1++Cr c k (Ak AA c k) (C3 AA c k):=by
 rw[Bh,EU];split
 ·
  rename_i h;have e:Cr c k (Ak AA c k) (C3 AA c k)=[]:=by unfold Cr;rw[if_pos h]
  rw[e,List.append_nil]
 . rfl
theorem Ny (AA:List (List Dd))(c k:Nat):AY AA c (k+1)=AY AA c k+FM (Ak AA c k):=by
 unfold AY;rw[NG,List.length_append,dA]
theorem Nz (AA:List (List Dd))(c:Nat):AY AA c 0=(A8 AA c).length:=rfl
theorem WC (AA:List (List Dd))(c:Nat):(A8 AA (c+1)).length=AY AA c (AA.getD c []).length:=rfl
theorem Mg (AA:List (List Dd))(c k:Nat):∀n:Nat,k<=n->∃t,(Bh c (AA.getD c []) (A8 AA c) n).1=(Bh c (AA.getD c []) (A8 AA c) k).1++t
 | 0,h=>by
  obtain rfl:k=0:=by omega
  exact⟨[],by simp⟩
 |n+1,h=>by
  by_cases e:k=n+1
  . subst e;exact⟨[],by simp⟩
  ·
   obtain⟨t,ht⟩:=Mg AA c k n (by omega);exact⟨t++Cr c n (Ak AA c n) (C3 AA c n),by rw[NG,ht,List.append_assoc]⟩
theorem GW (AA:List (List Dd))(c:Nat):∀n:Nat,c<=n->∃t,A8 AA n=A8 AA c++t
 | 0,h=>by
  obtain rfl:c=0:=by omega
  exact⟨[],by simp⟩
 |n+1,h=>by
  by_cases e:c=n+1
  . subst e;exact⟨[],by simp⟩
  ·
   obtain⟨t,ht⟩:=GW AA c n (by omega);obtain⟨t2,h2⟩:=Mg AA n 0 (AA.getD n []).length (Nat.zero_le _);refine⟨t++t2,?_⟩;show (Bh n (AA.getD n []) (A8 AA n) (AA.getD n []).length).1=_;rw[h2];show A8 AA n++t2=_;rw[ht,List.append_assoc]
theorem mY {AA:List (List Dd)}{c k n:Nat}(hc:c<n)(hk:k<(AA.getD c []).length){i:Nat}{e:Ev}(h:(Cr c k (Ak AA c k) (C3 AA c k))[i]? = some e):(A8 AA n)[AY AA c k+i]? = some e:=by
 obtain⟨t1,h1⟩:=GW AA (c+1) n hc;obtain⟨t2,h2⟩:=Mg AA c (k+1) (AA.getD c []).length hk;rw[h1];refine IY t1 ?_;show (Bh c (AA.getD c []) (A8 AA c) (AA.getD c []).length).1[AY AA c k+i]? = some e;rw[h2];refine IY t2 ?_;rw[NG,List.getElem?_append_right (by unfold AY;omega)];show (Cr c k (Ak AA c k) (C3 AA c k))[AY AA c k+i-AY AA c k]? = some e;rw[show AY AA c k+i-AY AA c k=i by omega];exact h
theorem VY (AA:List (List Dd))(c:Nat){j:Nat}(h0:AY AA c 0<=j):∀k:Nat,j<AY AA c k->∃k' i,k'<k/\i<FM (Ak AA c k')/\j=AY AA c k'+i
 | 0,h=>by omega
 |k+1,h=>by
  by_cases hj:j<AY AA c k
  ·
   obtain⟨k',i,h1,h2,h3⟩:=VY AA c h0 k hj;exact⟨k',i,by omega,h2,h3⟩
  ·
   rw[Ny] at h;exact⟨k,j-AY AA c k,by omega,by omega,by omega⟩
theorem Zo (AA:List (List Dd)){j:Nat}(h3:3<=j):∀n:Nat,j<(A8 AA n).length->∃c k i,c<n/\k<(AA.getD c []).length/\i<FM (Ak AA c k)/\j=AY AA c k+i
 | 0,h=>by simp[A8,CU] at h;omega
 |n+1,h=>by
  by_cases hj:j<(A8 AA n).length
  ·
   obtain⟨c,k,i,h1,h2⟩:=Zo AA h3 n hj;exact⟨c,k,i,by omega,h2⟩
  ·
   rw[WC] at h;obtain⟨k,i,h1,h2⟩:=VY AA n (by rw[Nz];omega) _ h;exact⟨n,k,i,by omega,h1,h2⟩
theorem Q0 (AA:List (List Dd))(c:Nat){k k':Nat}(h:k<=k'):AY AA c k<=AY AA c k':=by
 obtain⟨t,ht⟩:=Mg AA c k k' h;unfold AY;rw[ht,List.length_append];omega
theorem IG {AA:List (List Dd)}{c c' k k':Nat}(hk:k<(AA.getD c []).length)(h:c<c'\/(c=c'/\k<k')):AY AA c k+FM (Ak AA c k)<=AY AA c' k':=by
 rcases h with h|⟨rfl,h⟩
 ·
  have h1:=Q0 AA c (k:=k+1) (k':=(AA.getD c []).length) hk;rw[Ny] at h1;obtain⟨t,ht⟩:=GW AA (c+1) c' h;have h2:=Q0 AA c' (Nat.zero_le k');rw[Nz,ht,List.length_append,WC] at h2;omega
 ·
  have h1:=Q0 AA c (k:=k+1) (k':=k') h;rw[Ny] at h1;exact h1
theorem Ip (AA:List (List Dd))(c k:Nat):3<=AY AA c k:=by
 obtain⟨t,ht⟩:=GW AA 0 c (Nat.zero_le _);have h:=Q0 AA c (Nat.zero_le k);rw[Nz,ht,List.length_append] at h;simp[A8,CU] at h;omega
abbrev BS (AA:List (List Dd))(c k:Nat):Int:=(Ak AA c k).2.2.2
def o7 (AA:List (List Dd))(c:Nat):Prop:=∀k,k<(AA.getD c []).length->FW (Ak AA c k)=true
theorem B8 {AA:List (List Dd)}(h:AO AA=true){c:Nat}(hc:c<AA.length):o7 AA c:=by
 simp only[AO,Bool.and_eq_true,decide_eq_true_eq] at h;obtain⟨⟨⟨⟨_,h2⟩,_⟩,_⟩,_⟩:=h;have h3:=Bo [] h2 c hc;unfold Fu at h3;rw[Bool.and_eq_true] at h3;exact fun k hk=>Bo zD h3.1 k hk
theorem Zx {AA:List (List Dd)}{c k:Nat}(h:o7 AA c)(hk:k<(AA.getD c []).length):0<=BS AA c k/\BS AA c k<=9/\(2<(Ak AA c k).1->BS AA c k=0):=
 ⟨(Cd (h k hk)).2.2.1,(Cd (h k hk)).2.2.2.1,(Cd (h k hk)).2.2.2.2⟩
theorem Vj (AA:List (List Dd))(c:Nat):∀k:Nat,(Bh c (AA.getD c []) (A8 AA c) k).2.length=10
 | 0=>by simp[Bh]
 |k+1=>by
  have ih:=Vj AA c k;rw[Bh,EU];split
  . exact ih
  ·
   show (DJ _ _ _).length=10;unfold DJ;split
   . rw[List.length_set];exact ih
   . exact ih
theorem Zv {AA:List (List Dd)}{c:Nat}(hok:o7 AA c){g:Nat}(h0:0<g)(h9:g<=9):∀k:Nat,k<=(AA.getD c []).length ->
  ((Bh c (AA.getD c []) (A8 AA c) k).2.getD g 0=0/\∀j,j<k->BS AA c j≠g) \/
  ∃j,j<k/\BS AA c j=g/\(∀i,i<j->BS AA c i≠g)/\(Bh c (AA.getD c []) (A8 AA c) k).2.getD g 0=(AY AA c j:Int)
 | 0,_ => .inl ⟨by
   show (List.replicate 10 (0:Int)).getD g 0=0;rw[List.getD_eq_getElem?_getD,List.getElem?_replicate]
   split<;>rfl,fun j hj=>by omega⟩
 |k+1,hk=>by
  have ih:=Zv hok h0 h9 k (by omega);have hl:=Vj AA c k;have hd:=Zx hok (k:=k) (by omega);have hkk:=CQ (hok k (by omega));by_cases h4:(Ak AA c k).1=4
  ·
   have e:(Bh c (AA.getD c []) (A8 AA c) (k+1)).2=(Bh c (AA.getD c []) (A8 AA c) k).2:=by
    rw[Bh,EU,if_pos h4]
   have hg:BS AA c k=0:=hd.2.2 (by omega);rw[e];rcases ih with ⟨h1,h2⟩|⟨j,h1,h2,h3,h5⟩
   ·
    refine .inl ⟨h1,fun j hj=>?_⟩;by_cases e:j=k
    . subst e;omega
    . exact h2 j (by omega)
   . exact .inr ⟨j,by omega,h2,h3,h5⟩
  ·
   have e:(Bh c (AA.getD c []) (A8 AA c) (k+1)).2=DJ (BS AA c k) (AY AA c k) (Bh c (AA.getD c []) (A8 AA c) k).2:=by
    rw[Bh,EU,if_neg h4];rfl
   rw[e];by_cases hg:BS AA c k=(g:Int)
   ·
    rcases ih with ⟨h1,h2⟩|⟨j,h1,h2,h3,h5⟩
    ·
     refine .inr ⟨k,by omega,hg,h2,?_⟩;unfold DJ;rw[hg,Int.toNat_natCast,if_pos ⟨by omega,h1⟩,CZ _ _ _ _ (by omega),if_pos rfl]
    ·
     refine .inr ⟨j,by omega,h2,h3,?_⟩;have h6:=Ip AA c j;unfold DJ;rw[hg,Int.toNat_natCast,if_neg (by rw[h5];omega)];exact h5
   ·
    have e2:(DJ (BS AA c k) (AY AA c k) (Bh c (AA.getD c []) (A8 AA c) k).2).getD g 0=(Bh c (AA.getD c []) (A8 AA c) k).2.getD g 0:=by
     unfold DJ;split
     ·
      rename_i hp;have hx:(BS AA c k).toNat<=9:=by have:=hd.2.1;omega
      rw[CZ _ _ _ _ (by omega),if_neg (by omega)]
     . rfl
    rw[e2];rcases ih with ⟨h1,h2⟩|⟨j,h1,h2,h3,h5⟩
    ·
     refine .inl ⟨h1,fun j hj=>?_⟩;by_cases e:j=k
     . subst e;exact hg
     . exact h2 j (by omega)
    . exact .inr ⟨j,by omega,h2,h3,h5⟩
theorem LU {AA:List (List Dd)}{c k:Nat}(hok:o7 AA c)(hk:k<(AA.getD c []).length)(h4:(Ak AA c k).1≠4):
  (BS AA c k=0/\C3 AA c k=(AY AA c k:Int))\/(BS AA c k≠0/\∃j,j<=k/\BS AA c j=BS AA c k/\(∀i,i<j->BS AA c i≠BS AA c k)/\C3 AA c k=(AY AA c j:Int)):=by
 have hd:=Zx hok hk;by_cases hg:BS AA c k=0
 ·
  refine .inl ⟨hg,?_⟩;unfold C3 Cw;rw[if_neg (by have:(Ak AA c k).2.2.2=0:=hg;omega)]
 ·
  obtain⟨g,hgg⟩:=Int.eq_ofNat_of_zero_le hd.1;have hgg':BS AA c k=(g:Int):=hgg;have h9:g<=9:=by have:=hd.2.1;omega
  refine .inr ⟨hg,?_⟩;have h1:=Zv hok (g:=g) (by omega) h9 (k+1) hk
  have e:(Bh c (AA.getD c []) (A8 AA c) (k+1)).2=DJ (BS AA c k) (AY AA c k) (Bh c (AA.getD c []) (A8 AA c) k).2:=by
   rw[Bh,EU,if_neg h4];rfl
  rw[e] at h1;rcases h1 with ⟨_,h2⟩|⟨j,h1,h2,h3,h5⟩
  . exact absurd hgg' (h2 k (by omega))
  ·
   refine⟨j,by omega,by rw[hgg'];exact h2,fun i hi=>by rw[hgg'];exact h3 i hi,?_⟩;unfold C3 Cw;rw[if_pos (by have:(Ak AA c k).2.2.2=(g:Int):=hgg';omega)];have hq:(Ak AA c k).2.2.2.toNat=g:=by have:(Ak AA c k).2.2.2=(g:Int):=hgg';omega
   rw[hq];exact h5
theorem Mn {AA:List (List Dd)}{c c' k k':Nat}(hk:k<(AA.getD c []).length)(hk':k'<(AA.getD c' []).length)(h1:0<FM (Ak AA c k))(h2:0<FM (Ak AA c' k'))(e:AY AA c k=AY AA c' k'):c=c'/\k=k':=by
 by_cases hc:c<c'
 . have:=IG (k':=k') hk (.inl hc);omega
 by_cases hc':c'<c
 . have:=IG (k':=k) hk' (.inl hc');omega
 obtain rfl:c=c':=by omega
 refine⟨rfl,?_⟩;by_cases hkk:k<k'
 . have:=IG (c':=c) (k':=k') hk (.inr ⟨rfl,hkk⟩);omega
 by_cases hkk':k'<k
 . have:=IG (c':=c) (k':=k) hk' (.inr ⟨rfl,hkk'⟩);omega
 omega
theorem En {AA:List (List Dd)}{c k:Nat}(hok:o7 AA c)(hk:k<(AA.getD c []).length)(hg:BS AA c k≠0):(Ak AA c k).1≠4/\(Ak AA c k).1≠3/\0<FM (Ak AA c k):=by
 have hd:=Zx hok hk;have hkk:=CQ (hok k hk);have h3:¬ 2<(Ak AA c k).1:=fun h=>hg (hd.2.2 h)
 refine⟨by omega,by omega,?_⟩;unfold FM;rw[if_neg (by omega),if_neg (by omega)];omega
theorem Ko {d:Dd}(h:d.1≠4):0<FM d:=by
 unfold FM;rw[if_neg h];split<;>omega
theorem Ia {AA:List (List Dd)}{c c' k k':Nat}(hok:o7 AA c)(hok':o7 AA c')(hk:k<(AA.getD c []).length)(hk':k'<(AA.getD c' []).length)(h4:(Ak AA c k).1≠4)(h4':(Ak AA c' k').1≠4):
  C3 AA c k=C3 AA c' k'↔c=c'/\(k=k'\/(BS AA c k≠0/\BS AA c k=BS AA c' k')):=by
 constructor
 ·
  intro e;rcases LU hok hk h4 with ⟨g1,e1⟩|⟨g1,j,j1,j2,j3,e1⟩
  ·
   rcases LU hok' hk' h4' with ⟨g2,e2⟩|⟨g2,j',l1,l2,l3,e2⟩
   ·
    rw[e1,e2] at e;obtain⟨rfl,rfl⟩:=Mn hk hk' (Ko h4) (Ko h4') (by omega);exact⟨rfl,.inl rfl⟩
   ·
    rw[e1,e2] at e;obtain⟨rfl,rfl⟩:=Mn (k':=j') hk (by omega) (Ko h4) (En (k:=j') hok' (by omega) (by rw[l2];exact g2)).2.2 (by omega);exact absurd (l2.symm.trans g1) g2
  ·
   rcases LU hok' hk' h4' with ⟨g2,e2⟩|⟨g2,j',l1,l2,l3,e2⟩
   ·
    rw[e1,e2] at e;obtain⟨rfl,rfl⟩:=Mn (k:=j) (by omega) hk' (En (k:=j) hok (by omega) (by rw[j2];exact g1)).2.2 (Ko h4') (by omega);exact absurd (j2.symm.trans g2) g1
   ·
    rw[e1,e2] at e;obtain⟨rfl,rfl⟩:=Mn (k:=j) (k':=j') (by omega) (by omega) (En (k:=j) hok (by omega) (by rw[j2];exact g1)).2.2 (En (k:=j') hok' (by omega) (by rw[l2];exact g2)).2.2 (by omega);exact⟨rfl,.inr ⟨g1,by rw[<-j2,l2]⟩⟩
 ·
  rintro⟨rfl,rfl|⟨g1,g2⟩⟩
  . rfl
  ·
   rcases LU hok hk h4 with ⟨g0,_⟩|⟨_,j,j1,j2,j3,e1⟩
   . exact absurd g0 g1
   rcases LU hok' hk' h4' with ⟨g0,_⟩|⟨_,j',l1,l2,l3,e2⟩
   . rw[g0] at g2;exact absurd g2 g1
   rw[e1,e2]
   have:j=j':=by
    by_cases a:j<j'
    . exact absurd (by rw[j2,g2]) (l3 j a)
    by_cases a':j'<j
    . exact absurd (by rw[l2,g2]) (j3 j' a')
    omega
   rw[this]
def Kt (d:Dd)(i:Nat):Bool:=decide (d.1≠2)&&decide (i=0)
def Ye (d:Dd)(i:Nat):Int:=if Kt d i=true then 0 else d.2.2.1
theorem WF {c k:Nat}{d:Dd}{z:Int}(hd:d.1=1\/d.1=2\/d.1=3\/d.1=4){i:Nat}(hi:i<FM d):(Cr c k d z)[i]? = some ((c:Int),(k:Int),Kt d i,d.2.1,Ye d i,z):=by
 unfold FM at hi;unfold Cr Ye Kt;rcases hd with h|h|h|h
 ·
  rw[if_neg (by omega),if_neg (by omega)] at hi;rw[if_neg (by omega),if_neg (by omega),if_neg (by omega)];obtain rfl:i=0:=by omega
  simp[h]
 ·
  rw[if_neg (by omega),if_neg (by omega)] at hi;rw[if_neg (by omega),if_neg (by omega),if_pos h];obtain rfl:i=0:=by omega
  simp[h]
 ·
  rw[if_neg (by omega),if_pos h] at hi;rw[if_neg (by omega),if_pos h];rcases (by omega:i=0\/i=1) with rfl|rfl
  . simp[h]
  . simp
 ·
  rw[if_pos h] at hi;omega
structure Dz (AA:List (List Dd))(j c k i:Nat):Prop where
 hc:c<AA.length
 hk:k<(AA.getD c []).length
 hi:i<FM (Ak AA c k)
 hj:j=AY AA c k+i
theorem Dz.kind {AA:List (List Dd)}{j c k i:Nat}(h:Dz AA j c k i):(Ak AA c k).1≠4:=by
 intro e;have:=h.hi;unfold FM at this;rw[if_pos e] at this;omega
theorem GV {AA:List (List Dd)}(hb:AO AA=true){j:Nat}(h3:3<=j)(hj:j<(AB AA).length):∃c k i,Dz AA j c k i:=by
 rw[AB,if_pos hb] at hj;obtain⟨c,k,i,h1,h2,h4,h5⟩:=Zo AA h3 AA.length hj;exact⟨c,k,i,h1,h2,h4,h5⟩
theorem Dz.at {AA:List (List Dd)}(hb:AO AA=true){j c k i:Nat}(h:Dz AA j c k i):(AB AA).getD j zE=((c:Int),(k:Int),Kt (Ak AA c k) i,(Ak AA c k).2.1,Ye (Ak AA c k) i,C3 AA c k):=by
 have hd:=CQ (B8 hb h.hc k h.hk);rw[AB,if_pos hb,List.getD_eq_getElem?_getD,h.hj,mY h.hc h.hk (WF hd h.hi)];rfl
theorem Dz.lt {AA:List (List Dd)}(hb:AO AA=true){j c k i:Nat}(h:Dz AA j c k i):3<=j/\j<(AB AA).length:=by
 have hd:=CQ (B8 hb h.hc k h.hk);have h1:=mY (n:=AA.length) h.hc h.hk (WF (z:=C3 AA c k) (c:=c) (k:=k) hd h.hi);have h2:=Ip AA c k;rw[AB,if_pos hb,h.hj];exact⟨by omega,(List.getElem?_eq_some_iff.1 h1).1⟩
theorem Dz.ord {AA:List (List Dd)}{j c k i j' c' k' i':Nat}(h:Dz AA j c k i)(h':Dz AA j' c' k' i'):j<j'↔c<c'\/(c=c'/\(k<k'\/(k=k'/\i<i'))):=by
 have e1:=h.hj;have e2:=h'.hj;have l1:=h.hi;have l2:=h'.hi;constructor
 ·
  intro hlt;by_cases a:c<c'
  . exact .inl a
  by_cases b:c'<c
  . have:=IG (k':=k) h'.hk (.inl b);omega
  obtain rfl:c=c':=by omega
  refine .inr ⟨rfl,?_⟩;by_cases a:k<k'
  . exact .inl a
  by_cases b:k'<k
  . have:=IG (c':=c) (k':=k) h'.hk (.inr ⟨rfl,b⟩);omega
  obtain rfl:k=k':=by omega
  exact .inr ⟨rfl,by omega⟩
 ·
  rintro (a|⟨rfl,a|⟨rfl,a⟩⟩)
  . have:=IG (k':=k') h.hk (.inl a);omega
  . have:=IG (c':=c) (k':=k') h.hk (.inr ⟨rfl,a⟩);omega
  . omega
theorem Dz.one {AA:List (List Dd)}{j c k i c' k' i':Nat}(h:Dz AA j c k i)(h':Dz AA j c' k' i'):c=c'/\k=k'/\i=i':=by
 have a:=h.ord h';have b:=h'.ord h;by_cases hc:c=c'
 ·
  subst hc;by_cases hk:k=k'
  ·
   subst hk;exact⟨rfl,rfl,by have:=h.hj;have:=h'.hj;omega⟩
  ·
   by_cases hlt:k<k'
   . have:=a.2 (.inr ⟨rfl,.inl hlt⟩);omega
   . have:=b.2 (.inr ⟨rfl,.inl (by omega)⟩);omega
 ·
  by_cases hlt:c<c'
  . have:=a.2 (.inl hlt);omega
  . have:=b.2 (.inl (by omega));omega
theorem MU {ds:List Dd}(ht:yO ds){j k:Nat}(hk:k<ds.length)(hg:(ds.getD k zD).2.2.2≠0)(e:(ds.getD j zD).2.2.2=(ds.getD k zD).2.2.2):∀m:Nat,j+m<k->(ds.getD (k-1-m) zD).2.2.2=(ds.getD k zD).2.2.2
 | 0,h=>ht k j hk (by omega) hg e
 |m+1,h=>by
  have ih:=MU ht hk hg e m (by omega);have h2:=ht (k-1-m) j (by omega) (by omega) (by rw[ih];exact hg) (by rw[ih];exact e);rw[show k-1-(m+1)=k-1-m-1 by omega,h2,ih]
theorem MF {AA:List (List Dd)}(hb:AO AA=true){c j k l:Nat}(hc:c<AA.length)(h1:j<=k)(h2:k<=l)(hl:l<(AA.getD c []).length)(hg:BS AA c l≠0)(e:BS AA c j=BS AA c l):BS AA c k=BS AA c l:=by
 by_cases a:k=l
 . rw[a]
 by_cases b:k=j
 . rw[b];exact e
 have:=MU (Tr hb c hc) hl hg e (l-1-k) (by omega);rw[show l-1-(l-1-k)=k by omega] at this;exact this
def iC (es:List Ev)(r:Int):Int:=(es.getD r.toNat zE).2.2.2.1
def W8 (es:List Ev)(rs:List Int):Nat->List (List Int)
 | 0=>[]
 |k+1=>W8 es rs k++[AV (Ju (iC es (rs.getD k 0))) es]
def NF (es:List Ev):List (List Int):=W8 es (AV Ad es) (AV Ad es).length
theorem GF (es:List Ev)(rs:List Int):∀k:Nat,(W8 es rs k).length=k
 | 0=>rfl
 |k+1=>by rw[W8,List.length_append,GF es rs k];rfl
theorem NA (es:List Ev)(rs:List Int):∀(k i:Nat),i<k->(W8 es rs k).getD i []=AV (Ju (iC es (rs.getD i 0))) es
 | 0,i,h=>by omega
 |k+1,i,h=>by
  rw[W8];by_cases hi:i<k
  . rw[List.getD_eq_getElem?_getD,List.getElem?_append_left (by rw[GF];exact hi),<-List.getD_eq_getElem?_getD,NA es rs k i hi]
  ·
   obtain rfl:i=k:=by omega
   rw[List.getD_eq_getElem?_getD,List.getElem?_append_right (by rw[GF];exact Nat.le_refl _),GF];simp
def Hf (l:List Int)(n:Int):Bool:=l.any (·==n)
def fI (c:List (List Int))(from':List Int):Nat->Bool
 | 0=>true
 |k+1=>fI c from' k&&Hf (c.getD k []) (from'.getD k 0)
def Tb (c:List (List Int))(from':List Int):Bool:=decide (c.length=from'.length)&&fI c from' c.length
def RS (AA:List (List Dd))(from':List Int):Bool:=AO AA&&Tb (NF (AB AA)) from'
theorem OW {c:List (List Int)}{f:List Int}:∀k:Nat,fI c f k=true↔∀i,i<k->Hf (c.getD i []) (f.getD i 0)=true
 | 0=>by simp[fI]
 |k+1=>by
  rw[fI,Bool.and_eq_true,OW k];constructor
  ·
   rintro⟨h1,h2⟩ i hi;by_cases e:i=k
   . subst e;exact h2
   . exact h1 i (by omega)
  ·
   intro h;exact⟨fun i hi=>h i (by omega),h k (by omega)⟩
abbrev Nt:=Int×Int×Int
structure Bd where
 AM:List Int
 AQ:List Int
 AG:List (List Nt)
 AK:List Int
 sn:List Int
 fr:List Int
 rws:List (List Int)
def CM (AA:List (List Dd)):Bd:=
 { AM:=[0,0,0],AQ:=[0,1,2],AG:=List.replicate AA.length [],AK:=List.replicate AA.length 0,sn:=List.replicate (AV Ad (AB AA)).length (-1),fr:=List.replicate (AV Ad (AB AA)).length (-1),rws:=[[0],[1],[2]] }
def Ct (b:Bd)(c p:Nat):Int×Int:=
 match (b.AG.getD c []).reverse.find? (fun x=>x.1==(p:Int)) with
 |some x=>x.2
 |none=>(b.AM.getD p 0,b.AQ.getD p 0)
def Gr (rs:List Int)(ev v:Int)(l:List Int):List Int:=List.zipWith (fun r x=>if r=ev then v else x) rs l
def FY (rs:List Int)(b:Bd)(ev v f:Int):Bd:={ b with sn:=Gr rs ev v b.sn,fr:=Gr rs ev f b.fr }
def Dq (b:Bd)(p:Nat)(v ev:Int):Bd:={ b with AM:=b.AM.set p v,AQ:=b.AQ.set p ev,rws:=b.rws.set p (b.rws.getD p []++[ev]) }
def LH (es:List Ev)(c k:Nat):Int:=
 match (List.range es.length).find? (fun i=>decide (3<=i)&&((es.getD i zE).1==(c:Int))&&((es.getD i zE).2.1==(k:Int))) with
 |some i=>(i:Int)
 |none=>-1
def BH (AA:List (List Dd))(es:List Ev)(b:Bd)(c k:Nat):Bd:=
 if (Ak AA c k).1=1 then FY (AV Ad es) b (LH es c k) (Ct b c (Ak AA c k).2.1.toNat).1 (Ct b c (Ak AA c k).2.1.toNat).2
 else if (Ak AA c k).1=3 then
  Dq (FY (AV Ad es) b (LH es c k) (b.AM.getD (Ak AA c k).2.1.toNat 0) (b.AQ.getD (Ak AA c k).2.1.toNat 0)) (Ak AA c k).2.1.toNat (Ak AA c k).2.2.1 (LH es c k+1)
 else if (Ak AA c k).1=2/\0<BS AA c k then Dq b (Ak AA c k).2.1.toNat (Ak AA c k).2.2.1 (LH es c k)
 else if (Ak AA c k).1=2 then { b with AG:=b.AG.set c (b.AG.getD c []++[((Ak AA c k).2.1,(Ak AA c k).2.2.1,LH es c k)]) }
 else b
def Ap (b:Bd)(c:Nat):Nat:=(b.AK.getD c 0).toNat
def Ai (AA:List (List Dd))(es:List Ev)(b:Bd)(c:Nat):Bd:=
 { BH AA es b c (Ap b c) with AK:=b.AK.set c (b.AK.getD c 0+1) }
def Ea (AA:List (List Dd))(es:List Ev)(g:Int)(c:Nat):Nat->Bd->Bd
 | 0,b=>b
 |m+1,b=>
  if g=0\/Ap (Ai AA es b c) c=(AA.getD c []).length\/BS AA c (Ap (Ai AA es b c) c)≠g then Ai AA es b c else Ea AA es g c m (Ai AA es b c)
def BA (b:Bd)(c:Nat):Bd:=
 match b.AG.getD c [] with
 | []=>b
 |x::r=>Dq { b with AG:=b.AG.set c r } x.1.toNat x.2.1 x.2.2
def Al (AA:List (List Dd))(es:List Ev)(b:Bd)(s:Int):Bd:=
 if 10<=s then BA b (s-10).toNat else Ea AA es (BS AA s.toNat (Ap b s.toNat)) s.toNat (AA.getD s.toNat []).length b
def BU (AA:List (List Dd))(b:Bd)(c:Nat):Bool:=
 decide (Ap b c<(AA.getD c []).length)&&((decide ((Ak AA c (Ap b c)).1<=2)&&decide (BS AA c (Ap b c)=0))||(b.AG.getD c []).isEmpty)
def Ah (AA:List (List Dd))(b:Bd):List Int:=
 ((List.range AA.length).filter (BU AA b)).map (fun c:Nat=>(c:Int))++((List.range AA.length).filter (fun c=>!(b.AG.getD c []).isEmpty)).map (fun c:Nat=>10+(c:Int))
def DN (AA:List (List Dd))(b:Bd):Bool:=(List.range AA.length).all (fun c=>decide ((AA.getD c []).length<=Ap b c)&&(b.AG.getD c []).isEmpty)
def Jl (AA:List (List Dd))(es:List Ev)(b:Bd):List Int->Bd
 | []=>b
 |s::r=>Jl AA es (if Hf (Ah AA b) s=true then Al AA es b s else b) r
end Go.Proofs.YtnmelakgmgenjaaGreat
