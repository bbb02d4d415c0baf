/- Gathered texts. -/
import Derived.Test.YtnmelakgmgenjaaGreatMD
import Derived.Maps.AppendAt
import Derived.RegionTactic
import Derived.Shelf.SlSortCmp.Whole1
import Derived.Shelf.SlGeneric
import Derived.Ground.SlsfProg
import Derived.Test.YtnmelakgmgenjaaGreatProg
set_option maxRecDepth 100000
set_option maxHeartbeats 8000000
namespace Go.Proofs.YtnmelakgmgenjaaGreat
open Go.ChangeShapes Go.WideShapes Go.ChangeAt Go.RowKit
open Go.RowKit
open Go.Shelf
theorem DF {P:Program}{w:World}{ops:Array Oper}{o:Oper}{a:Act}{K:Act->World->Prop}{Q:Exit->Act->World->Prop}{E:Prop}(hgd:o.guard=none)(s x:Operand)(t:TypeId)
  (ho:o.op = .call { callee:= .builtin .append,args:=#[s,x],argTypes:=#[t,t] })
  (base:Nat) (e:TypeId) (i:TypeInfo) (z:Value) (size bytes:Nat) (ht:P.underlying t=some (.slice e)) (hi:P.info? e=some i) (hz:i.zero=some z)
  (hsize:i.size=size) (hby:i.bytes=bytes) (hzs:z.cells.size=size) (hsz:0<size)
  (v:Value) (n:Nat) (xs:List Value) (hs:a.eval s=v) (hown:w.ownsRow base e size v n xs)
  (ad:Addr) (m c:Nat) (news:List Value) (hx:a.eval x = .slice (some ad) m c) (hl:news.length=m*size) (hnews:∀j u,news[j]? = some u->w.cell? (ad.add j)=some u) (h1:∀u∈news,u.oneCell'=true)
  (h63:n+m<=maxLen) (hbytes:(n+m)*bytes<=140737488355328) (hbase:base<=w.heap.size)
  (h:∀v' w',w'.ownsRow base e size v' (n+m) (xs++news)->w.grownBy w' v.ownBlock->(v'.ownBlock=v.ownBlock\/v'.ownBlock=some w.heap.size)->K (a.put o.dst v') w'):
  if Region.wanted o (yielded ops a.tmps)=true then Oper.wp P o a w K Q else E:=by
 have hw:Region.wanted o (yielded ops a.tmps)=true:=by simp[Region.wanted,hgd]
 rw[if_pos hw];obtain⟨v',w',hr,h2,h3,h4,h5⟩:=run_append_own_at (P:=P) w base t o.type e i z size bytes ht hi hz hsize hby hzs hsz v n xs hown ad m c news hl hnews h1 h63 hbytes hbase;unfold Oper.wp execOp;simp only[ho,resolve,invoke,builtin,Sem.run_bind,Sem.run_pure,Result.andThen_ok,List.map_toArray,List.map_cons,List.map_nil,hs,hx,hr];exact h v' w' h2 h3 h5
def Lz (ns:List Nt)(p:Int)(y:Nt)(k:Nat):Nt:=((ns.take k).reverse.find? (fun x=>x.1==p)).getD y
theorem UH (ns:List Nt)(p:Int)(y:Nt)(k:Nat)(h:k<ns.length):Lz ns p y (k+1)=if (ns.getD k (0,0,0)).1=p then ns.getD k (0,0,0) else Lz ns p y k:=by
 have e:ns.take (k+1)=ns.take k++[ns.getD k (0,0,0)]:=by
  rw[List.take_add_one,List.getD_eq_getElem?_getD,List.getElem?_eq_getElem h];rfl
 unfold Lz;rw[e,List.reverse_append];simp only[List.reverse_cons,List.reverse_nil,List.nil_append,List.cons_append,List.find?_cons];by_cases q:(ns.getD k (0,0,0)).1=p
 ·
  rw[if_pos q];have:((ns.getD k (0,0,0)).1==p)=true:=by simpa using q
  rw[this];rfl
 ·
  rw[if_neg q];have:((ns.getD k (0,0,0)).1==p)=false:=by simpa using q
  rw[this]
theorem Ww (b:Bd)(c p:Nat):(Lz (b.AG.getD c []) (p:Int) ((p:Int),b.AM.getD p 0,b.AO.getD p 0) (b.AG.getD c []).length).2=Ct b c p:=by
 unfold Lz Ct;rw[List.take_length];cases (b.AG.getD c []).reverse.find? (fun x=>x.1==(p:Int))<;>rfl
theorem ZJ {l:List Int}{n:Int}(h:∀i,i<l.length->l.getD i 0≠n):Gv l n=false:=by
 unfold Gv;rw[List.any_eq_false];intro x hx;obtain⟨i,hi,e⟩:=List.getElem_of_mem hx;have:=h i hi;rw[List.getD_eq_getElem?_getD,List.getElem?_eq_getElem hi] at this;simp only[Option.getD_some] at this;rw[<-e]
 simpa using this
theorem mH {l:List Int}{n:Int}{i:Nat}(hi:i<l.length)(h:l.getD i 0=n):Gv l n=true:=by
 unfold Gv;rw[List.any_eq_true];refine⟨n,?_,by simp⟩;rw[<-h,List.getD_eq_getElem?_getD,List.getElem?_eq_getElem hi];exact List.getElem_mem hi
def dY (AA:List (List Dd))(b:Bd):Prop:=∃a τ T z,MI AA b a τ T z/\BD AA a
theorem dY.new {AA:List (List Dd)}(hb:AQ AA=true):dY AA (Cd AA):=⟨_,_,_,_,KY hb⟩
theorem dY.step {AA:List (List Dd)}(hb:AQ AA=true){b:Bd}(h:dY AA b){s:Int}(hs:Gv (Ad AA b) s=true):dY AA (Am AA (AB AA) b s):=by
 obtain⟨a,τ,T,z,M,B⟩:=h;obtain⟨a',τ',z',M',B'⟩:=Sp hb M B hs;exact⟨a',τ',_,z',M',B'⟩
theorem dY.board {AA:List (List Dd)}(hb:AQ AA=true){b:Bd}(h:dY AA b):AW AA b=true:=by
 obtain⟨a,τ,T,z,M,_⟩:=h;exact IK hb M
theorem Sb {w:World}{b off:Nat}{zs:List Int}(hc:∀i,i<zs.length->w.cell? ⟨b,off+i,none⟩=some (.int .i64 (zs.getD i 0))):
  ∀j u,(zs.map (Value.int .i64))[j]? = some u->w.cell? ((⟨b,off,none⟩:Addr).add j)=some u:=by
 intro j u hj;rw[List.getElem?_map] at hj
 have hjl:j<zs.length:=by
  apply Classical.byContradiction;intro hno;rw[List.getElem?_eq_none (by omega)] at hj;cases hj
 have e1:(⟨b,off,none⟩:Addr).add j=⟨b,off+j,none⟩:=by unfold Addr.add;split<;>simp_all
 rw[e1,hc j hjl,List.getD_eq_getElem?_getD];rw[List.getElem?_eq_getElem hjl] at hj ⊢
 simpa using hj
theorem ZI (zs:List Int):∀u∈zs.map (Value.int .i64),u.oneCell'=true:=by
 intro u hu;obtain⟨y,_,rfl⟩:=List.mem_map.1 hu;rfl
def Mn (AA:List (List Dd))(b:Bd):Bool:=(List.range AA.length).all (fun c=>decide (((AA.getD c []).length:Int)<=b.AL.getD c 0)&&(b.AG.getD c []).isEmpty)
def JW (AA:List (List Dd))(b:Bd):Bool:=AW AA b&&Mn AA b
def Em (AA:List (List Dd))(b:Bd):List Int:=if AW AA b=true then b.sn++b.AM else []
def Tryz.jA:Go.Shelf.Ren:=⟨fun|6=>67|15=>98|14=>97|28=>128|29=>129|20=>120|21=>121|22=>122|23=>123|24=>124|25=>125|26=>126|27=>127|46=>150|47=>151|48=>152|49=>153|50=>154|57=>165|n=>n,fun|22=>26|24=>28|25=>89|3=>3|39=>116|0=>0|53=>145|55=>147|4=>4|46=>139|45=>138|50=>125|5=>5|9=>9|66=>170|70=>174|76=>182|77=>183|n=>n,fun|n=>n⟩
theorem Tryz.srt:Go.Proofs.SlLaysF.n6 Tryz.prog Tryz.jA:={
 mixed:=by kernel_rfl
 f6:=⟨Tryz.f67.name,by decide,Tryz.func67.trans (congrArg some (by kernel_rfl))⟩
 f14:=⟨Tryz.f97.name,by decide,Tryz.func97.trans (congrArg some (by kernel_rfl))⟩
 f15:=Tryz.func98.trans (congrArg some (by kernel_rfl))
 f20:=⟨Tryz.f120.name,by decide,Tryz.func120.trans (congrArg some (by kernel_rfl))⟩
 f21:=⟨Tryz.f121.name,by decide,Tryz.func121.trans (congrArg some (by kernel_rfl))⟩
 f22:=⟨Tryz.f122.name,by decide,Tryz.func122.trans (congrArg some (by kernel_rfl))⟩
 f23:=⟨Tryz.f123.name,by decide,Tryz.func123.trans (congrArg some (by kernel_rfl))⟩
 f24:=⟨Tryz.f124.name,by decide,Tryz.func124.trans (congrArg some (by kernel_rfl))⟩
 f25:=⟨Tryz.f125.name,by decide,Tryz.func125.trans (congrArg some (by kernel_rfl))⟩
 f26:=⟨Tryz.f126.name,by decide,Tryz.func126.trans (congrArg some (by kernel_rfl))⟩
 f27:=⟨Tryz.f127.name,by decide,Tryz.func127.trans (congrArg some (by kernel_rfl))⟩
 f28:=Tryz.func128.trans (congrArg some (by kernel_rfl))
 f29:=Tryz.func129.trans (congrArg some (by kernel_rfl))
 f46:=⟨Tryz.f150.name,by decide,Tryz.func150.trans (congrArg some (by kernel_rfl))⟩
 f47:=Tryz.func151.trans (congrArg some (by kernel_rfl))
 f48:=Tryz.func152.trans (congrArg some (by kernel_rfl))
 f49:=⟨Tryz.f153.name,by decide,Tryz.func153.trans (congrArg some (by kernel_rfl))⟩
 f50:=⟨Tryz.f154.name,by decide,Tryz.func154.trans (congrArg some (by kernel_rfl))⟩
 f57:=⟨Tryz.f165.name,by decide,Tryz.func165.trans (congrArg some (by kernel_rfl))⟩
 t0:=Tryz.underlying0
 a0:=Tryz.isAgg0
 z0:=Tryz.sizeOf0
 v0:=Tryz.zeroValue0
 t3:=Tryz.underlying3
 a3:=Tryz.isAgg3
 z3:=Tryz.sizeOf3
 v3:=Tryz.zeroValue3
 t4:=Tryz.underlying4
 a4:=Tryz.isAgg4
 z4:=Tryz.sizeOf4
 v4:=Tryz.zeroValue4
 t5:=Tryz.underlying5
 a5:=Tryz.isAgg5
 z5:=Tryz.sizeOf5
 v5:=Tryz.zeroValue5
 t9:=Tryz.underlying9
 a9:=Tryz.isAgg9
 z9:=Tryz.sizeOf9
 v9:=Tryz.zeroValue9
 t22:=Tryz.underlying26
 a22:=Tryz.isAgg26
 z22:=Tryz.sizeOf26
 v22:=Tryz.zeroValue26
 a24:=Tryz.isAgg28
 z24:=Tryz.sizeOf28
 t25:=Tryz.underlying89
 a25:=Tryz.isAgg89
 z25:=Tryz.sizeOf89
 v25:=Tryz.zeroValue89
 t39:=Tryz.underlying116
 a39:=Tryz.isAgg116
 z39:=Tryz.sizeOf116
 v39:=Tryz.zeroValue116
 t45:=Tryz.underlying138
 a45:=Tryz.isAgg138
 z45:=Tryz.sizeOf138
 v45:=Tryz.zeroValue138
 t46:=Tryz.underlying139
 a46:=Tryz.isAgg139
 z46:=Tryz.sizeOf139
 v46:=Tryz.zeroValue139
 t50:=Tryz.underlying125
 a50:=Tryz.isAgg125
 z50:=Tryz.sizeOf125
 v50:=Tryz.zeroValue125
 t53:=Tryz.underlying145
 a53:=Tryz.isAgg145
 z53:=Tryz.sizeOf145
 v53:=Tryz.zeroValue145
 t55:=Tryz.underlying147
 a55:=Tryz.isAgg147
 z55:=Tryz.sizeOf147
 v55:=Tryz.zeroValue147
 t66:=Tryz.underlying170
 a66:=Tryz.isAgg170
 z66:=Tryz.sizeOf170
 v66:=Tryz.zeroValue170
 t70:=Tryz.underlying174
 a70:=Tryz.isAgg174
 z70:=Tryz.sizeOf174
 v70:=Tryz.zeroValue174
 t76:=Tryz.underlying182
 a76:=Tryz.isAgg182
 z76:=Tryz.sizeOf182
 v76:=Tryz.zeroValue182
 t77:=Tryz.underlying183
 a77:=Tryz.isAgg183
 z77:=Tryz.sizeOf183
 v77:=Tryz.zeroValue183 }
def Ny (x y:Int):Int:=if x<y then -1 else if y<x then 1 else 0
def GP:List Int->List Int->Int
 | [],[]=>0
 | [],_::_=>-1
 |_::_,[]=>1
 |x::xs,y::ys=>if Ny x y=0 then GP xs ys else Ny x y
theorem Mj (x y:Int):(x<y/\Ny x y=-1)\/(y<x/\Ny x y=1)\/(x=y/\Ny x y=0):=by
 unfold Ny;by_cases h1:x<y
 . exact .inl ⟨h1,if_pos h1⟩
 ·
  by_cases h2:y<x
  . exact .inr (.inl ⟨h2,by rw[if_neg h1,if_pos h2]⟩)
  . exact .inr (.inr ⟨by omega,by rw[if_neg h1,if_neg h2]⟩)
theorem Gm {xs:List Int}{k:Nat}(h:k<xs.length):xs.drop k=xs.getD k 0::xs.drop (k+1):=by
 rw[List.drop_eq_getElem_cons h,List.getD_eq_getElem?_getD,List.getElem?_eq_getElem h];rfl
theorem WA {xs ys:List Int}{k:Nat}(h1:k<xs.length)(h2:k<ys.length):GP (xs.drop k) (ys.drop k)=if Ny (xs.getD k 0) (ys.getD k 0)=0 then GP (xs.drop (k+1)) (ys.drop (k+1)) else Ny (xs.getD k 0) (ys.getD k 0):=by
 rw[Gm h1,Gm h2,GP]
theorem V9 {xs ys:List Int}{k:Nat}(h1:k<xs.length)(h2:ys.length<=k):GP (xs.drop k) (ys.drop k)=1:=by
 rw[Gm h1,List.drop_eq_nil_of_le h2,GP]
theorem Yf {xs ys:List Int}{k:Nat}(h1:xs.length<=k)(h2:k<=ys.length)(h3:k<=xs.length):GP (xs.drop k) (ys.drop k)=if xs.length<ys.length then -1 else 0:=by
 rw[List.drop_eq_nil_of_le h1];by_cases h:k<ys.length
 . rw[Gm h,GP,if_pos (by omega)]
 . rw[List.drop_eq_nil_of_le (by omega),GP,if_neg (by omega)]
theorem Oj:∀xs ys:List Int,decide (GP xs ys<0)=Bu xs ys
 | [],[]=>rfl
 | [],_::_=>rfl
 |_::_,[]=>rfl
 |x::xs,y::ys=>by
  have ih:=Oj xs ys;rw[GP,Bu];rcases Mj x y with ⟨h,e⟩|⟨h,e⟩|⟨h,e⟩
  ·
   rw[e];have:¬x=y:=by omega
   simp[this,h]
  ·
   rw[e];have h1:¬x=y:=by omega
   have h2:¬x<y:=by omega
   simp[h1,h2]
  ·
   rw[e];subst h
   simpa using ih
theorem Rm {AA:List (List Dd)}{b:Bd}(hb:AW AA b=true):Mn AA b=Co AA b:=by
 unfold Mn Co;rw[List.all_eq,List.all_eq]
 congr 1
 apply propext;constructor
 all_goals
  intro h c hc;have hq:=h c hc
  have hck:Ln AA ((AB AA).length:Int) b c=true:=by
   unfold AW at hb;simp only[Bool.and_eq_true] at hb;exact List.all_eq_true.1 hb.2.2.2 c hc
  unfold Ln at hck;simp only[Bool.and_eq_true,decide_eq_true_eq] at hck;rw[Bool.and_eq_true,decide_eq_true_eq] at hq ⊢;refine⟨?_,hq.2⟩;unfold Ao at *;omega
def p8 (b:Bd):Prop:=(∀c,(b.AG.getD c []).length<=7)/\∀p,(b.rws.getD p []).length<=15
theorem mQ {AA:List (List Dd)}{b:Bd}{a:Ab}{τ:Nat->Nat}{T:Nat}{z:Int}(M:MI AA b a τ T z):(∀c,(b.AG.getD c []).length<=6)/\∀p,(b.rws.getD p []).length<=9:=by
 have h9:=Px AA;have R:=M.Bz;have I:=M.inv;refine⟨fun c=>?_,fun p=>?_⟩
 ·
  by_cases hc:c<AA.length
  ·
   rw[R.AG,Cr _ _ hc,List.length_map]
   have hnd:(a.N c).Nodup:=by
    have:=I.LQ (c:Int);rw[Hh] at this;exact this.imp (fun h=>Nat.ne_of_lt h)
   have:=Im (lo:=3) (n:=(AB AA).length) hnd (fun x hx=>by
    have hx':x∈(C3 AA a τ).N (c:Int):=by rw[Hh];exact hx
    have:=I.note (c:Int) x hx'
    exact⟨this.2.1,I.lt x this.1⟩)
   omega
  . rw[List.getD_eq_getElem?_getD,List.getElem?_eq_none (by rw[R.AG,List.length_map,List.length_range];omega)];simp
 ·
  by_cases hp:p<3
  ·
   rw[R.rws,Cr _ _ hp,List.length_map];have:=Im (lo:=0) (n:=(AB AA).length) (I.OQ p) (fun x hx=>⟨Nat.zero_le _,I.lt x ((I.rows p x).1 hx).1.1⟩);have e:(C3 AA a τ).R p=a.R p:=rfl;rw[e] at this;omega
  . rw[List.getD_eq_getElem?_getD,List.getElem?_eq_none (by rw[R.rws,List.length_map,List.length_range];omega)];simp
theorem mM {b:Bd}(h:(∀c,(b.AG.getD c []).length<=6)/\∀p,(b.rws.getD p []).length<=9):p8 b:=⟨fun c=>by have:=h.1 c;omega,fun p=>by have:=h.2 p;omega⟩
def Jb (Aq:List (List Int))(x:List Int):Bool:=decide (x∈Aq)
theorem Rz {Aq:List (List Int)}{x:List Int}{k:Nat}(hk:k<Aq.length)(e:Aq.getD k []=x):Jb Aq x=true:=by
 unfold Jb;rw[decide_eq_true_eq,<-e,List.getD_eq_getElem?_getD,List.getElem?_eq_getElem hk];exact List.getElem_mem hk
theorem PA {Aq:List (List Int)}{x:List Int}(h:∀q,q<Aq.length->Aq.getD q []≠x):Jb Aq x=false:=by
 unfold Jb;rw[decide_eq_false_iff_not];intro hm;obtain⟨i,hi,e⟩:=List.getElem_of_mem hm;refine h i hi ?_;rw[List.getD_eq_getElem?_getD,List.getElem?_eq_getElem hi];exact e
end Go.Proofs.YtnmelakgmgenjaaGreat
