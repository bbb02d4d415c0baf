/- Gathered texts. -/
import Derived.Test.YtnmelakgmgenjaaGreatMC
import Derived.Test.YtnmelakgmgenjaaGreatRows
import Derived.OpenShut
import Derived.Below
import Derived.WalkSmall
import Derived.Laws.Rows
import Derived.Laws.ResultCell
import Derived.Maps.AppendAt
import Derived.Laws.OwnMore
import Derived.OwnWalk
import Derived.Laws.Tables
import Derived.Deep.RegionHeld3
import Derived.Orders
set_option maxRecDepth 100000
set_option maxHeartbeats 8000000
namespace Go.Proofs.YtnmelakgmgenjaaGreat
open Go
open Go.ChangeShapes Go.WideShapes Go.ChangeAt Go.RowKit
open Go.RowKit
structure Di (AA:List (List Dd))(b:Bd)(n:Nat):Prop where
 work:AQ AA=true
 AM:b.AM.length=3
 AO:b.AO.length=3
 rws:b.rws.length=3
 AG:b.AG.length=AA.length
 AL:b.AL.length=AA.length
 sn:b.sn.length=(AX Ah (AB AA)).length
 fr:b.fr.length=(AX Ah (AB AA)).length
 rl:∀p,(b.rws.getD p []).length<=n
 nl:∀c,(b.AG.getD c []).length<=n
theorem Di.mono {AA:List (List Dd)}{b:Bd}{n m:Nat}(h:Di AA b n)(hm:n<=m):Di AA b m:=
 ⟨h.work,h.AM,h.AO,h.rws,h.AG,h.AL,h.sn,h.fr,fun p=>Nat.le_trans (h.rl p) hm,fun c=>Nat.le_trans (h.nl c) hm⟩
theorem Ji {α:Type}{l:List (List α)}{n:Nat}(h:∀i,(l.getD i []).length<=n)(k:Nat)(z:List α)(hz:z.length<=n):∀i,((l.set k z).getD i []).length<=n:=fun i=>by
 rw[List.getD_eq_getElem?_getD,List.getElem?_set];by_cases e:k=i
 ·
  rw[if_pos e];by_cases hk:k<l.length
  . rw[if_pos hk];exact hz
  . rw[if_neg hk];simp
 . rw[if_neg e,<-List.getD_eq_getElem?_getD];exact h i
theorem Km {rs:List Int}{ev v:Int}{l:List Int}(h:l.length=rs.length):(G3 rs ev v l).length=rs.length:=by unfold G3;rw[List.length_zipWith];omega
theorem Di.see {AA:List (List Dd)}{b:Bd}{n:Nat}(h:Di AA b n)(ev v f:Int):Di AA (Fo (AX Ah (AB AA)) b ev v f) n:=
 ⟨h.work,h.AM,h.AO,h.rws,h.AG,h.AL,Km h.sn,Km h.fr,h.rl,h.nl⟩
theorem Di.ZH {AA:List (List Dd)}{b:Bd}{n:Nat}(h:Di AA b n)(p:Nat)(v ev:Int):Di AA (Dn b p v ev) (n+1):=
 ⟨h.work,by simp[Dn,h.AM],by simp[Dn,h.AO],by simp[Dn,h.rws],h.AG,h.AL,h.sn,h.fr,
  Ji (fun i=>Nat.le_succ_of_le (h.rl i)) p _ (by have:=h.rl p;rw[List.length_append,List.length_singleton];omega),fun c=>Nat.le_succ_of_le (h.nl c)⟩
theorem Di.note {AA:List (List Dd)}{b:Bd}{n:Nat}(h:Di AA b n)(c:Nat)(x:Nt):Di AA { b with AG:=b.AG.set c (b.AG.getD c []++[x]) } (n+1):=
 ⟨h.work,h.AM,h.AO,h.rws,by simp[h.AG],h.AL,h.sn,h.fr,fun p=>Nat.le_succ_of_le (h.rl p),
  Ji (fun i=>Nat.le_succ_of_le (h.nl i)) c _ (by have:=h.nl c;rw[List.length_append,List.length_singleton];omega)⟩
theorem Di.less {AA:List (List Dd)}{b:Bd}{n:Nat}(h:Di AA b n)(c:Nat)(l:List Nt)(hl:l.length<=n):Di AA { b with AG:=b.AG.set c l } n:=
 ⟨h.work,h.AM,h.AO,h.rws,by simp[h.AG],h.AL,h.sn,h.fr,h.rl,Ji h.nl c _ hl⟩
theorem Di.deed {AA:List (List Dd)}{b:Bd}{n:Nat}(h:Di AA b n)(c k:Nat):Di AA (BL AA (AB AA) b c k) (n+1):=by
 unfold BL;split
 . exact (h.see _ _ _).mono (Nat.le_succ n)
 ·
  split
  . exact (h.see _ _ _).ZH _ _ _
  ·
   split
   . exact h.ZH _ _ _
   ·
    split
    . exact h.note c _
    . exact h.mono (Nat.le_succ n)
theorem Di.next {AA:List (List Dd)}{b:Bd}{n:Nat}(h:Di AA b n)(c:Nat)(x:Int):Di AA { b with AL:=b.AL.set c x } n:=
 ⟨h.work,h.AM,h.AO,h.rws,h.AG,by simp[h.AL],h.sn,h.fr,h.rl,h.nl⟩
theorem Ml (AA:List (List Dd))(es:List Ev)(b:Bd)(c k:Nat):(BL AA es b c k).AL=b.AL:=by
 unfold BL;split
 . rfl
 ·
  split
  . rfl
  ·
   split
   . rfl
   . split<;>rfl
theorem Di.one {AA:List (List Dd)}{b:Bd}{n:Nat}(h:Di AA b n)(c:Nat):Di AA (Aj AA (AB AA) b c) (n+1):=by
 have:=(h.deed c (Ao b c)).next c (b.AL.getD c 0+1);rw[Ml] at this;exact this
theorem Di.of {AA:List (List Dd)}{b:Bd}(h:AW AA b=true):Di AA b 20:=by
 simp only[AW,C1,EU,EN,Bool.and_eq_true,decide_eq_true_eq] at h;obtain⟨⟨hw,h1,h2,h3,h4,h5⟩,⟨h6,h7,-⟩,h8,h9⟩:=h;refine⟨hw,h1,h2,h3,h4,h5,h6,h7,fun p=>?_,fun c=>?_⟩
 ·
  by_cases hp:p<3
  ·
   have:=List.all_eq_true.1 h8 p (List.mem_range.2 hp);simp only[DW,Bool.and_eq_true,decide_eq_true_eq] at this;exact this.2
  . rw[List.getD_eq_getElem?_getD,List.getElem?_eq_none (by omega)];simp
 ·
  by_cases hc:c<AA.length
  ·
   have:=List.all_eq_true.1 h9 c (List.mem_range.2 hc);simp only[Ln,Bool.and_eq_true,decide_eq_true_eq] at this;omega
  . rw[List.getD_eq_getElem?_getD,List.getElem?_eq_none (by omega)];simp
theorem Fq {AA:List (List Dd)}{b:Bd}(h:AW AA b=true){c:Nat}(hc:c<AA.length):0<=b.AL.getD c 0/\b.AL.getD c 0<=((AA.getD c []).length:Int):=by
 simp only[AW,Bool.and_eq_true] at h;have:=List.all_eq_true.1 h.2.2.2 c (List.mem_range.2 hc);simp only[Ln,Bool.and_eq_true,decide_eq_true_eq] at this;exact this.1
structure RB (AA:List (List Dd))(b:Bd)(N:Nat->Nat)(m:Nat):Prop where
 work:AQ AA=true
 AM:b.AM.length=3
 AO:b.AO.length=3
 rws:b.rws.length=3
 AG:b.AG.length=AA.length
 AL:b.AL.length=AA.length
 sn:b.sn.length=(AX Ah (AB AA)).length
 fr:b.fr.length=(AX Ah (AB AA)).length
 vp:∀x∈b.AM,0<=x/\x<=9
 vl:∀x∈b.AO,0<=x/\x<=((AB AA).length:Int)-1
 vs:∀x∈b.sn,-1<=x/\x<=9
 vf:∀x∈b.fr,-1<=x/\x<=((AB AA).length:Int)-1
 rl:∀p,(b.rws.getD p []).length<=m/\∀x∈b.rws.getD p [],0<=x/\x<=((AB AA).length:Int)-1
 nl:∀c,(b.AG.getD c []).length<=N c/\∀x∈b.AG.getD c [],(0<=x.1/\x.1<=2)/\(0<=x.2.1/\x.2.1<=9)/\0<=x.2.2/\x.2.2<=((AB AA).length:Int)-1
 nx:∀c,c<AA.length->0<=b.AL.getD c 0/\b.AL.getD c 0<=((AA.getD c []).length:Int)
theorem Ox {α:Type}{l:List α}{z:α}{i:Nat}(h:¬i<l.length):l.getD i z=z:=by rw[List.getD_eq_getElem?_getD,List.getElem?_eq_none (by omega)];rfl
theorem KB {α:Type}{l:List α}{z:α}{i:Nat}(h:i<l.length):l.getD i z∈l:=by rw[List.getD_eq_getElem?_getD,List.getElem?_eq_getElem h];exact List.getElem_mem h
theorem Hq {l:List Int}{lo hi:Int}{most:Nat}(h:DW l lo hi most=true):(∀x∈l,lo<=x/\x<=hi)/\l.length<=most:=by
 simp only[DW,Bool.and_eq_true,decide_eq_true_eq,List.all_eq_true] at h;exact h
theorem Js {l:List Int}{lo hi:Int}{most:Nat}(h:∀x∈l,lo<=x/\x<=hi)(hl:l.length<=most):DW l lo hi most=true:=by
 simp only[DW,Bool.and_eq_true,decide_eq_true_eq,List.all_eq_true];exact⟨h,hl⟩
theorem RB.of {AA:List (List Dd)}{b:Bd}(h:AW AA b=true){N:Nat->Nat}{m:Nat}(hN:∀c,(b.AG.getD c []).length<=N c)(hm:∀p,(b.rws.getD p []).length<=m):RB AA b N m:=by
 simp only[AW,C1,EU,EN,Bool.and_eq_true,decide_eq_true_eq] at h;obtain⟨⟨hw,h1,h2,h3,h4,h5⟩,⟨h6,h7,p1,p2,p3,p4⟩,h8,h9⟩:=h;refine⟨hw,h1,h2,h3,h4,h5,h6,h7,(Hq p1).1,(Hq p2).1,(Hq p3).1,(Hq p4).1,fun p=>⟨hm p,?_⟩,fun c=>⟨hN c,?_⟩,fun c hc=>?_⟩
 ·
  by_cases hp:p<3
  . exact (Hq (List.all_eq_true.1 h8 p (List.mem_range.2 hp))).1
  . rw[Ox (by omega)];simp
 ·
  by_cases hc:c<AA.length
  ·
   have:=List.all_eq_true.1 h9 c (List.mem_range.2 hc);simp only[Ln,MH,Tv,Bool.and_eq_true,decide_eq_true_eq,List.all_eq_true] at this;exact this.2.2
  . rw[Ox (by omega)];simp
 ·
  have:=List.all_eq_true.1 h9 c (List.mem_range.2 hc);simp only[Ln,Bool.and_eq_true,decide_eq_true_eq] at this;exact this.1
theorem RB.board {AA:List (List Dd)}{b:Bd}{N:Nat->Nat}{m:Nat}(h:RB AA b N m)(hN:∀c,N c<=8)(hm:m<=20):AW AA b=true:=by
 have h9:=Px AA
 have hr:(AX Ah (AB AA)).length<=12:=by
  unfold AX;split
  . have:=DP Ah (AB AA) (AB AA).length;omega
  . simp
 simp only[AW,C1,EU,EN,Bool.and_eq_true,decide_eq_true_eq];refine⟨⟨h.work,h.AM,h.AO,h.rws,h.AG,h.AL⟩,⟨h.sn,h.fr,Js h.vp (by rw[h.AM];omega),Js h.vl (by rw[h.AO];omega),Js h.vs (by rw[h.sn];omega),Js h.vf (by rw[h.fr];omega)⟩,?_,?_⟩
 ·
  rw[List.all_eq_true];exact fun p _=>Js (h.rl p).2 (by have:=(h.rl p).1;omega)
 ·
  rw[List.all_eq_true];intro c hc;simp only[Ln,MH,Tv,Bool.and_eq_true,decide_eq_true_eq,List.all_eq_true];exact⟨h.nx c (List.mem_range.1 hc),by have:=(h.nl c).1;have:=hN c;omega,(h.nl c).2⟩
theorem NK {α:Type}{l:List α}{i:Nat}{v x:α}(h:x∈l.set i v):x∈l\/x=v:=by
 rcases List.mem_or_eq_of_mem_set h with h|h
 . exact .inl h
 . exact .inr h
theorem Uz {rs:List Int}{ev v:Int}:∀ {l:List Int} {x:Int},x∈G3 rs ev v l->x∈l\/x=v:=by
 induction rs with
 |nil=>intro l x h;simp[G3] at h
 |cons r t ih=>
  intro l x h
  cases l with
  |nil=>simp[G3] at h
  |cons y z=>
   simp only[G3,List.zipWith_cons_cons,List.mem_cons] at h;rcases h with h|h
   ·
    split at h
    . exact .inr h
    . exact .inl (by rw[h];simp)
   ·
    rcases ih (l:=z) (x:=x) h with h|h
    . exact .inl (List.mem_cons_of_mem _ h)
    . exact .inr h
theorem RB.see {AA:List (List Dd)}{b:Bd}{N:Nat->Nat}{m:Nat}(h:RB AA b N m)(ev v f:Int)(hv:-1<=v/\v<=9)(hf:-1<=f/\f<=((AB AA).length:Int)-1):RB AA (Fo (AX Ah (AB AA)) b ev v f) N m:=
 ⟨h.work,h.AM,h.AO,h.rws,h.AG,h.AL,Km h.sn,Km h.fr,h.vp,h.vl,fun x hx=>(Uz hx).elim (h.vs x) (fun e=>e ▸ hv),fun x hx=>(Uz hx).elim (h.vf x) (fun e=>e ▸ hf),h.rl,h.nl,h.nx⟩
theorem RB.ZH {AA:List (List Dd)}{b:Bd}{N:Nat->Nat}{m:Nat}(h:RB AA b N m)(p:Nat)(v ev:Int)(hv:0<=v/\v<=9)(he:0<=ev/\ev<=((AB AA).length:Int)-1):RB AA (Dn b p v ev) N (m+1):=by
 refine⟨h.work,by rw[<-h.AM];exact List.length_set,by rw[<-h.AO];exact List.length_set,by rw[<-h.rws];exact List.length_set,h.AG,h.AL,h.sn,h.fr,fun x hx=>(NK hx).elim (h.vp x) (fun e=>e ▸ hv),fun x hx=>(NK hx).elim (h.vl x) (fun e=>e ▸ he),h.vs,h.vf,fun q=>?_,h.nl,h.nx⟩;show ((b.rws.set p (b.rws.getD p []++[ev])).getD q []).length<=m+1/\∀x∈(b.rws.set p (b.rws.getD p []++[ev])).getD q [],_;by_cases hp:p<b.rws.length
 ·
  rw[Cy _ _ _ _ _ hp];by_cases e:p=q
  ·
   rw[if_pos e];refine⟨by have:=(h.rl p).1;rw[List.length_append,List.length_singleton];omega,fun x hx=>?_⟩;rcases List.mem_append.1 hx with hx|hx
   . exact (h.rl p).2 x hx
   . rw[List.mem_singleton.1 hx];exact he
  ·
   rw[if_neg e];exact⟨by have:=(h.rl q).1;omega,(h.rl q).2⟩
 ·
  rw[List.set_eq_of_length_le (by omega)];exact⟨by have:=(h.rl q).1;omega,(h.rl q).2⟩
theorem RB.note {AA:List (List Dd)}{b:Bd}{N N':Nat->Nat}{m:Nat}(h:RB AA b N m)(c:Nat)(l:List Nt)(hl:∀x∈l,(0<=x.1/\x.1<=2)/\(0<=x.2.1/\x.2.1<=9)/\0<=x.2.2/\x.2.2<=((AB AA).length:Int)-1)(hn:l.length<=N' c)(hN:∀i,i≠c->N i<=N' i)(hc:c<AA.length):RB AA { b with AG:=b.AG.set c l } N' m:=by
 refine⟨h.work,h.AM,h.AO,h.rws,by rw[<-h.AG];exact List.length_set,h.AL,h.sn,h.fr,h.vp,h.vl,h.vs,h.vf,h.rl,fun i=>?_,h.nx⟩;show ((b.AG.set c l).getD i []).length<=N' i/\∀x∈(b.AG.set c l).getD i [],_;rw[Cy _ _ _ _ _ (by rw[h.AG];exact hc)];by_cases e:c=i
 ·
  rw[if_pos e,<-e];exact⟨hn,hl⟩
 ·
  rw[if_neg e];exact⟨Nat.le_trans (h.nl i).1 (hN i (Ne.symm e)),(h.nl i).2⟩
theorem RB.next {AA:List (List Dd)}{b:Bd}{N:Nat->Nat}{m:Nat}(h:RB AA b N m)(c:Nat)(x:Int)(hx:0<=x/\x<=((AA.getD c []).length:Int)):RB AA { b with AL:=b.AL.set c x } N m:=by
 refine⟨h.work,h.AM,h.AO,h.rws,h.AG,by rw[<-h.AL];exact List.length_set,h.sn,h.fr,h.vp,h.vl,h.vs,h.vf,h.rl,h.nl,fun i hi=>?_⟩;show 0<=(b.AL.set c x).getD i 0/\(b.AL.set c x).getD i 0<=_;by_cases hc:c<b.AL.length
 ·
  rw[Cy _ _ _ _ _ hc];by_cases e:c=i
  . rw[if_pos e,<-e];exact hx
  . rw[if_neg e];exact h.nx i hi
 . rw[List.set_eq_of_length_le (by omega)];exact h.nx i hi
theorem RB.more {AA:List (List Dd)}{b:Bd}{N N':Nat->Nat}{m m':Nat}(h:RB AA b N m)(hN:∀c,N c<=N' c)(hm:m<=m'):RB AA b N' m':=
 ⟨h.work,h.AM,h.AO,h.rws,h.AG,h.AL,h.sn,h.fr,h.vp,h.vl,h.vs,h.vf,fun p=>⟨Nat.le_trans (h.rl p).1 hm,(h.rl p).2⟩,fun c=>⟨Nat.le_trans (h.nl c).1 (hN c),(h.nl c).2⟩,h.nx⟩
theorem RB.rdg {AA:List (List Dd)}{b:Bd}{N:Nat->Nat}{m:Nat}(h:RB AA b N m)(c:Nat){p:Nat}(hp:p<3):(0<=(Ct b c p).1/\(Ct b c p).1<=9)/\0<=(Ct b c p).2/\(Ct b c p).2<=((AB AA).length:Int)-1:=by
 unfold Ct
 cases e:(b.AG.getD c []).reverse.find? (fun x=>x.1==(p:Int)) with
 |some x=>
  have hx:=List.mem_reverse.1 (List.mem_of_find?_eq_some e);exact ((h.nl c).2 x hx).2
 |none=>exact⟨h.vp _ (KB (by rw[h.AM];exact hp)),h.vl _ (KB (by rw[h.AO];exact hp))⟩
theorem SW {d:Dd}(h:Fm d=true):(0<=d.2.2.1/\d.2.2.1<=9)/\0<=d.2.2.2:=by
 obtain⟨k,p,v,g⟩:=d;simp only[Fm,D8,decide_eq_true_eq] at h;show (0<=v/\v<=9)/\0<=g;by_cases e:k=2\/k=3
 . have:=h.2.2.2.2.2.1 e;omega
 . have:=h.2.2.2.2.2.2 e;omega
theorem Ui {AA:List (List Dd)}(hb:AQ AA=true){c k:Nat}(hc:c<AA.length)(hk:k<(AA.getD c []).length):
  (∃p:Nat,p<3/\(Al AA c k).2.1=(p:Int))/\(0<=(Al AA c k).2.2.1/\(Al AA c k).2.2.1<=9)/\((Al AA c k).1=1\/(Al AA c k).1=2\/(Al AA c k).1=3\/(Al AA c k).1=4)/\0<=BP AA c k /\
  ((Al AA c k).1≠4->0<=Kq (AB AA) c k/\Kq (AB AA) c k<=((AB AA).length:Int)-1)/\((Al AA c k).1=3->Kq (AB AA) c k+1<=((AB AA).length:Int)-1):=by
 have ho:=CG hb hc k hk;have hd:=CM ho;have hev:(Al AA c k).1≠4->∀i,i<FY (Al AA c k)->3<=Ac AA c k+i/\Ac AA c k+i<(AB AA).length:=fun h4 i hi=>Dz.lt hb ⟨hc,hk,hi,rfl⟩
 refine⟨Iw hb hc hk,?_,hd,?_,fun h4=>?_,fun h3=>?_⟩
 . exact (SW ho).1
 . exact (SW ho).2
 ·
  rw[JX hb hc hk h4];have:=hev h4 0 (by unfold FY;rw[if_neg h4];split<;>omega);omega
 ·
  have h4:(Al AA c k).1≠4:=by omega
  rw[JX hb hc hk h4];have:=hev h4 1 (by unfold FY;rw[if_neg h4,if_pos h3];omega);omega
theorem Ay {AA:List (List Dd)}(h:AQ AA=true):AA.length<=3/\∀i,i<AA.length->GI (AA.getD i [])=true:=by
 simp only[AQ,Bool.and_eq_true,decide_eq_true_eq] at h;obtain⟨⟨⟨⟨h1,h2⟩,_⟩,_⟩,_⟩:=h;exact⟨h1.2,fun i hi=>Bo [] h2 i hi⟩
theorem lM {AA:List (List Dd)}(h:AQ AA=true):(BA AA AA.length).length<=9:=by
 simp only[AQ,Bool.and_eq_true,decide_eq_true_eq] at h;obtain⟨⟨⟨⟨_,h2⟩,_⟩,h4⟩,_⟩:=h;have:=Hz (fun i hi=>Bo [] h2 i hi) AA.length (Nat.le_refl _);omega
theorem RB.deed {AA:List (List Dd)}{b:Bd}{N:Nat->Nat}{m:Nat}(h:RB AA b N m){c k:Nat}(hc:c<AA.length)(hk:k<(AA.getD c []).length):
  RB AA (BL AA (AB AA) b c k) (fun i=>if i=c/\BP AA c k=0 then N i+1 else N i) (m+1):=by
 obtain⟨⟨p,hp,ep⟩,hv,hd,hg,he,he3⟩:=Ui h.work hc hk
 have hN:∀i,N i<=(fun i=>if i=c/\BP AA c k=0 then N i+1 else N i) i:=fun i=>by
  show N i<=if _ then _ else _
  split
  . exact Nat.le_succ _
  . exact Nat.le_refl _
 have hP:(Al AA c k).2.1.toNat=p:=by omega
 have hr:=h.rdg c hp;unfold BL;rw[hP];split
 . exact (h.see _ _ _ ⟨by omega,by omega⟩ ⟨by omega,by omega⟩).more hN (Nat.le_succ m)
 ·
  rename_i h1;split
  ·
   rename_i h3;have e1:=he (by omega);have e2:=he3 h3;have q1:=h.vp _ (KB (z:=0) (show p<b.AM.length by rw[h.AM];exact hp));have q2:=h.vl _ (KB (z:=0) (show p<b.AO.length by rw[h.AO];exact hp));exact ((h.see _ _ _ ⟨by omega,by omega⟩ ⟨by omega,by omega⟩).ZH p _ _ hv ⟨by omega,by omega⟩).more hN (Nat.le_refl _)
  ·
   rename_i h3;split
   ·
    rename_i h2;exact (h.ZH p _ _ hv (he (by omega))).more hN (Nat.le_refl _)
   ·
    rename_i h2;split
    ·
     rename_i h2'
     have g0:BP AA c k=0:=by
      by_cases e:BP AA c k=0
      . exact e
      . exact absurd ⟨h2',by omega⟩ h2
     have e1:=he (by omega);refine (h.note (N':=fun i=>if i=c/\BP AA c k=0 then N i+1 else N i) c _ (fun x hx=>?_) ?_ (fun i _=>hN i) hc).more (fun _=>Nat.le_refl _) (Nat.le_succ m)
     ·
      rcases List.mem_append.1 hx with hx|hx
      . exact (h.nl c).2 x hx
      ·
       rw[List.mem_singleton.1 hx];exact⟨⟨by show 0<=(Al AA c k).2.1;omega,by show (Al AA c k).2.1<=2;omega⟩,hv,e1⟩
     ·
      show _<=if c=c/\BP AA c k=0 then N c+1 else N c
      rw[if_pos ⟨rfl,g0⟩,List.length_append,List.length_singleton];have:=(h.nl c).1;omega
    . exact h.more hN (Nat.le_succ m)
theorem RB.one {AA:List (List Dd)}{b:Bd}{N:Nat->Nat}{m:Nat}(h:RB AA b N m){c:Nat}(hc:c<AA.length)(hk:Ao b c<(AA.getD c []).length):
  RB AA (Aj AA (AB AA) b c) (fun i=>if i=c/\BP AA c (Ao b c)=0 then N i+1 else N i) (m+1):=by
 have h0:=h.nx c hc;have hn:(Ao b c:Int)=b.AL.getD c 0:=by unfold Ao;omega
 have:=(h.deed hc hk).next c (b.AL.getD c 0+1) ⟨by omega,by omega⟩;rw[Ml] at this;exact this
theorem RB.go {AA:List (List Dd)}{c:Nat}(hc:c<AA.length){g:Int}(hg:g≠0){N:Nat->Nat}:∀(k m:Nat) (b:Bd),RB AA b N m->Ao b c<(AA.getD c []).length->BP AA c (Ao b c)=g->RB AA (Ef AA (AB AA) g c k b) N (m+k)
 | 0,m,b,h,_,_=>by rw[Ef];exact h
 |k+1,m,b,h,hk,e=>by
  have h1:=h.one hc hk
  have hs:(fun i=>if i=c/\BP AA c (Ao b c)=0 then N i+1 else N i)=N:=by
   funext i;rw[if_neg (fun hh=>hg (by rw[<-e];exact hh.2))]
  rw[hs] at h1;rw[Ef];split
  . exact h1.more (fun _=>Nat.le_refl _) (by omega)
  ·
   rename_i hn;have hx:=h1.nx c hc;have hz:((Ao (Aj AA (AB AA) b c) c:Nat):Int)=(Aj AA (AB AA) b c).AL.getD c 0:=by unfold Ao;omega
   have:=RB.go hc hg k (m+1) _ h1 (by omega) (by
    by_cases e':BP AA c (Ao (Aj AA (AB AA) b c) c)=g
    . exact e'
    . exact absurd (.inr (.inr e')) hn)
   exact this.more (fun _=>Nat.le_refl _) (by omega)
theorem WO {AA:List (List Dd)}{es:List Ev}{c k:Nat}(hk:0<k)(b:Bd):Ef AA es 0 c k b=Aj AA es b c:=by
 cases k with
 |zero=>omega
 |succ k=>rw[Ef,if_pos (.inl rfl)]
theorem Ua {AA:List (List Dd)}{b:Bd}{c:Nat}(h:Bh AA b c=true):Ao b c<(AA.getD c []).length/\(((Al AA c (Ao b c)).1<=2/\BP AA c (Ao b c)=0)\/b.AG.getD c []=[]):=by
 simp only[Bh,Bool.and_eq_true,Bool.or_eq_true,decide_eq_true_eq,List.isEmpty_iff] at h;exact h
theorem Da {AA:List (List Dd)}(h:AQ AA=true){c:Nat}(hc:c<AA.length):(AA.getD c []).length<=5:=by
 simp only[AQ,Bool.and_eq_true,List.all_eq_true] at h;have:=h.1.1.1.2 _ (KB (z:=[]) hc);simp only[GI,Bool.and_eq_true,decide_eq_true_eq] at this;exact this.2
theorem RB.stepped {AA:List (List Dd)}{b:Bd}{n m:Nat}(h:RB AA b (fun _=>n) m){c:Nat}(hc:c<AA.length)(hcan:Bh AA b c=true)(c10:c<10):RB AA (Am AA (AB AA) b (c:Int)) (fun _=>n+1) (m+5):=by
 obtain⟨hk,-⟩:=Ua hcan;have h5:=Da h.work hc;unfold Am;rw[if_neg (by omega),Int.toNat_natCast];by_cases g0:BP AA c (Ao b c)=0
 ·
  rw[g0,WO (by omega)];refine (h.one hc hk).more (fun i=>?_) (by omega);show (if _ then n+1 else n)<=n+1;split
  . exact Nat.le_refl _
  . exact Nat.le_succ _
 . exact (RB.go hc g0 _ _ _ h hk rfl).more (fun _=>Nat.le_succ _) (by omega)
theorem UM {AA:List (List Dd)}{b:Bd}(hb:AW AA b=true)(hn:∀c,(b.AG.getD c []).length<=7)(hm:∀p,(b.rws.getD p []).length<=15){c:Nat}(hc:c<AA.length)(hcan:Bh AA b c=true):AW AA (Am AA (AB AA) b (c:Int))=true:=by
 have h3:AA.length<=3:=(Ay (RB.of hb hn hm).work).1;exact ((RB.of hb hn hm).stepped hc hcan (by omega)).board (fun _=>Nat.le_refl _) (Nat.le_refl _)
def AC (w w':World):Prop:=Below w.heap.size w w'
theorem AC.refl (w:World):AC w w:=Below.refl _ _
theorem AC.size {w w':World}(h:AC w w'):w.heap.size<=w'.heap.size:=Below.size h
theorem AC.trans {a b c:World}(h:AC a b)(k:AC b c):AC a c:=Below.trans h (Below.mono k h.size)
theorem AC.drew {a w:World}(h:AC a w):AC a w.drew:=Below.drew h
theorem AC.drewN {a w:World}(h:AC a w)(n:Nat):AC a (w.drewN n):=below_drewN h n
theorem AC.alloc {a w:World}(h:AC a w)(o:Obj):AC a (w.alloc o):=Below.alloc h h.size o
theorem AC.grown {a w w':World}{row:Option Nat}(h:AC a w)(hg:w.grownBy w' row)(hr:∀k,row=some k->a.heap.size<=k):AC a w':=Below.grown h hg h.size hr
theorem AC.grownBy {w w':World}(h:AC w w'):w.grownBy w' none:=⟨Below.os h,Below.tape h,Below.output h,Below.size h,fun k hk _=>Below.block h k hk⟩
theorem AC.cell {w w':World}(h:AC w w'){b o:Nat}(hb:b<w.heap.size):w'.cell? ⟨b,o,none⟩=w.cell? ⟨b,o,none⟩:=Below.cell h hb
theorem BF {a b c:World}{row:Option Nat}(h:a.grownBy b row)(k:b.grownBy c row):a.grownBy c row:=
 ⟨k.os.trans h.os,k.tape.trans h.tape,k.output.trans h.output,Nat.le_trans h.size k.size,fun i hi hne=>(k.block i (Nat.lt_of_lt_of_le hi h.size) hne).trans (h.block i hi hne)⟩
def Rd (w:World)(v:Value)(zs:List Int):Prop:=
 ∃(a:Option Addr) (cap:Nat),v = .slice a zs.length cap /\
  (zs=[]\/∃b off,a=some ⟨b,off,none⟩/\b<w.heap.size/\∀i,i<zs.length->w.cell? ⟨b,off+i,none⟩=some (.int .i64 (zs.getD i 0)))
theorem Rd.keep {w w':World}{v:Value}{zs:List Int}(h:Rd w v zs)(k:AC w w'):Rd w' v zs:=by
 obtain⟨a,cap,hv,h⟩:=h;refine⟨a,cap,hv,?_⟩;rcases h with h|⟨b,off,ha,hb,hc⟩
 . exact .inl h
 . exact .inr ⟨b,off,ha,Nat.lt_of_lt_of_le hb k.size,fun i hi=>(k.cell hb).trans (hc i hi)⟩
def BM (w:World)(base:Nat)(v:Value)(zs:List Int):Prop:=w.ownsRow base 2 1 v zs.length (zs.map (Value.int .i64))
theorem BM.kept {w w':World}{base:Nat}{v:Value}{zs:List Int}{row:Option Nat}(h:BM w base v zs)(hg:w.grownBy w' row)(hne:v.ownBlock=none\/v.ownBlock≠row):BM w' base v zs:=
 World.ownsRow.kept h hg hne
theorem BM.keep {w w':World}{base:Nat}{v:Value}{zs:List Int}(h:BM w base v zs)(k:AC w w'):BM w' base v zs:=
 BM.kept h k.grownBy (by cases v.ownBlock<;>simp)
theorem BM.rd {w:World}{base:Nat}{v:Value}{zs:List Int}(h:BM w base v zs):Rd w v zs:=by
 have hlt:=World.ownsRow.lt h;rcases h.2 with ⟨rfl,hn⟩|⟨g,cap,cur,rfl,hb,hg,rest⟩
 ·
  have:zs=[]:=List.eq_nil_of_length_eq_zero hn;subst this;exact⟨none,0,rfl,.inl rfl⟩
 ·
  refine⟨some ⟨g,0,none⟩,cap,rfl,.inr ⟨g,0,rfl,(hlt g rfl).2,fun i hi=>?_⟩⟩;have hc:=World.ownsRow.cellAt h i (by simpa using hi);rw[Nat.zero_add,hc,List.getElem?_map,List.getElem?_eq_getElem hi,List.getD_eq_getElem?_getD,List.getElem?_eq_getElem hi];rfl
theorem BM.Az {w:World}{base base':Nat}{v:Value}{zs:List Int}(h:BM w base v zs)(hb:base'<=base):BM w base' v zs:=by
 refine⟨h.1,?_⟩;rcases h.2 with h|⟨g,cap,cur,hv,hg,rest⟩
 . exact .inl h
 . exact .inr ⟨g,cap,cur,hv,Nat.le_trans hb hg,rest⟩
theorem BM.ge {w:World}{base:Nat}{v:Value}{zs:List Int}(h:BM w base v zs):∀k,v.ownBlock=some k->base<=k:=fun k hk=>(World.ownsRow.lt h k hk).1
theorem ES {w:World}{base:Nat}{v:Value}{zs:List Int}{x:Int}(h:w.ownsRow base 2 1 v (zs.length+1) (zs.map (Value.int .i64)++[.int .i64 x])):BM w base v (zs++[x]):=by
 unfold BM;simpa using h
theorem Tryz.GU:(Tryz.prog.info? 2).map (fun i=>(i.zero,i.size,i.bytes))=some (some (.int .i64 0),1,8):=by kernel_rfl
theorem Bw (w:World)(A:Obj)(i:Nat):(w.alloc A).heap[i]? = if i=w.heap.size then some A else w.heap[i]?:=Array.getElem?_push
theorem AD (w:World)(A:Obj):(w.alloc A).heap.size=w.heap.size+1:=Array.size_push _
theorem A7 (w:World):w.drew.heap=w.heap:=rfl
theorem FM {w w1:World}{o:Obj}(k:AC (w.alloc o) w1):w.heap.size<w1.heap.size:=by
 have:=k.size;rw[AD] at this;omega
theorem AU {w w1:World}{cs:Array Value}{t:TypeId}(k:AC (w.alloc (.cells cs t)) w1)(i:Nat):w1.cell? ⟨w.heap.size,i,none⟩=cs[i]?:=by
 rw[k.cell (by rw[AD];omega),cell_of_row (w.alloc (.cells cs t)) w.heap.size i cs t (0,0) (heap_alloc_new w _)]
theorem CX {w w1:World}{o:Obj}(k:AC (w.alloc o) w1):w1.heap[w.heap.size]? = some o:=
 (Below.block k w.heap.size (by rw[AD];omega)).trans (heap_alloc_new w o)
theorem BU {P:Program}{fn:Func}{p:Tmp}{ty:TypeId}(h:fn.results=#[.cell p ty])(tmps:Array Value)(w:World)(g:Nat)(t:TypeId)(cs:Array Value)(fr:Nat×Nat)(d:TypeDesc)
  (hp:tmps.getD p undef = .pointer (some ⟨g,0,none⟩)) (hg:w.heap[g]? = some (.cells cs t fr))
  (hu:P.underlying ty=some d) (hd:(match d with | .struct _ | .array _ _=>true|_=>false)=true) (hi:(P.info? ty).map (·.size)=some cs.size):
  (results fn tmps).run P w = .ok (.agg cs) w:=results_cell_row h tmps w g t cs fr d hp hg hu hd hi
theorem As {P:Program}{fn:Func}{p u:Tmp}{ty:TypeId}(h:fn.results=#[.cell p ty,.tmp u])(tmps:Array Value)(w:World)(g:Nat)(t:TypeId)(cs:Array Value)(fr:Nat×Nat)(d:TypeDesc)(v:Value)
  (hp:tmps.getD p undef = .pointer (some ⟨g,0,none⟩)) (hg:w.heap[g]? = some (.cells cs t fr)) (hv:tmps.getD u undef=v)
  (hu:P.underlying ty=some d) (hd:(match d with | .struct _ | .array _ _=>true|_=>false)=true) (hi:(P.info? ty).map (·.size)=some cs.size):
  (results fn tmps).run P w = .ok (.tuple #[.agg cs,v]) w:=by
 rw[results_cell_tmp h,hp,hv];simp[asAddr,run_loadVar_row w g t ty cs fr d hg hu hd hi,Result.andThen]
theorem Ql {P:Program}{fn:Func}{p q:Tmp}{ty:TypeId}(h:fn.results=#[.cell p ty,.cell q ty])(tmps:Array Value)(w:World)(g g':Nat)(t t':TypeId)(cs cs':Array Value)(fr fr':Nat×Nat)(d:TypeDesc)
  (hp:tmps.getD p undef = .pointer (some ⟨g,0,none⟩)) (hg:w.heap[g]? = some (.cells cs t fr))
  (hq:tmps.getD q undef = .pointer (some ⟨g',0,none⟩)) (hg':w.heap[g']? = some (.cells cs' t' fr'))
  (hu:P.underlying ty=some d) (hd:(match d with | .struct _ | .array _ _=>true|_=>false)=true) (hi:(P.info? ty).map (·.size)=some cs.size) (hi':(P.info? ty).map (·.size)=some cs'.size):
  (results fn tmps).run P w = .ok (.tuple #[.agg cs,.agg cs']) w:=by
 have hp':tmps[p]?.getD undef = .pointer (some ⟨g,0,none⟩):=by simpa using hp
 have hq':tmps[q]?.getD undef = .pointer (some ⟨g',0,none⟩):=by simpa using hq
 simp[results,h,hp',hq',asAddr,run_loadVar_row w g t ty cs fr d hg hu hd hi,run_loadVar_row w g' t' ty cs' fr' d hg' hu hd hi']
section
section
variable {α:Type} {cf:α->List Value} {n:Nat}
def ah (cf:α->List Value)(w:World)(b o:Nat)(x:α):Prop:=∀m u,(cf x)[m]? = some u->w.cell? ⟨b,o+m,none⟩=some u
def oG (cf:α->List Value)(n:Nat)(w:World)(v:Value)(xs:List α):Prop:=
 ∃(a:Option Addr) (cap:Nat),v = .slice a xs.length (xs.length+cap) /\
  (xs=[]\/∃b off,a=some ⟨b,off,none⟩/\b<w.heap.size/\∀i x,xs[i]? = some x->ah cf w b (off+i*n) x)
theorem ah.same {w w':World}{b o:Nat}{x:α}(h:ah cf w b o x)(hh:w'.heap[b]? = w.heap[b]?):ah cf w' b o x:=
 fun m u hm=>by
  have:=h m u hm;simp only[World.cell?,hh] at this ⊢;exact this
theorem ah.keep {w w':World}{b o:Nat}{x:α}(h:ah cf w b o x)(hb:b<w.heap.size)(k:AC w w'):ah cf w' b o x:=h.same (Below.block k b hb)
theorem oG.keep {w w':World}{v:Value}{xs:List α}(h:oG cf n w v xs)(k:AC w w'):oG cf n w' v xs:=by
 obtain⟨a,cap,hv,h⟩:=h;refine⟨a,cap,hv,?_⟩;rcases h with h|⟨b,off,ha,hb,hc⟩
 . exact .inl h
 . exact .inr ⟨b,off,ha,Nat.lt_of_lt_of_le hb k.size,fun i x hx=>(hc i x hx).keep hb k⟩
def B5 (cf:α->List Value)(e:TypeId)(n:Nat)(w:World)(base:Nat)(v:Value)(xs:List α):Prop:=w.ownsRow base e n v xs.length (xs.flatMap cf)
variable {e:TypeId}
theorem B5.keep {w w':World}{base:Nat}{v:Value}{xs:List α}(h:B5 cf e n w base v xs)(k:AC w w'):B5 cf e n w' base v xs:=
 World.ownsRow.kept h k.grownBy (by cases v.ownBlock<;>simp)
theorem B5.kept {w w':World}{base:Nat}{v:Value}{xs:List α}{row:Option Nat}(h:B5 cf e n w base v xs)(hg:w.grownBy w' row)(hne:v.ownBlock=none\/v.ownBlock≠row):B5 cf e n w' base v xs:=
 World.ownsRow.kept h hg hne
theorem B5.lt {w:World}{base:Nat}{v:Value}{xs:List α}(h:B5 cf e n w base v xs):∀k,v.ownBlock=some k->base<=k/\k<w.heap.size:=World.ownsRow.lt h
theorem B5.ge {w:World}{base:Nat}{v:Value}{xs:List α}(h:B5 cf e n w base v xs):∀k,v.ownBlock=some k->base<=k:=fun k hk=>(h.lt k hk).1
theorem Ju {w:World}{base:Nat}{v:Value}{xs:List α}{x:α}(h:w.ownsRow base e n v (xs.length+1) (xs.flatMap cf++cf x)):B5 cf e n w base v (xs++[x]):=by
 unfold B5;rw[List.flatMap_append];simpa using h
theorem Ma (w:World):B5 cf e n (w.alloc (.cells #[] e)) w.heap.size (.slice (some ⟨w.heap.size,0,none⟩) 0 0) []:=
 World.ownsRow_lit w #[] 0 (Nat.le_refl _) (by decide) (by simp)
theorem Um (hn:∀x,(cf x).length=n):∀(xs:List α) (i:Nat) (x:α) (m:Nat),xs[i]? = some x->m<n->(xs.flatMap cf)[i*n+m]? = (cf x)[m]?
 | [],i,x,m,h,_=>by simp at h
 |y::r,0,x,m,h,hm=>by
  simp at h;subst h;rw[List.flatMap_cons,List.getElem?_append_left (by rw[hn];omega)];simp
 |y::r,i+1,x,m,h,hm=>by
  have ih:=Um hn r i x m (by simpa using h) hm;have e1:(i+1)*n+m=n+(i*n+m):=by rw[Nat.add_mul];omega
  rw[List.flatMap_cons,List.getElem?_append_right (by rw[hn];omega),hn,e1,Nat.add_sub_cancel_left,ih]
theorem B5.shape {w:World}{base:Nat}{v:Value}{xs:List α}(h:B5 cf e n w base v xs):∃a c,v = .slice a xs.length c:=by
 rcases h.2 with ⟨rfl,hz⟩|⟨g,cap,cur,rfl,_⟩
 . exact⟨none,0,by rw[hz]⟩
 . exact⟨_,_,rfl⟩
theorem B5.rd (hn:∀x,(cf x).length=n){w:World}{base:Nat}{v:Value}{xs:List α}(h:B5 cf e n w base v xs):oG cf n w v xs:=by
 have h2:=h;have hlt:=h.lt;rcases h.2 with ⟨rfl,hz⟩|⟨g,cap,cur,rfl,hb,hg,hcap,_,hs,_⟩
 ·
  have:xs=[]:=List.eq_nil_of_length_eq_zero hz;subst this;exact⟨none,0,rfl,.inl rfl⟩
 ·
  obtain⟨x,rfl⟩:∃x,cap=xs.length+x:=⟨cap-xs.length,by omega⟩;refine⟨_,x,rfl,.inr ⟨g,0,rfl,(hlt g rfl).2,fun i y hy m u hm=>?_⟩⟩;have hi:i<xs.length:=(List.getElem?_eq_some_iff.1 hy).1;have hmn:m<n:=by have:=(List.getElem?_eq_some_iff.1 hm).1;rw[hn] at this;exact this
  have hb2:i*n+m<xs.length*n:=by
   have h3:(i+1)*n<=xs.length*n:=Nat.mul_le_mul_right n hi;rw[Nat.add_mul] at h3;omega
  rw[Nat.zero_add,World.ownsRow.cellAt h2 (i*n+m) hb2,Um hn xs i y m hy hmn];exact hm
end
end
def cE (e:Ev):List Value:=[.int .i64 e.1,.int .i64 e.2.1,.bool e.2.2.1,.int .i64 e.2.2.2.1,.int .i64 e.2.2.2.2.1,.int .i64 e.2.2.2.2.2]
theorem kY (e:Ev):(cE e).length=6:=rfl
theorem Tryz.ZF:(Tryz.prog.info? 128).map (fun i=>(i.zero,i.size,i.bytes))=some (some (.agg #[.int .i64 0,.int .i64 0,.bool false,.int .i64 0,.int .i64 0,.int .i64 0]),6,48):=by kernel_rfl
abbrev bA (w:World)(v:Value)(es:List Ev):Prop:=oG cE 6 w v es
abbrev JD (w:World)(base:Nat)(v:Value)(es:List Ev):Prop:=B5 cE 128 6 w base v es
theorem oK {w:World}{b o:Nat}{x0 x1:Int}{r:Bool}{x3 x4 x5:Int}(h:ah cE w b o (x0,x1,r,x3,x4,x5)):
  w.cell? ⟨b,o,none⟩=some (.int .i64 x0)/\w.cell? ⟨b,o+1,none⟩=some (.int .i64 x1)/\w.cell? ⟨b,o+2,none⟩=some (.bool r)/\w.cell? ⟨b,o+3,none⟩=some (.int .i64 x3)/\w.cell? ⟨b,o+4,none⟩=some (.int .i64 x4)/\w.cell? ⟨b,o+5,none⟩=some (.int .i64 x5):=
 ⟨h 0 _ rfl,h 1 _ rfl,h 2 _ rfl,h 3 _ rfl,h 4 _ rfl,h 5 _ rfl⟩
theorem JD.rd {w:World}{base:Nat}{v:Value}{es:List Ev}(h:JD w base v es):bA w v es:=B5.rd kY h
theorem MO {es:List Ev}{i:Nat}(h:i<es.length):es[i]? = some (es.getD i zE):=by
 rw[List.getD_eq_getElem?_getD,List.getElem?_eq_getElem h];rfl
theorem BS {b o i:Nat}:(⟨b,o,none⟩:Addr).add i=⟨b,o+i,none⟩:=by unfold Addr.add;split<;>simp_all
def DN (w:World)(g:Nat)(zs:List Int):Prop:=
 ∃(cur:Array Value) (e:TypeId),w.heap[g]? = some (.cells cur e (0,0))/\cur.toList.take zs.length=zs.map (Value.int .i64)
theorem DN.lt {w:World}{g:Nat}{zs:List Int}(h:DN w g zs):g<w.heap.size:=by
 obtain⟨cur,e,hh,_⟩:=h;exact (Array.getElem?_eq_some_iff.1 hh).1
theorem DN.cell {w:World}{g:Nat}{zs:List Int}(h:DN w g zs){j:Nat}(hj:j<zs.length):w.cell? ⟨g,j,none⟩=some (.int .i64 (zs.getD j 0)):=by
 obtain⟨cur,e,hh,ht⟩:=h;rw[cell_of_row w g j cur e (0,0) hh];have h1:(cur.toList.take zs.length)[j]? = (zs.map (Value.int .i64))[j]?:=by rw[ht]
 rw[List.getElem?_take,if_pos hj,List.getElem?_map,List.getElem?_eq_getElem hj] at h1;rw[List.getD_eq_getElem?_getD,List.getElem?_eq_getElem hj]
 simpa using h1
theorem DN.free {w:World}{g:Nat}{zs:List Int}(h:DN w g zs)(j:Nat):w.frozen? ⟨g,j,none⟩=false:=by
 obtain⟨cur,e,hh,_⟩:=h;exact frozen_of_row w g j _ _ hh
theorem DN.kept {w w':World}{g:Nat}{zs:List Int}{row:Option Nat}(h:DN w g zs)(hg:w.grownBy w' row)(hne:row≠some g):DN w' g zs:=by
 have hlt:=h.lt;obtain⟨cur,e,hh,ht⟩:=h;exact⟨cur,e,by rw[hg.block g hlt (fun e=>hne e.symm)];exact hh,ht⟩
theorem DN.keep {w w':World}{g:Nat}{zs:List Int}(h:DN w g zs)(k:AC w w'):DN w' g zs:=h.kept k.grownBy (by simp)
theorem Ae (w:World)(g j:Nat)(v:Value):w.grownBy (w.setCell ⟨g,j,none⟩ v) (some g):=
 ⟨rfl,rfl,rfl,by simp,fun k _ hk=>heap_setCell_other w ⟨g,j,none⟩ k v (fun e=>hk (by simp[e]))⟩
theorem Qy (l:List Value)(zs:List Int)(j:Nat)(x:Int)(h:l.take zs.length=zs.map (Value.int .i64)):
  (l.set j (.int .i64 x)).take (zs.set j x).length=(zs.set j x).map (Value.int .i64):=by
 rw[List.length_set,List.take_set,h,List.map_set]
theorem DN.set {w:World}{g:Nat}{zs:List Int}(h:DN w g zs)(j:Nat)(x:Int):DN (w.setCell ⟨g,j,none⟩ (.int .i64 x)) g (zs.set j x):=by
 obtain⟨cur,e,hh,ht⟩:=h;refine⟨cur.setIfInBounds j (.int .i64 x),e,?_,?_⟩
 . rw[heap_setCell_same w g j _ _ _ hh]
 ·
  rw[Array.toList_setIfInBounds];exact Qy _ zs j x ht
def UT (w:World)(base:Nat)(v:Value)(zs:List Int):Prop:=
 (v = .slice none 0 0/\zs=[])\/∃g cap,v = .slice (some ⟨g,0,none⟩) zs.length cap/\base<=g/\DN w g zs
theorem BM.row {w:World}{base:Nat}{v:Value}{zs:List Int}(h:BM w base v zs):UT w base v zs:=by
 rcases h.2 with ⟨rfl,hn⟩|⟨g,cap,cur,rfl,hb,hg,_,_,_,ht⟩
 . exact .inl ⟨rfl,List.eq_nil_of_length_eq_zero hn⟩
 . exact .inr ⟨g,cap,rfl,hb,cur,_,hg,by rw[Nat.mul_one] at ht;exact ht⟩
theorem UT.lt {w:World}{base:Nat}{v:Value}{zs:List Int}(h:UT w base v zs):∀k,v.ownBlock=some k->base<=k/\k<w.heap.size:=by
 intro k hk;rcases h with ⟨rfl,_⟩|⟨g,cap,rfl,hb,hr⟩
 . simp[Value.ownBlock] at hk
 . simp[Value.ownBlock] at hk;subst hk;exact⟨hb,hr.lt⟩
theorem UT.kept {w w':World}{base:Nat}{v:Value}{zs:List Int}{row:Option Nat}(h:UT w base v zs)(hg:w.grownBy w' row)(hne:v.ownBlock=none\/v.ownBlock≠row):UT w' base v zs:=by
 rcases h with h|⟨g,cap,rfl,hb,hr⟩
 . exact .inl h
 ·
  refine .inr ⟨g,cap,rfl,hb,hr.kept hg ?_⟩;simp[Value.ownBlock] at hne;exact fun e=>hne e.symm
theorem UT.keep {w w':World}{base:Nat}{v:Value}{zs:List Int}(h:UT w base v zs)(k:AC w w'):UT w' base v zs:=
 h.kept k.grownBy (by cases v.ownBlock<;>simp)
theorem UT.rd {w:World}{base:Nat}{v:Value}{zs:List Int}(h:UT w base v zs):Rd w v zs:=by
 rcases h with ⟨rfl,rfl⟩|⟨g,cap,rfl,hb,hr⟩
 . exact⟨none,0,rfl,.inl rfl⟩
 . exact⟨some ⟨g,0,none⟩,cap,rfl,.inr ⟨g,0,rfl,hr.lt,fun i hi=>by rw[Nat.zero_add];exact hr.cell hi⟩⟩
def RJ (w:World)(v:Value)(Aq:List (List Int)):Prop:=
 ∃(a:Option Addr) (cap:Nat),v = .slice a Aq.length cap /\
  (Aq=[]\/∃b off,a=some ⟨b,off,none⟩/\b<w.heap.size/\∀i,i<Aq.length->∃vi,w.cell? ⟨b,off+i,none⟩=some vi/\Rd w vi (Aq.getD i []))
theorem RJ.keep {w w':World}{v:Value}{Aq:List (List Int)}(h:RJ w v Aq)(k:AC w w'):RJ w' v Aq:=by
 obtain⟨a,cap,hv,h⟩:=h;refine⟨a,cap,hv,?_⟩;rcases h with h|⟨b,off,ha,hb,hc⟩
 . exact .inl h
 ·
  refine .inr ⟨b,off,ha,Nat.lt_of_lt_of_le hb k.size,fun i hi=>?_⟩;obtain⟨vi,h1,h2⟩:=hc i hi;exact⟨vi,(k.cell hb).trans h1,h2.keep k⟩
theorem Tryz.rf:(Tryz.prog.info? 28).map (fun i=>(i.zero,i.size,i.bytes))=some (some (.slice none 0 0),1,24):=by kernel_rfl
section
structure Rw where
 e:TypeId
 size:Nat
 v:Value
 n:Nat
 xs:List Value
def Rw.own (w:World)(m:Nat)(r:Rw):Prop:=w.ownsRow m r.e r.size r.v r.n r.xs
def JC {ι:Type}[DecidableEq ι](R:ι->Rw)(i:ι)(r:Rw):ι->Rw:=fun j=>if j=i then r else R j
theorem Ap {ι:Type}[DecidableEq ι](R:ι->Rw)(i:ι)(r:Rw):JC R i r i=r:=if_pos rfl
theorem AV {ι:Type}[DecidableEq ι](R:ι->Rw){i j:ι}(r:Rw)(h:j≠i):JC R i r j=R j:=if_neg h
structure GH {ι:Type}(w:World)(m:Nat)(live:ι->Prop)(R:ι->Rw):Prop where
 own:∀i,live i->(R i).own w m
 apart:∀i j,live i->live j->i≠j->(R i).v.ownBlock=none\/(R i).v.ownBlock≠(R j).v.ownBlock
section
variable {ι:Type} {w w':World} {m:Nat} {live:ι->Prop} {R:ι->Rw}
theorem GH.lt (h:GH w m live R){i:ι}(hi:live i):∀k,(R i).v.ownBlock=some k->m<=k/\k<w.heap.size:=World.ownsRow.lt (h.own i hi)
theorem GH.keep (h:GH w m live R)(k:AC w w'):GH w' m live R:=
 ⟨fun i hi=>World.ownsRow.kept (h.own i hi) k.grownBy (by cases (R i).v.ownBlock<;>simp),h.apart⟩
theorem GH.far (h:GH w m live R){row:Option Nat}(hg:w.grownBy w' row)(hr:∀i,live i->(R i).v.ownBlock=none\/(R i).v.ownBlock≠row):GH w' m live R:=
 ⟨fun i hi=>World.ownsRow.kept (h.own i hi) hg (hr i hi),h.apart⟩
theorem GH.congr (h:GH w m live R){live':ι->Prop}{R':ι->Rw}(hl:∀i,live' i->live i)(hr:∀i,live' i->R' i=R i):GH w m live' R':=
 ⟨fun i hi=>by rw[hr i hi];exact h.own i (hl i hi),fun i j hi hj hij=>by rw[hr i hi,hr j hj];exact h.apart i j (hl i hi) (hl j hj) hij⟩
variable [DecidableEq ι]
theorem GH.set (h:GH w m live R){i:ι}(hi:live i){r:Rw}(hg:w.grownBy w' (R i).v.ownBlock)(hb:r.v.ownBlock=(R i).v.ownBlock\/r.v.ownBlock=some w.heap.size\/r.v.ownBlock=none)(ho:r.own w' m):GH w' m live (JC R i r):=by
 refine⟨fun j hj=>?_,fun j k hj hk hjk=>?_⟩
 ·
  by_cases e:j=i
  . subst e;rw[Ap];exact ho
  ·
   rw[AV R r e];exact World.ownsRow.kept (h.own j hj) hg (h.apart j i hj hi e)
 ·
  have new:∀j,live j->j≠i->(R j).v.ownBlock=none\/(R j).v.ownBlock≠some w.heap.size:=fun j hj _=>by
   cases e:(R j).v.ownBlock with
   |none=>exact .inl rfl
   |some b=>exact .inr (fun e'=>by have:=(h.lt hj b e).2;have:=Option.some.inj e';omega)
  by_cases ej:j=i
  ·
   subst ej;have ek:k≠j:=fun e=>hjk e.symm
   rw[Ap,AV R r ek];rcases hb with hb|hb|hb
   . rw[hb];exact h.apart j k hj hk hjk
   ·
    rw[hb];right;intro e;rcases new k hk ek with h1|h1
    . rw[h1] at e;cases e
    . exact h1 e.symm
   . exact .inl hb
  ·
   rw[AV R r ej];by_cases ek:k=i
   ·
    subst ek;rw[Ap];rcases hb with hb|hb|hb
    . rw[hb];exact h.apart j k hj hk hjk
    . rw[hb];exact new j hj ej
    ·
     rw[hb]
     cases (R j).v.ownBlock with
     |none=>exact .inl rfl
     |some b=>exact .inr (by simp)
   ·
    rw[AV R r ek];exact h.apart j k hj hk hjk
theorem GH.add (h:GH w m live R){i:ι}(hi:¬live i){r:Rw}{s:Nat}(hs:s=w.heap.size)(k:AC w w')(ho:r.own w' m)(hn:∀b,r.v.ownBlock=some b->s<=b):GH w' m (fun j=>live j\/j=i) (JC R i r):=by
 have hk:=h.keep k
 have new:∀j,live j->(R j).v.ownBlock=none\/(R j).v.ownBlock≠r.v.ownBlock:=fun j hj=>by
  cases e:(R j).v.ownBlock with
  |none=>exact .inl rfl
  |some b=>exact .inr (fun e'=>by have:=(h.lt hj b e).2;have:=hn b e'.symm;omega)
 have ne:∀j,live j->j≠i:=fun j hj e=>hi (e ▸ hj)
 refine⟨fun j hj=>?_,fun j l hj hl hjl=>?_⟩
 ·
  rcases hj with hj|rfl
  . rw[AV R r (ne j hj)];exact hk.own j hj
  . rw[Ap];exact ho
 ·
  rcases hj with hj|rfl
  ·
   rw[AV R r (ne j hj)];rcases hl with hl|rfl
   . rw[AV R r (ne l hl)];exact h.apart j l hj hl hjl
   . rw[Ap];exact new j hj
  ·
   rw[Ap];rcases hl with hl|rfl
   ·
    rw[AV R r (ne l hl)];rcases new l hl with h1|h1
    ·
     rw[h1]
     cases r.v.ownBlock with
     |none=>exact .inl rfl
     |some b=>exact .inr (by simp)
    . exact .inr (fun e=>h1 e.symm)
   . exact absurd rfl hjl
end
theorem Rw.cell {w:World}{m:Nat}{r:Rw}(h:r.own w m){g cap k:Nat}(hv:r.v = .slice (some ⟨g,0,none⟩) r.n cap)(hk:k<r.n*r.size):w.cell? ⟨g,k,none⟩=r.xs[k]?:=by
 unfold Rw.own at h;rw[hv] at h;exact World.ownsRow.cellAt h k hk
theorem Rw.put {w:World}{m:Nat}{r:Rw}(h:r.own w m){g cap k:Nat}(hv:r.v = .slice (some ⟨g,0,none⟩) r.n cap)(x:Value):Rw.own (w.setCell ⟨g,k,none⟩ x) m { r with xs:=r.xs.set k x }/\w.grownBy (w.setCell ⟨g,k,none⟩ x) r.v.ownBlock/\w.frozen? ⟨g,k,none⟩=false:=by
 unfold Rw.own at h ⊢;rcases h.2 with ⟨h1,_⟩|⟨g',cap',cur,h1,hb,hg,hn,hm,hs,ht⟩
 . rw[hv] at h1;simp at h1
 ·
  rw[hv] at h1;simp only[Value.slice.injEq,Option.some.injEq,Addr.mk.injEq,and_true,true_and] at h1;obtain⟨rfl,rfl⟩:=h1;refine⟨⟨by simpa using h.1,.inr ⟨g,cap,cur.setIfInBounds k x,hv,hb,heap_setCell_same w g k _ _ _ hg,hn,hm,by simpa using hs,?_⟩⟩,?_,frozen_of_row w g k _ _ hg⟩
  . rw[Array.toList_setIfInBounds,List.take_set,ht]
  ·
   rw[hv];exact Ae w g k x
end
section
abbrev AE:Value:= .slice none 0 0
abbrev Bn (zs:List Int)(v:Value):Rw:=⟨2,1,v,zs.length,zs.map (Value.int .i64)⟩
abbrev EP (t:TypeId)(vs:List Value)(v:Value):Rw:=⟨t,1,v,vs.length,vs⟩
section
variable {w:World} {m:Nat}
theorem Bt {t:TypeId}{u:Value}{vs:List Value}(o:(EP t vs u).own w m):∃a cap,u = .slice a vs.length cap/\(vs=[]\/∃g,a=some ⟨g,0,none⟩/\g<w.heap.size/\∀i,i<vs.length->w.cell? ⟨g,i,none⟩=some (vs.getD i AE)):=by
 have hlt:=World.ownsRow.lt o;have o':=o;rcases o.2 with ⟨h1,h2⟩|⟨g,cap,cur,h1,_⟩
 ·
  have:vs=[]:=List.eq_nil_of_length_eq_zero h2;subst this;exact⟨none,0,h1,.inl rfl⟩
 ·
  refine⟨some ⟨g,0,none⟩,cap,h1,.inr ⟨g,rfl,(hlt g (by show u.ownBlock=_;rw[show u=_ from h1];rfl)).2,fun i hi=>?_⟩⟩;have o2:w.ownsRow m t 1 (.slice (some ⟨g,0,none⟩) vs.length cap) vs.length vs:=by rw[<-show u=_ from h1];exact o'
  rw[World.ownsRow.cellAt o2 i (by omega),List.getD_eq_getElem?_getD,List.getElem?_eq_getElem hi];rfl
end
theorem BR {α:Type}(l:List α)(k:Nat)(x z:α)(hk:k<l.length)(j:Nat):(l.set k x).getD j z=if j=k then x else l.getD j z:=by
 rw[List.getD_eq_getElem?_getD,List.getD_eq_getElem?_getD,List.getElem?_set];by_cases e:k=j
 . subst e;simp[hk]
 . rw[if_neg e,if_neg (fun h=>e h.symm)]
end
theorem Tryz.QC:(Tryz.prog.info? 28).map (fun i=>(i.zero,i.size,i.bytes))=some (some (.slice none 0 0),1,24):=by kernel_rfl
theorem DS {w:World}{m m':Nat}{e:TypeId}{n:Nat}{v:Value}{k:Nat}{xs:List Value}(o:w.ownsRow m e n v k xs)(hm:m'<=m):w.ownsRow m' e n v k xs:=by
 refine⟨o.1,?_⟩;rcases o.2 with q|⟨g,cap,cur,e,hg,r⟩
 . exact .inl q
 . exact .inr ⟨g,cap,cur,e,Nat.le_trans hm hg,r⟩
theorem BM.lit {w:World}{base:Nat}{v:Value}{zs:List Int}(h:BM w base v zs){k:Nat}(hk:k<zs.length):∃g cap,v = .slice (some ⟨g,0,none⟩) zs.length cap/\g<w.heap.size/\(∀i,i<zs.length->w.cell? ⟨g,i,none⟩=some (.int .i64 (zs.getD i 0)))/\∀i,w.frozen? ⟨g,i,none⟩=false:=by
 have h':=h;have hlt:=World.ownsRow.lt h;rcases h.2 with ⟨_,hn⟩|⟨g,cap,cur,rfl,_⟩
 . omega
 ·
  refine⟨g,cap,rfl,(hlt g rfl).2,fun i hi=>?_,fun i=>World.ownsRow.frozenAt h' i⟩;rw[World.ownsRow.cellAt h' i (by simpa using hi),List.getElem?_map,List.getElem?_eq_getElem hi,List.getD_eq_getElem?_getD,List.getElem?_eq_getElem hi];rfl
def IU (v:Value)(n:Nat)(a:Addr):Prop:=∃b o l c i,v = .slice (some ⟨b,o,none⟩) l c/\i<n/\a=⟨b,o+i,none⟩
def Wb (w:World)(a:Addr):Prop:=∃cur t,w.heap[a.block]? = some (.cells cur t (0,0))/\a.off<cur.size
theorem Wb.lt {w:World}{a:Addr}(h:Wb w a):a.block<w.heap.size:=by
 obtain⟨cur,t,h,_⟩:=h;exact (Array.getElem?_eq_some_iff.1 h).1
theorem Wb.keep {w w':World}{a:Addr}(h:Wb w a)(k:AC w w'):Wb w' a:=by
 have hl:=h.lt;obtain⟨cur,t,h,hn⟩:=h;exact⟨cur,t,(Below.block k _ hl).trans h,hn⟩
def IV (rs:List (Value×Nat))(a:Addr):Prop:=∃r∈rs,IU r.1 r.2 a
structure RA (w:World)(rs:List (Value×Nat)):Prop where
 wb:∀a,IV rs a->Wb w a
 ap:rs.Pairwise (fun r s=>∀a,IU r.1 r.2 a->¬IU s.1 s.2 a)
theorem RA.keep {w w':World}{rs:List (Value×Nat)}(h:RA w rs)(g:AC w w'):RA w' rs:=⟨fun a ha=>(h.wb a ha).keep g,h.ap⟩
section
section
variable {α:Type} (t:TypeId) (rowOf:List α->Value->Rw)
def LJ (v:Value)(hs:List Value)(xss:List (List α)):Option Nat->Rw
 |none=>EP t hs v
 |some i=>rowOf (xss.getD i []) (hs.getD i AE)
def Ek (j:Nat):Option Nat->Prop
 |none=>True
 |some i=>i<j
variable {t rowOf} {w w2:World} {m:Nat} {v u:Value} {hs:List Value} {xss:List (List α)} {j:Nat}
structure DM (t:TypeId)(rowOf:List α->Value->Rw)(w:World)(m:Nat)(v:Value)(hs:List Value)(xss:List (List α)):Prop where
 Ai:GH w m (Ek hs.length) (LJ t rowOf v hs xss)
 len:hs.length=xss.length
end
end
def Mz (l:List Int)(lo hi:Int):Bool:=l.all (fun x=>Cj x lo hi)
def FZ (l:List Int)(n lo hi:Int):Bool:=decide ((l.length:Int)=n)&&Mz l lo hi
def JF (last:Int)(l:List Int):Bool:=decide (l.length<=20)&&FZ l l.length 0 last
def U9 (last:Int)(x:Nt):Bool:=Cj x.1 0 2&&(Cj x.2.1 0 9&&Cj x.2.2 0 last)
def ON (last:Int)(l:List Nt):Bool:=decide (l.length<=8)&&l.all (U9 last)
def Et (last:Int)(b:Bd):Bool:=FZ b.AM 3 0 9&&(FZ b.AO 3 0 last&&(decide (b.rws.length=3)&&b.rws.all (JF last)))
def V4 (last:Int)(AA:List (List Dd))(b:Bd)(i:Nat):Bool:=Cj (b.AL.getD i 0) 0 ((AA.getD i []).length:Int)&&ON last (b.AG.getD i [])
def Hx (last:Int)(AA:List (List Dd))(b:Bd):Bool:=decide (b.AG.length=AA.length)&&(decide (b.AL.length=AA.length)&&(List.range AA.length).all (V4 last AA b))
def GA (AA:List (List Dd))(b:Bd):Bool:=
 AQ AA&&(Et (((AB AA).length:Int)-1) b&&(Hx (((AB AA).length:Int)-1) AA b&&(FZ b.sn (AX Ah (AB AA)).length (-1) 9&&FZ b.fr (AX Ah (AB AA)).length (-1) (((AB AA).length:Int)-1))))
theorem KM (x lo hi:Int):(decide (lo<=x)&&decide (x<=hi))=Cj x lo hi:=by
 rw[Bool.eq_iff_iff];unfold Cj;simp
theorem UU (l:List Int)(lo hi:Int)(m:Nat):DW l lo hi m=(Mz l lo hi&&decide (l.length<=m)):=by
 unfold DW Mz
 congr 2
 funext x;exact KM x lo hi
theorem mZ (n:Int)(x:Nt):Tv n x=U9 (n-1) x:=by
 unfold Tv U9;rw[KM,KM,KM]
theorem ko (AA:List (List Dd))(n:Int)(b:Bd)(i:Nat):Ln AA n b i=V4 (n-1) AA b i:=by
 unfold Ln V4 ON MH;rw[KM]
 congr 3
 funext x;exact mZ n x
theorem iX (last:Int)(l:List Int):JF last l=DW l 0 last 20:=by
 rw[UU];unfold JF FZ;simp[Bool.and_comm]
theorem Nf (last:Int)(b:Bd)(h:b.rws.length=3):b.rws.all (JF last)=EN (last+1) b:=by
 obtain⟨x,y,z,e⟩:∃x y z,b.rws=[x,y,z]:=by
  match hr:b.rws,h with
  | [x,y,z],_=>exact⟨x,y,z,rfl⟩
 unfold EN;rw[e];have e1:last+1-1=last:=by omega
 rw[e1];simp[List.range,List.range.loop,iX]
theorem Re (AA:List (List Dd))(b:Bd)(hl:(AX Ah (AB AA)).length<=12):GA AA b=AW AA b:=by
 generalize hr:(AX Ah (AB AA)).length=r at hl;generalize hn:((AB AA).length:Int)=n;rw[Bool.eq_iff_iff];unfold GA AW C1 EU Et Hx FZ;rw[hr,hn];have ec:(fun i=>Ln AA n b i)=V4 (n-1) AA b:=by funext i;exact ko AA n b i
 rw[ec];simp only[UU,Bool.and_eq_true,decide_eq_true_eq];have e1:n-1+1=n:=by omega
 constructor
 ·
  rintro⟨h1,⟨⟨p1,p2⟩,⟨l1,l2⟩,r1,r2⟩,⟨c1,c2,c3⟩,⟨s1,s2⟩,f1,f2⟩;rw[Nf _ _ r1,e1] at r2;exact⟨⟨h1,by omega,by omega,r1,c1,c2⟩,⟨by omega,by omega,⟨p2,by omega⟩,⟨l2,by omega⟩,⟨s2,by omega⟩,f2,by omega⟩,r2,c3⟩
 ·
  rintro⟨⟨h1,p1,l1,r1,c1,c2⟩,⟨s1,f1,⟨p2,_⟩,⟨l2,_⟩,⟨s2,_⟩,f2,_⟩,r2,c3⟩;refine⟨h1,⟨⟨by omega,p2⟩,⟨by omega,l2⟩,r1,?_⟩,⟨c1,c2,c3⟩,⟨by omega,s2⟩,by omega,f2⟩;rw[Nf _ _ r1,e1];exact r2
theorem Ry {l:List Int}{lo hi:Int}{k:Nat}(hk:k<l.length)(h:Cj (l.getD k 0) lo hi=false):Mz l lo hi=false:=by
 unfold Mz;rw[List.all_eq_false];refine⟨l.getD k 0,?_,by rw[h];simp⟩;rw[List.getD_eq_getElem?_getD,List.getElem?_eq_getElem hk];exact List.getElem_mem hk
theorem Fz {α:Type}{l:List α}{f:α->Bool}(z:α)(h:∀k,k<l.length->f (l.getD k z)=true):l.all f=true:=by
 rw[List.all_eq_true];intro x hx;obtain⟨i,hi,e⟩:=List.getElem_of_mem hx;have:=h i hi;rw[List.getD_eq_getElem?_getD,List.getElem?_eq_getElem hi] at this;simp only[Option.getD_some] at this;rw[e] at this;exact this
theorem Hs {α:Type}{l:List α}{f:α->Bool}(z:α){k:Nat}(hk:k<l.length)(h:f (l.getD k z)=false):l.all f=false:=by
 rw[List.all_eq_false];refine⟨l.getD k z,?_,by rw[h];simp⟩;rw[List.getD_eq_getElem?_getD,List.getElem?_eq_getElem hk];exact List.getElem_mem hk
def Pz (d:Dd):Int:=d.2.2.2
def gK (ds:List Dd):Nat->Int
 | 0=>0
 |k+1=>if Pz (ds.getD k zD)=0 then gK ds k else ME (gK ds k) (Pz (ds.getD k zD))
def gC (ds:List Dd):Int:=gK ds ds.length
def IR (ds:List Dd)(k:Nat):Bool:=decide (0<k)&&(Pz (ds.getD k zD) != Pz (ds.getD (k-1) zD))&&FT (gK ds k) (Pz (ds.getD k zD))
def Fk (ds:List Dd):Nat->Bool
 | 0=>true
 |k+1=>Fk ds k&&!IR ds k
def Gd (AA:List (List Dd)):Nat->Int
 | 0=>0
 |i+1=>bits .or .i64 (Gd AA i) (gC (AA.getD i []))
def Cn (ds:List Dd)(t:Int):Bool:=decide (ds.length<=5)&&ds.all Fm&&Fk ds ds.length&&(bits .and .i64 (gC ds) t==0)
def B6 (AA:List (List Dd)):Nat->Bool
 | 0=>true
 |i+1=>B6 AA i&&Cn (AA.getD i []) (Gd AA i)
theorem PX {α:Type}(l:List α)(i k:Nat)(z:α)(h:k<i):(l.take i).getD k z=l.getD k z:=by
 rw[List.getD_eq_getElem?_getD,List.getElem?_take,if_pos h,List.getD_eq_getElem?_getD]
theorem Uo (ds:List Dd)(i:Nat):∀k:Nat,k<=i->gK (ds.take i) k=gK ds k
 | 0,_=>rfl
 |k+1,h=>by rw[gK,gK,Uo ds i k (by omega),PX ds i k zD (by omega)]
theorem gL (ds:List Dd)(i:Nat)(h:i<=ds.length):gC (ds.take i)=gK ds i:=by
 rw[gC,List.length_take,Nat.min_eq_left h,Uo ds i i (Nat.le_refl _)]
theorem Nn {ds:List Dd}{k:Nat}(h:Fk ds k=false):∀n:Nat,k<=n->Fk ds n=false
 | 0,hn=>by
  obtain rfl:k=0:=by omega
  exact h
 |n+1,hn=>by
  by_cases e:k=n+1
  . rw[<-e];exact h
  . rw[Fk,Nn h n (by omega)];rfl
theorem GG {AA:List (List Dd)}{k:Nat}(h:B6 AA k=false):∀n:Nat,k<=n->B6 AA n=false
 | 0,hn=>by
  obtain rfl:k=0:=by omega
  exact h
 |n+1,hn=>by
  by_cases e:k=n+1
  . rw[<-e];exact h
  . rw[B6,GG h n (by omega)];rfl
def wL (a b:Nat):Prop:=∀k,a.testBit k=true->b.testBit k=false
theorem Uj (a b:Nat):wL a b↔a &&& b=0:=by
 constructor
 ·
  intro h;apply Nat.eq_of_testBit_eq;intro k;rw[Nat.testBit_and,Nat.zero_testBit];cases ha:a.testBit k
  . rfl
  . rw[h k ha];rfl
 ·
  intro h k ha;have h1:(a &&& b).testBit k=false:=by rw[h,Nat.zero_testBit]
  rw[Nat.testBit_and,ha] at h1
  simpa using h1
theorem NV (a g k:Nat):(a ||| 2 ^ g).testBit k=(a.testBit k||decide (g=k)):=by
 rw[Nat.testBit_or,Nat.testBit_two_pow]
theorem Z5 (o:List Int)(g:Nat)(x:Int)(j:Nat)(hg:g<o.length):(o.set g x).getD j 0=if g=j then x else o.getD j 0:=by
 rw[List.getD_eq_getElem?_getD,List.getElem?_set];by_cases e:g=j
 . subst e;rw[if_pos rfl,if_pos hg,if_pos rfl];rfl
 . rw[if_neg e,if_neg e,List.getD_eq_getElem?_getD]
theorem iK {d:Dd}(h:Fm d=true):0<=Pz d/\Pz d<=9:=by
 simp[Fm,D8] at h;unfold Pz;omega
theorem Gl {i:Nat}{own:List Int}{T:Nat}{ds:List Dd}(hl:own.length=10)(hT:∀g,g<10->(own.getD g 0≠0↔T.testBit g=true))(hi:∀g,g<10->own.getD g 0≠(i:Int)+1)(hT0:T.testBit 0=false):
  ∀k:Nat,(∀j,j<k->Fm (ds.getD j zD)=true)->∃G:Nat,G<4096/\gK ds k=(G:Int)/\G.testBit 0=false/\(k=0->G=0) /\
   (Cq i own ds k=none->Fk ds k=false\/¬wL G T) /\
   ∀o,Cq i own ds k=some o->Fk ds k=true/\wL G T/\o.length=10/\∀g,g<10->o.getD g 0=if G.testBit g=true then (i:Int)+1 else own.getD g 0
 | 0,_=>⟨0,by omega,rfl,by simp,fun _=>rfl,by simp[Cq],by
   intro o ho;simp only[Cq,Option.some.injEq] at ho;subst ho
   exact⟨rfl,fun k hk=>by simp at hk,hl,by simp⟩⟩
 |k+1,hok=>by
  obtain⟨G,hG,jV,hG0,hz,hN,hS⟩:=Gl hl hT hi hT0 k (fun j hj=>hok j (by omega));obtain⟨h0,h9⟩:=iK (hok k (by omega));obtain⟨g,hg⟩:=Int.eq_ofNat_of_zero_le h0;have hgg:(ds.getD k zD).2.2.2=(g:Int):=hg;by_cases hg0:g=0
  ·
   subst hg0;have hz0:(ds.getD k zD).2.2.2=0:=hgg;have e1:gK ds (k+1)=(G:Int):=by rw[gK,hg,if_pos (by simp),jV]
   have e2:IR ds k=false:=by
    have:FT (gK ds k) (Pz (ds.getD k zD))=false:=by rw[jV,hg,M3 G 0 hG (by omega),hG0]
    rw[IR,this,Bool.and_false]
   have e3:Fk ds (k+1)=Fk ds k:=by rw[Fk,e2];simp
   have e4:Cq i own ds (k+1)=Cq i own ds k:=by
    rw[Cq]
    cases hq:Cq i own ds k with
    |none=>rfl
    |some o=>simp only;rw[if_pos hz0]
   refine⟨G,hG,e1,hG0,by omega,?_,?_⟩
   . rw[e3,e4];exact hN
   . rw[e3,e4];exact hS
  ·
   have rO:(ds.getD k zD).2.2.2≠0:=by rw[hgg];omega
   have g9:g<=9:=by rw[hg] at h9;omega
   have e1:gK ds (k+1)=((G ||| 2 ^ g:Nat):Int):=by
    rw[gK,hg,if_neg (by omega),jV,Yx G g hG (by omega)]
   have e0:(G ||| 2 ^ g).testBit 0=false:=by rw[NV,hG0];simp[hg0]
   have inS:FT (gK ds k) (Pz (ds.getD k zD))=G.testBit g:=by rw[jV,hg,M3 G g hG (by omega)]
   refine⟨G ||| 2 ^ g,sO G g hG (by omega),e1,e0,by omega,?_,?_⟩
   ·
    intro hn;rw[Cq] at hn
    cases hq:Cq i own ds k with
    |none=>
     rcases hN hq with h|h
     . left;rw[Fk,h];rfl
     ·
      right;intro hd;refine h (fun b hb=>hd b ?_);rw[NV,hb];rfl
    |some o=>
     rw[hq] at hn;simp only at hn;rw[if_neg rO,hgg,Int.toNat_natCast] at hn;obtain⟨ht,hd,hlen,ho⟩:=hS o hq;split at hn
     ·
      rename_i hc
      cases gV:T.testBit g with
      |true=>
       right;intro hd2;have:=hd2 g (by rw[NV];simp);rw[gV] at this;cases this
      |false=>
       left
       have hown:own.getD g 0=0:=by
        apply Classical.byContradiction;intro hne;rw[(hT g (by omega)).1 hne] at gV;cases gV
       cases Xm:G.testBit g with
       |false=>
        exfalso;have:=ho g (by omega);rw[Xm,hown] at this;exact hc.1 (by simpa using this)
       |true=>
        have hk0:k≠0:=by
         intro hk;rw[hz hk] at Xm;simp at Xm
        have hog:=ho g (by omega);rw[Xm,if_pos rfl] at hog
        have hp:(ds.getD (k-1) zD).2.2.2≠(g:Int):=by
         rcases hc.2 with h|h|h
         . exact absurd hog h
         . exact absurd h hk0
         . exact h
        have:IR ds k=true:=by
         rw[IR,inS,Xm,hg]
         have hp':((g:Int) != Pz (ds.getD (k-1) zD))=true:=by
          rw[bne_iff_ne];exact fun e=>hp e.symm
         rw[hp'];simp;omega
        rw[Fk,this];simp
     . cases hn
   ·
    intro o' hn;rw[Cq] at hn
    cases hq:Cq i own ds k with
    |none=>rw[hq] at hn;cases hn
    |some o=>
     rw[hq] at hn;simp only at hn;rw[if_neg rO,hgg,Int.toNat_natCast] at hn;obtain⟨ht,hd,hlen,ho⟩:=hS o hq;split at hn
     . cases hn
     ·
      rename_i hc;simp only[Option.some.injEq] at hn;subst hn;have hog:=ho g (by omega)
      have gV:T.testBit g=false:=by
       cases gV:T.testBit g with
       |false=>rfl
       |true=>
        exfalso
        have Xm:G.testBit g=false:=by
         cases Xm:G.testBit g with
         |false=>rfl
         |true=>rw[hd g Xm] at gV;cases gV
        rw[Xm] at hog;simp only[Bool.false_eq_true,if_false] at hog;exact hc ⟨by rw[hog];exact (hT g (by omega)).2 gV,.inl (by rw[hog];exact hi g (by omega))⟩
      refine⟨?_,?_,by rw[List.length_set];exact hlen,?_⟩
      ·
       have:IR ds k=false:=by
        cases hp:IR ds k with
        |false=>rfl
        |true=>
         exfalso;rw[IR,inS,hg,Bool.and_eq_true,Bool.and_eq_true,decide_eq_true_eq,bne_iff_ne] at hp;obtain⟨⟨hk,hne⟩,Xm⟩:=hp;rw[Xm,if_pos rfl] at hog;exact hc ⟨by rw[hog];omega,.inr (.inr (fun e=>hne e.symm))⟩
       rw[Fk,ht,this];rfl
      ·
       intro b hb;rw[NV,Bool.or_eq_true,decide_eq_true_eq] at hb;rcases hb with hb|rfl
       . exact hd b hb
       . exact gV
      ·
       intro j hj;rw[Z5 o g _ j (by omega),NV];by_cases e:g=j
       . subst e;simp
       . rw[if_neg e,ho j hj];simp[e]
theorem Pb {AA:List (List Dd)}:∀n:Nat,(∀i,i<n->GI (AA.getD i [])=true)->∃T:Nat,T<4096/\Gd AA n=(T:Int)/\T.testBit 0=false /\
   (Eg AA n=none->B6 AA n=false) /\
   ∀o,Eg AA n=some o->B6 AA n=true/\o.length=10/\(∀g,g<10->(o.getD g 0≠0↔T.testBit g=true))/\∀g,g<10->0<=o.getD g 0/\o.getD g 0<=(n:Int)
 | 0,_=>⟨0,by omega,rfl,by simp,by simp[Eg],by
   intro o ho;simp only[Eg,Option.some.injEq] at ho;subst ho;refine⟨rfl,by simp,fun g hg=>?_,fun g hg=>?_⟩
   . rw[List.getD_eq_getElem?_getD,List.getElem?_replicate,if_pos hg];simp
   . rw[List.getD_eq_getElem?_getD,List.getElem?_replicate,if_pos hg];simp⟩
 |n+1,hok=>by
  obtain⟨T,hT,htk,hT0,hN,hS⟩:=Pb n (fun i hi=>hok i (by omega));have za:=hok n (by omega);simp only[GI,Bool.and_eq_true,decide_eq_true_eq] at za;have hall:=za.1;have hok2:∀j,j<(AA.getD n []).length->Fm ((AA.getD n []).getD j zD)=true:=fun j hj=>Bo zD hall j hj
  obtain⟨G0,hG0,gX,hG00,-⟩:=Gl (i:=0) (own:=List.replicate 10 0) (T:=0) (ds:=AA.getD n []) (by simp) (fun g hg=>by rw[List.getD_eq_getElem?_getD,List.getElem?_replicate,if_pos hg];simp) (fun g hg=>by rw[List.getD_eq_getElem?_getD,List.getElem?_replicate,if_pos hg];simp) (by simp) (AA.getD n []).length hok2
  have hor:Gd AA (n+1)=((T ||| G0:Nat):Int):=by
   rw[Gd,htk,gC,gX,Mw T G0 (by omega) (by omega)]
  have hand:bits .and .i64 (gC (AA.getD n [])) (Gd AA n)=((G0 &&& T:Nat):Int):=by
   rw[gC,gX,htk,Lr G0 T (by omega) (by omega)]
  have hR:Cn (AA.getD n []) (Gd AA n)=(Fk (AA.getD n []) (AA.getD n []).length&&decide (G0 &&& T=0)):=by
   rw[Cn,hall,decide_eq_true za.2,hand];simp only[Bool.true_and]
   congr 1
   rw[Bool.eq_iff_iff,beq_iff_eq,decide_eq_true_eq];omega
  refine⟨T ||| G0,Nat.or_lt_two_pow (n:=12) hT hG0,hor,by rw[Nat.testBit_or,hT0,hG00];rfl,?_,?_⟩
  ·
   intro hn;rw[Eg] at hn
   cases hq:Eg AA n with
   |none=>rw[B6,hN hq];rfl
   |some o=>
    rw[hq] at hn;simp only at hn;obtain⟨hr,hl,hb,hle⟩:=hS o hq;obtain⟨G,hG,jV,-,-,hN2,-⟩:=Gl (i:=n) (own:=o) (T:=T) (ds:=AA.getD n []) hl hb (fun g hg=>by have:=hle g hg;omega) hT0 (AA.getD n []).length hok2;obtain rfl:G=G0:=by rw[gX] at jV;omega
    rw[B6,hr,hR];rcases hN2 hn with h|h
    . rw[h];rfl
    . rw[decide_eq_false (fun e=>h ((Uj _ _).2 e))];simp
  ·
   intro o' hn;rw[Eg] at hn
   cases hq:Eg AA n with
   |none=>rw[hq] at hn;cases hn
   |some o=>
    rw[hq] at hn;simp only at hn;obtain⟨hr,hl,hb,hle⟩:=hS o hq;obtain⟨G,hG,jV,-,-,-,hS2⟩:=Gl (i:=n) (own:=o) (T:=T) (ds:=AA.getD n []) hl hb (fun g hg=>by have:=hle g hg;omega) hT0 (AA.getD n []).length hok2;obtain rfl:G=G0:=by rw[gX] at jV;omega
    obtain⟨h1,h2,h3,h4⟩:=hS2 o' hn;refine⟨by rw[B6,hr,hR,h1,decide_eq_true ((Uj _ _).1 h2)];rfl,h3,fun g hg=>?_,fun g hg=>?_⟩
    ·
     rw[h4 g hg,Nat.testBit_or,Bool.or_eq_true];cases Xm:G.testBit g
     . simp only[Bool.false_eq_true,if_false,or_false];exact hb g hg
     . simp only[if_true,or_true,iff_true];omega
    ·
     rw[h4 g hg];have:=hle g hg;split<;>omega
theorem Sd {AA:List (List Dd)}(h:AA.all GI=true):B6 AA AA.length=KE AA:=by
 obtain⟨T,-,-,-,hN,hS⟩:=Pb (AA:=AA) AA.length (fun i hi=>Bo [] h i hi);rw[KE]
 cases hq:Eg AA AA.length with
 |none=>rw[hN hq];rfl
 |some o=>rw[(hS o hq).1];rfl
theorem UC {AA:List (List Dd)}(h:B6 AA AA.length=true):AA.all GI=true:=by
 refine kU [] (fun i hi=>?_)
 cases hb:B6 AA (i+1) with
 |false=>rw[GG hb _ hi] at h;cases h
 |true=>
  rw[B6,Bool.and_eq_true] at hb;have:=hb.2;simp only[Cn,Bool.and_eq_true] at this;rw[GI,this.1.1.2,Bool.true_and];exact this.1.1.1
theorem Sv (AA:List (List Dd)):AQ AA=(decide (1<=AA.length/\AA.length<=3)&&B6 AA AA.length&&decide (C8 AA<=12)&&decide (Ro AA AA.length<=6)):=by
 rw[AQ]
 cases h:AA.all GI with
 |true=>
  rw[Sd h];cases KE AA<;>simp
 |false=>
  cases hr:B6 AA AA.length with
  |false=>simp
  |true=>rw[UC hr] at h;cases h
section
section
variable {P:Program} {md:Region.Mode} {ops:Array Oper} {Q:Exit->Act->World->Prop} {S:World->Prop}
theorem tZ (i d:Nat){oi:Oper}{v:Value}{fuel:Nat}{listed:Array Bool}{a:Act}{w:World}(hi:ops[i]? = some oi)(hd:oi.dst=some d)
  (hs:Region.noSelect ops=true) (hf:Region.free md ops listed i=true) (hr:(Region.ready md ops listed).contains i=true)
  (hQ:∀c a w,Q (.panic c) (a.put (some d) v) w->Q (.panic c) a w) (hw:Region.wanted oi (yielded ops a.tmps)=true) (hy:∀w,S w->(execOp a.eval oi).run P w = .ok (.value v) w) (hS:S w)
  (h:wpAnyH P md ops Q S fuel (listed.setIfInBounds i true) (a.put (some d) v) w):wpAnyH P md ops Q S (fuel+1) listed a w:=by
 rw[<-hd] at hQ h;exact wpAnyH_take hi hs hf hr hQ (Or.inl ⟨hw,hy⟩) hS h
theorem Ar (i d:Nat){oi:Oper}{v:Value}{fuel:Nat}{listed:Array Bool}{a:Act}{w:World}
  (hy:∀w,S w->(execOp a.eval oi).run P w = .ok (.value v) w) (h:wpAnyH P md ops Q S fuel (listed.setIfInBounds i true) (a.put (some d) v) w)
  (hi:ops[i]? = some oi:=by rfl) (hd:oi.dst=some d:=by rfl)
  (hs:Region.noSelect ops=true:=by kernel_rfl) (hf:Region.free md ops listed i=true:=by kernel_rfl) (hr:(Region.ready md ops listed).contains i=true:=by kernel_rfl)
  (hQ:∀c a w,Q (.panic c) (a.put (some d) v) w->Q (.panic c) a w:=by exact fun _ _ _ h=>h) (hw:Region.wanted oi (yielded ops a.tmps)=true:=by rfl) (hS:S w:=by assumption):wpAnyH P md ops Q S (fuel+1) listed a w:=
 tZ i d hi hd hs hf hr hQ hw hy hS h
theorem Ea (i d:Nat){oi:Oper}{fuel:Nat}{listed:Array Bool}{a:Act}{w:World}(hi:ops[i]? = some oi)(hd:oi.dst=some d)
  (hs:Region.noSelect ops=true) (hf:Region.free md ops listed i=true) (hr:(Region.ready md ops listed).contains i=true)
  (hQ:∀c a w,Q (.panic c) (a.put (some d) undef) w->Q (.panic c) a w) (hw:Region.wanted oi (yielded ops a.tmps)=false) (hS:S w)
  (h:wpAnyH P md ops Q S fuel (listed.setIfInBounds i true) (a.put (some d) undef) w):wpAnyH P md ops Q S (fuel+1) listed a w:=by
 rw[<-hd] at hQ h;exact wpAnyH_take hi hs hf hr hQ (Or.inr ⟨hw,rfl⟩) hS h
end
end
structure LP (w0 wr:World)(x:Value)(es:List Ev)(P:List (Nat×Obj)):Prop where
 app:JD wr w0.heap.size x es
 keep:AC w0 wr
 held:∀n o,(n,o)∈P->x.ownBlock≠some n/\wr.heap[n]? = some o
theorem LP.more {w0 wr wr':World}{x:Value}{es:List Ev}{P:List (Nat×Obj)}(h:LP w0 wr x es P)(k:AC wr wr'):LP w0 wr' x es P:=
 ⟨h.app.keep k,h.keep.trans k,fun n o hn=>⟨(h.held n o hn).1,(Below.block k n (Array.getElem?_eq_some_iff.1 (h.held n o hn).2).1).trans (h.held n o hn).2⟩⟩
theorem LP.add {w0 wr:World}{x:Value}{es:List Ev}{P:List (Nat×Obj)}(h:LP w0 wr x es P)(n:Nat)(o:Obj)(hx:x.ownBlock≠some n)(ho:wr.heap[n]? = some o):LP w0 wr x es ((n,o)::P):=
 ⟨h.app,h.keep,fun m q hm=>by
  rcases List.mem_cons.1 hm with e|e
  . injection e with e1 e2;subst e1 e2;exact⟨hx,ho⟩
  . exact h.held m q e⟩
theorem LP.new {w0 wr:World}{x:Value}{es:List Ev}{P:List (Nat×Obj)}(h:LP w0 wr x es P)(o:Obj):LP w0 (wr.alloc o) x es ((wr.heap.size,o)::P):=
 (h.more ((AC.refl wr).alloc o)).add _ _ (fun e=>by have:=(h.app.lt _ e).2;omega) (heap_alloc_new wr o)
theorem LP.later {w0 wr wr':World}{x:Value}{es:List Ev}{P:List (Nat×Obj)}(h:LP w0 wr x es P)(k:AC wr wr'){B:Nat}{o:Obj}(hB:wr.heap.size<=B)(ho:wr'.heap[B]? = some o):LP w0 wr' x es ((B,o)::P):=
 (h.more k).add _ _ (fun e=>by have:=(h.app.lt _ e).2;omega) ho
theorem LP.less {w0 wr:World}{x:Value}{es:List Ev}{P Q:List (Nat×Obj)}(h:LP w0 wr x es P)(hs:∀y,y∈Q->y∈P):LP w0 wr x es Q:=
 ⟨h.app,h.keep,fun n o hn=>h.held n o (hs _ hn)⟩
theorem LP.hit {w0 wr w':World}{x v':Value}{es:List Ev}{P:List (Nat×Obj)}(h:LP w0 wr x es P)(e:Ev)
  (ho:w'.ownsRow w0.heap.size 128 6 v' (es.length+1) (es.flatMap cE++cE e)) (hg:wr.grownBy w' x.ownBlock) (hb:v'.ownBlock=x.ownBlock\/v'.ownBlock=some wr.heap.size):LP w0 w' v' (es++[e]) P:=by
 refine⟨Ju ho,h.keep.grown hg h.app.ge,fun n o hn=>?_⟩;obtain⟨h1,h2⟩:=h.held n o hn;have hlt:=(Array.getElem?_eq_some_iff.1 h2).1;refine⟨fun e=>?_,(hg.block n hlt (fun e=>h1 e.symm)).trans h2⟩;rcases hb with hb|hb
 . exact h1 (hb ▸ e)
 . rw[hb] at e;have:=Option.some.inj e;omega
theorem LP.lt {w0 wr:World}{x:Value}{es:List Ev}{P:List (Nat×Obj)}(h:LP w0 wr x es P){n:Nat}{o:Obj}(hn:(n,o)∈P):n<wr.heap.size:=(Array.getElem?_eq_some_iff.1 (h.held n o hn).2).1
theorem LP.cell {w0 wr:World}{x:Value}{es:List Ev}{P:List (Nat×Obj)}(h:LP w0 wr x es P){n:Nat}{cs:Array Value}{t:TypeId}(hn:(n,.cells cs t)∈P)(i:Nat):wr.cell? ⟨n,i,none⟩=cs[i]?:=
 cell_of_row wr n i cs t (0,0) (h.held n _ hn).2
theorem YK {w:World}{base base':Nat}{v:Value}{es:List Ev}(h:JD w base v es)(hb:base'<=base):JD w base' v es:=by
 refine⟨h.1,?_⟩;rcases h.2 with h|⟨g,cap,cur,hv,hg,rest⟩
 . exact .inl h
 . exact .inr ⟨g,cap,cur,hv,Nat.le_trans hb hg,rest⟩
abbrev eO (i k:Int)(r:Bool)(p v c:Int):Obj:= .cells #[.int .i64 i,.int .i64 k,.bool r,.int .i64 p,.int .i64 v,.int .i64 c] 128
theorem Jy (e:Ev):∀u∈cE e,u.oneCell'=true:=by
 intro u hu;simp only[cE,List.mem_cons,List.not_mem_nil,or_false] at hu;rcases hu with rfl|rfl|rfl|rfl|rfl|rfl<;>rfl
theorem Jx (w:World)(n:Nat)(hn:w.heap.size=n)(i q:Int)(r:Bool)(pl vl c:Int):∀j u,(cE (i,q,r,pl,vl,c))[j]? = some u->(w.alloc (eO i q r pl vl c)).cell? ((⟨n,0,none⟩:Addr).add j)=some u:=by
 subst hn;intro j u hj
 match j,hj with
 | 0,hj=>simp[cE] at hj;subst hj;simp[Addr.add]
 | 1,hj=>simp[cE] at hj;subst hj;simp[Addr.add]
 | 2,hj=>simp[cE] at hj;subst hj;simp[Addr.add]
 | 3,hj=>simp[cE] at hj;subst hj;simp[Addr.add]
 | 4,hj=>simp[cE] at hj;subst hj;simp[Addr.add]
 | 5,hj=>simp[cE] at hj;subst hj;simp[Addr.add]
def Qz (f:Ev->Bool)(es:List Ev)(k:Nat):Bool:=decide (k<es.length)&&f (es.getD k zE)
def Ue (f:Ev->Bool)(es:List Ev):Nat->List Int
 | 0=>[]
 |k+1=>if Qz f es k=true then Ue f es k++[(k:Int)] else Ue f es k
theorem Pp (f:Ev->Bool)(es:List Ev):∀k,Ue f es k=Bi f es (min k es.length)
 | 0=>by simp[Ue,Bi]
 |k+1=>by
  rw[Ue,Pp f es k];by_cases h:k<es.length
  ·
   rw[show min (k+1) es.length=k+1 by omega,show min k es.length=k by omega,Bi];simp[Qz,h]
  ·
   rw[show min (k+1) es.length=min k es.length by omega];simp[Qz,h]
theorem fM (f:Ev->Bool)(es:List Ev)(k:Nat)(h:es.length<=k):Ue f es k=Bi f es es.length:=by
 rw[Pp,Nat.min_eq_right h]
theorem fO (f:Ev->Bool)(es:List Ev)(k:Nat):(Ue f es k).length<=k:=by
 rw[Pp];have:=DP f es (min k es.length);omega
theorem IB (f:Ev->Bool)(es:List Ev):(AX f es).length<=12:=by
 unfold AX;split
 . have:=DP f es es.length;omega
 . simp
def Q5 (rs:List Int)(c k:Nat)(pl:Bool)(b:Bd)(n:Nat)(e:Ev):Bd:=
 if e.1=(c:Int)/\e.2.1=(k:Int) then
  if e.2.2.1=true then Fo rs b (n:Int) (Ct b c e.2.2.2.1.toNat).1 (Ct b c e.2.2.2.1.toNat).2
  else if pl=true then { b with AG:=b.AG.set c (b.AG.getD c []++[(e.2.2.2.1,e.2.2.2.2.1,(n:Int))]) }
  else Dn b e.2.2.2.1.toNat e.2.2.2.2.1 (n:Int)
 else b
def C6 (es:List Ev)(rs:List Int)(c k:Nat)(pl:Bool)(b:Bd):Nat->Bd
 | 0=>b
 |n+1=>Q5 rs c k pl (C6 es rs c k pl b n) n (es.getD n zE)
def Dv (d:Dd):Bool:=decide (d.2.2.2=0)&&(decide (d.1=1)||decide (d.1=2))
theorem Yr {AA:List (List Dd)}(hb:AQ AA=true){c k j:Nat}(hj:j<(AB AA).length)(h:((AB AA).getD j zE).1=(c:Int)/\((AB AA).getD j zE).2.1=(k:Int)):∃i,Dz AA j c k i:=by
 by_cases h3:3<=j
 ·
  obtain⟨c',k',i,E⟩:=Gn hb h3 hj;rw[E.at hb] at h;obtain⟨h1,h2⟩:=h;have h1:(c':Int)=(c:Int):=h1;have h2:(k':Int)=(k:Int):=h2;obtain rfl:c'=c:=by omega
  obtain rfl:k'=k:=by omega
  exact⟨i,E⟩
 ·
  exfalso;obtain⟨t,ht⟩:=Gp AA 0 AA.length (Nat.zero_le _)
  have e:(AB AA).getD j zE=CZ.getD j zE:=by
   rw[AB,if_pos hb,ht];show (CZ++t).getD j zE=_;rw[List.getD_eq_getElem?_getD,List.getElem?_append_left (by show j<3;omega),<-List.getD_eq_getElem?_getD]
  rw[e] at h;have:j=0\/j=1\/j=2:=by omega
  rcases this with rfl|rfl|rfl<;>(have h1:(-1:Int)=(c:Int):=h.1;omega)
theorem J4 {AA:List (List Dd)}(hb:AQ AA=true){c k:Nat}{rs:List Int}{pl:Bool}{b:Bd}{n:Nat}:∀m:Nat,n+m<=(AB AA).length->(∀j i,n<=j->¬Dz AA j c k i)->C6 (AB AA) rs c k pl b (n+m)=C6 (AB AA) rs c k pl b n
 | 0,_,_=>rfl
 |m+1,hm,hn=>by
  rw[<-J4 hb m (by omega) hn];show Q5 rs c k pl (C6 (AB AA) rs c k pl b (n+m)) (n+m) ((AB AA).getD (n+m) zE)=_;unfold Q5;rw[if_neg (fun h=>by obtain⟨i,E⟩:=Yr hb (by omega) h;exact hn _ i (by omega) E)]
theorem Uk {AA:List (List Dd)}(hb:AQ AA=true){c k:Nat}{rs:List Int}{pl:Bool}{b:Bd}:∀m:Nat,m<=(AB AA).length->m<=Ac AA c k->C6 (AB AA) rs c k pl b m=b
 | 0,_,_=>rfl
 |m+1,hm,ho=>by
  show Q5 rs c k pl (C6 (AB AA) rs c k pl b m) m ((AB AA).getD m zE)=_;rw[Uk hb m (by omega) (by omega)];unfold Q5;rw[if_neg (fun h=>by obtain⟨i,E⟩:=Yr hb (by omega) h;have:=E.hj;omega)]
theorem Yk {AA:List (List Dd)}(hb:AQ AA=true){c k j i:Nat}(E:Dz AA j c k i)(rs:List Int)(pl:Bool)(b:Bd):
  Q5 rs c k pl b j ((AB AA).getD j zE) =
   if Kh (Al AA c k) i=true then Fo rs b (j:Int) (Ct b c (Al AA c k).2.1.toNat).1 (Ct b c (Al AA c k).2.1.toNat).2
   else if pl=true then { b with AG:=b.AG.set c (b.AG.getD c []++[((Al AA c k).2.1,XI (Al AA c k) i,(j:Int))]) }
   else Dn b (Al AA c k).2.1.toNat (XI (Al AA c k) i) (j:Int):=by
 unfold Q5;rw[E.at hb,if_pos ⟨rfl,rfl⟩]
theorem fV {AA:List (List Dd)}(hb:AQ AA=true){c k:Nat}(hc:c<AA.length)(hk:k<(AA.getD c []).length)(b:Bd)(h3:(Al AA c k).1=3->b.AG.getD c []=[]):
  C6 (AB AA) (AX Ah (AB AA)) c k (Dv (Al AA c k)) b (AB AA).length=BL AA (AB AA) b c k:=by
 have hd:=CM (CG hb hc k hk);have hg:=(Yy (CG hb hc) hk).1;have e0:∀pl:Bool,Ac AA c k<=(AB AA).length->C6 (AB AA) (AX Ah (AB AA)) c k pl b (Ac AA c k)=b:=fun pl h=>Uk hb _ h (Nat.le_refl _)
 by_cases h4:(Al AA c k).1=4
 ·
  have:∀j i,¬Dz AA j c k i:=fun j i E=>E.kind h4
  have e:=J4 hb (c:=c) (k:=k) (rs:=AX Ah (AB AA)) (pl:=Dv (Al AA c k)) (b:=b) (n:=0) (AB AA).length (by omega) (fun j i _=>this j i);rw[Nat.zero_add] at e;rw[e];unfold BL;rw[if_neg (by omega),if_neg (by omega),if_neg (by omega),if_neg (by omega)];rfl
 have E:=Cl hc hk h4;have hl:=E.lt hb
 have e1:C6 (AB AA) (AX Ah (AB AA)) c k (Dv (Al AA c k)) b (Ac AA c k+1)=Q5 (AX Ah (AB AA)) c k (Dv (Al AA c k)) b (Ac AA c k) ((AB AA).getD (Ac AA c k) zE):=by
  show Q5 _ _ _ _ (C6 _ _ _ _ _ _ _) _ _=_;rw[e0 _ (by omega)]
 rw[Yk hb E] at e1;have hev:=JX hb hc hk h4;by_cases k3:(Al AA c k).1=3
 ·
  have E2:=Ic hc hk k3;have hl2:=E2.lt hb;have e2:C6 (AB AA) (AX Ah (AB AA)) c k (Dv (Al AA c k)) b (Ac AA c k+1+1)=Q5 (AX Ah (AB AA)) c k (Dv (Al AA c k)) (C6 (AB AA) (AX Ah (AB AA)) c k (Dv (Al AA c k)) b (Ac AA c k+1)) (Ac AA c k+1) ((AB AA).getD (Ac AA c k+1) zE):=rfl;rw[Yk hb E2,e1] at e2
  have es:=J4 hb (c:=c) (k:=k) (rs:=AX Ah (AB AA)) (pl:=Dv (Al AA c k)) (b:=b) (n:=Ac AA c k+1+1) ((AB AA).length-(Ac AA c k+1+1)) (by omega) (fun j i h E=>by
   have:=E.hj;have:=E.hi;unfold FY at this;rw[if_neg h4,if_pos k3] at this
   omega)
  rw[show Ac AA c k+1+1+((AB AA).length-(Ac AA c k+1+1))=(AB AA).length by omega] at es;rw[es,e2];have r0:Kh (Al AA c k) 0=true:=by unfold Kh;rw[decide_eq_true (show (Al AA c k).1≠2 by omega)];rfl
  have r1:Kh (Al AA c k) 1=false:=by unfold Kh;simp
  have hp:Dv (Al AA c k)=false:=by unfold Dv;rw[decide_eq_false (show ¬(Al AA c k).1=1 by omega),decide_eq_false (show ¬(Al AA c k).1=2 by omega)];simp
  have hv:XI (Al AA c k) 1=(Al AA c k).2.2.1:=by unfold XI;rw[r1];rfl
  rw[r0,r1,hp,hv];simp only[if_true,Bool.false_eq_true,if_false];unfold BL;rw[if_neg (by omega),if_pos k3,hev]
  have hr:Ct b c (Al AA c k).2.1.toNat=(b.AM.getD (Al AA c k).2.1.toNat 0,b.AO.getD (Al AA c k).2.1.toNat 0):=by
   unfold Ct;rw[h3 k3];rfl
  rw[hr];rfl
 ·
  have es:=J4 hb (c:=c) (k:=k) (rs:=AX Ah (AB AA)) (pl:=Dv (Al AA c k)) (b:=b) (n:=Ac AA c k+1) ((AB AA).length-(Ac AA c k+1)) (by omega) (fun j i h E=>by
   have:=(MN E k3).1
   omega)
  rw[show Ac AA c k+1+((AB AA).length-(Ac AA c k+1))=(AB AA).length by omega] at es;rw[es,e1];unfold BL;by_cases k1:(Al AA c k).1=1
  ·
   have r0:Kh (Al AA c k) 0=true:=by unfold Kh;rw[decide_eq_true (show (Al AA c k).1≠2 by omega)];rfl
   rw[r0,if_pos rfl,if_pos k1,hev]
  ·
   have k2:(Al AA c k).1=2:=by omega
   have r0:Kh (Al AA c k) 0=false:=by unfold Kh;rw[decide_eq_false (show ¬(Al AA c k).1≠2 by omega)];rfl
   have hv:XI (Al AA c k) 0=(Al AA c k).2.2.1:=by unfold XI;rw[r0];rfl
   rw[r0,hv,if_neg (by simp),if_neg k1,if_neg k3,hev];by_cases g0:0<BP AA c k
   ·
    have hp:Dv (Al AA c k)=false:=by
     unfold Dv;rw[decide_eq_false (show ¬(Al AA c k).2.2.2=0 from fun h=>by have h:BP AA c k=0:=h;omega)];rfl
    rw[if_neg (by rw[hp];simp),if_pos ⟨k2,g0⟩]
   ·
    have hp:Dv (Al AA c k)=true:=by
     unfold Dv;rw[decide_eq_true (show (Al AA c k).2.2.2=0 by show BP AA c k=0;omega),decide_eq_true k2];simp
    rw[if_pos hp,if_neg (fun h=>g0 h.2),if_pos k2]
theorem Si {rs l:List Int}{i:Nat}{v:Int}(hr:rs.Pairwise (·<·))(hi:i<rs.length)(hl:l.length=rs.length):G3 rs (rs.getD i 0) v l=l.set i v:=by
 unfold G3;apply List.ext_getElem?;intro j;have hgi:rs.getD i 0=rs[i]:=by rw[List.getD_eq_getElem?_getD,List.getElem?_eq_getElem hi];rfl
 rw[List.getElem?_zipWith,List.getElem?_set,hgi];by_cases hj:j<rs.length
 ·
  rw[List.getElem?_eq_getElem hj,List.getElem?_eq_getElem (by omega:j<l.length)];by_cases e:i=j
  ·
   subst e;rw[if_pos rfl,if_pos (by omega)];simp
  ·
   rw[if_neg e]
   have hne:rs[j]≠rs[i]:=by
    rw[List.pairwise_iff_getElem] at hr;rcases Nat.lt_or_ge i j with q|q
    . have:=hr i j hi hj q;omega
    . have:=hr j i hj hi (by omega);omega
   simp[hne]
 ·
  rw[List.getElem?_eq_none (by omega:rs.length<=j),List.getElem?_eq_none (by omega:l.length<=j)];by_cases e:i=j
  . omega
  . rw[if_neg e]
theorem Rt {AA:List (List Dd)}{es:List Ev}{g:Int}{c m:Nat}{b:Bd}(hlen:Ao (Aj AA es b c) c<=(AA.getD c []).length)(hnx:Ao (Aj AA es b c) c=Ao b c+1)(hg:BP AA c (Ao b c)=g):
  Ef AA es g c (m+1) b=if Ao (Aj AA es b c) c<(AA.getD c []).length/\Gq (AA.getD c []) (Ao (Aj AA es b c) c)=true then Ef AA es g c m (Aj AA es b c) else Aj AA es b c:=by
 show (if g=0\/Ao (Aj AA es b c) c=(AA.getD c []).length\/BP AA c (Ao (Aj AA es b c) c)≠g then Aj AA es b c else Ef AA es g c m (Aj AA es b c))=_
 have hgo:Gq (AA.getD c []) (Ao (Aj AA es b c) c)=true↔BP AA c (Ao (Aj AA es b c) c)≠0/\BP AA c (Ao (Aj AA es b c) c)=g:=by
  unfold Gq;rw[hnx];rw[show Ao b c+1-1=Ao b c from rfl];have e1:((AA.getD c []).getD (Ao b c+1) zD).2.2.2=BP AA c (Ao b c+1):=rfl;have e2:((AA.getD c []).getD (Ao b c) zD).2.2.2=BP AA c (Ao b c):=rfl;rw[e1,e2,hg];simp
 by_cases h1:Ao (Aj AA es b c) c<(AA.getD c []).length/\Gq (AA.getD c []) (Ao (Aj AA es b c) c)=true
 ·
  rw[if_pos h1,if_neg];obtain⟨h2,h3⟩:=hgo.1 h1.2;rintro (h|h|h)
  . omega
  . omega
  . exact h h3
 ·
  rw[if_neg h1,if_pos];by_cases h2:Ao (Aj AA es b c) c<(AA.getD c []).length
  ·
   have h3:¬(BP AA c (Ao (Aj AA es b c) c)≠0/\BP AA c (Ao (Aj AA es b c) c)=g):=fun h=>h1 ⟨h2,hgo.2 h⟩
   by_cases hz:g=0
   . exact .inl hz
   ·
    right;right;intro e;exact h3 ⟨by rw[e];exact hz,e⟩
  . right;left;omega
section
section
variable {P:Program} {ops:Array Oper} {Q:Exit->Act->World->Prop} {md:Region.Mode}
def PE (listed:Array Bool):Nat:=listed.toList.countP (fun b=>!b)
theorem Ol:∀(l:List Bool) (i:Nat),l[i]? = some false->(l.set i true).countP (fun b=>!b)+1=l.countP (fun b=>!b)
 | [],i,h=>by simp at h
 |x::r,0,h=>by
  simp at h;subst h;simp
 |x::r,i+1,h=>by
  have ih:=Ol r i (by simpa using h);rw[List.set_cons_succ,List.countP_cons,List.countP_cons];omega
theorem PG {listed:Array Bool}{i:Nat}(h:listed[i]? = some false):PE (listed.setIfInBounds i true)+1=PE listed:=by
 unfold PE;rw[Array.toList_setIfInBounds];exact Ol _ _ (by rw[Array.getElem?_toList];exact h)
theorem AF {listed:Array Bool}{i:Nat}(h:i∈Region.ready md ops listed):i<ops.size/\listed[i]? = some false/\∀o,ops[i]? = some o->o.after.all (fun e=>!Region.binds md e||listed.getD e.on false)=true:=by
 unfold Region.ready at h;rw[List.mem_filter,List.mem_range] at h;obtain⟨h1,h2⟩:=h;simp only[Bool.and_eq_true,Bool.not_eq_true'] at h2;refine⟨h1,?_,fun o ho=>?_⟩
 ·
  have h3:=h2.1;rw[Array.getD_eq_getD_getElem?] at h3
  cases e:listed[i]? with
  |none=>rw[e] at h3;cases h3
  |some b=>rw[e] at h3;simp at h3;rw[h3]
 ·
  have h3:=h2.2;rw[ho] at h3
  simpa using h3
theorem Pf (J:Array Bool->Act->World->Prop)
  (step:∀listed a w,J listed a w->∀i,i∈Region.ready md ops listed->wpOp P ops Q i (fun a' w'=>J (listed.setIfInBounds i true) a' w') a w)
  (done:∀listed a w,J listed a w->Region.ready md ops listed=[]->Q .normal a w):
  ∀(fuel:Nat) (listed:Array Bool) (a:Act) (w:World),PE listed<=fuel->J listed a w->wpAny P md ops Q fuel listed a w
 | 0,listed,a,w,hl,hJ=>by
  have hr:Region.ready md ops listed=[]:=by
   cases h:Region.ready md ops listed with
   |nil=>rfl
   |cons i r=>
    exfalso;have h2:=(AF (md:=md) (ops:=ops) (listed:=listed) (i:=i) (by rw[h];simp)).2.1;have:=PG h2;omega
  exact⟨hr,done listed a w hJ hr⟩
 |fuel+1,listed,a,w,hl,hJ=>by
  refine⟨fun hr=>done listed a w hJ hr,fun i hi=>?_⟩;refine wpOp_mono (fun a' w' hJ'=>Pf J step done fuel _ a' w' ?_ hJ') (step listed a w hJ i hi);have:=PG (AF hi).2.1;omega
theorem Tp (n:Nat):PE (Array.replicate n false)=n:=by
 unfold PE;rw[Array.toList_replicate];simp[List.countP_replicate]
theorem Bx {id:Nat}{a:Act}{w:World}(hm:P.follows .mixedOrders=true)(J:Array Bool->Act->World->Prop)
  (start:J (Array.replicate ops.size false) a w.drew)
  (step:∀listed a w,J listed a w->∀i,i∈Region.ready .any ops listed->wpOp P ops Q i (fun a' w'=>J (listed.setIfInBounds i true) a' w') a w)
  (done:∀listed a w,J listed a w->Region.ready .any ops listed=[]->Q .normal a w):(Code.region id ops true).wp P Q a w:=
 wp_region_any hm (Pf J step done ops.size _ a _ (by rw[Tp];exact Nat.le_refl _) start)
end
end
theorem ED {AA:List (List Dd)}{b:Bd}(h:AW AA b=true):AQ AA=true/\b.AM.length=3/\b.AO.length=3/\b.rws.length=3/\b.AG.length=AA.length/\b.AL.length=AA.length/\b.sn.length<=12/\b.fr.length<=12/\(∀i,i<3->(b.rws.getD i []).length<=20)/\∀i,i<AA.length->(b.AG.getD i []).length<=8:=by
 unfold AW C1 EU EN at h;simp only[Bool.and_eq_true,decide_eq_true_eq] at h;obtain⟨⟨h1,h2,h3,h4,h5,h6⟩,⟨_,_,_,_,h7,h8⟩,h9,h10⟩:=h;unfold DW at h7 h8;simp only[Bool.and_eq_true,decide_eq_true_eq] at h7 h8;refine⟨h1,h2,h3,h4,h5,h6,h7.2,h8.2,fun i hi=>?_,fun i hi=>?_⟩
 ·
  have:=List.all_eq_true.1 h9 i (List.mem_range.2 hi);unfold DW at this;simp only[Bool.and_eq_true,decide_eq_true_eq] at this;exact this.2
 ·
  have:=List.all_eq_true.1 h10 i (List.mem_range.2 hi);unfold Ln at this;simp only[Bool.and_eq_true,decide_eq_true_eq] at this;exact this.2.1
theorem G7 {AA:List (List Dd)}(h:AQ AA=true):AA.length<=3/\∀i,i<AA.length->(AA.getD i []).length<=1048576:=by
 obtain⟨h1,h2⟩:=Ay h;refine⟨h1,fun i hi=>?_⟩;have hq:=h2 i hi;unfold GI at hq;rw[Bool.and_eq_true,decide_eq_true_eq] at hq;omega
end Go.Proofs.YtnmelakgmgenjaaGreat
