/- Gathered texts. -/
import Derived.Test.YtgakfkjjkobpiaaGreatMA
import Derived.Maps.AppendAt
import Derived.Laws.OwnMore
import Derived.OwnWalk
import Derived.Deep.RegionHeld3
set_option maxRecDepth 100000
set_option maxHeartbeats 8000000
namespace Go.Proofs.YtgakfkjjkobpiaaGreat
open Go
open Go.ChangeShapes Go.WideShapes Go.ChangeAt Go.RowKit
open Go.RowKit
def Ke (d:Dd)(i:Nat):Bool:=decide (d.1≠2)&&decide (i=0)
def Uu (d:Dd)(i:Nat):Int:=if Ke d i=true then 0 else d.2.2.1
theorem TY {c k:Nat}{d:Dd}{z:Int}(hd:d.1=1\/d.1=2\/d.1=3\/d.1=4){i:Nat}(hi:i<FO d):(Ck c k d z)[i]? = some ((c:Int),(k:Int),Ke d i,d.2.1,Uu d i,z):=by
 unfold FO at hi;unfold Ck Uu Ke;rcases hd with h|h|h|h
 ·
  rw[if_neg (by omega),if_neg (by omega)] at hi;rw[if_neg (by omega),if_neg (by omega),if_neg (by omega)];obtain rfl:i=0:=by omega
  simp[h]
 ·
  rw[if_neg (by omega),if_neg (by omega)] at hi;rw[if_neg (by omega),if_neg (by omega),if_pos h];obtain rfl:i=0:=by omega
  simp[h]
 ·
  rw[if_neg (by omega),if_pos h] at hi;rw[if_neg (by omega),if_pos h];rcases (by omega:i=0\/i=1) with rfl|rfl
  . simp[h]
  . simp
 ·
  rw[if_pos h] at hi;omega
structure Dv (AA:List (List Dd))(j c k i:Nat):Prop where
 hc:c<AA.length
 hk:k<(AA.getD c []).length
 hi:i<FO (An AA c k)
 hj:j=Ag AA c k+i
theorem Dv.kind {AA:List (List Dd)}{j c k i:Nat}(h:Dv AA j c k i):(An AA c k).1≠4:=by
 intro e;have:=h.hi;unfold FO at this;rw[if_pos e] at this;omega
theorem He {AA:List (List Dd)}(hb:AW AA=true){j:Nat}(h3:3<=j)(hj:j<(AB AA).length):∃c k i,Dv AA j c k i:=by
 rw[AB,if_pos hb] at hj;obtain⟨c,k,i,h1,h2,h4,h5⟩:=Vy AA h3 AA.length hj;exact⟨c,k,i,h1,h2,h4,h5⟩
theorem Dv.at {AA:List (List Dd)}(hb:AW AA=true){j c k i:Nat}(h:Dv AA j c k i):(AB AA).getD j zE=((c:Int),(k:Int),Ke (An AA c k) i,(An AA c k).2.1,Uu (An AA c k) i,DZ AA c k):=by
 have hd:=CG (B7 hb h.hc k h.hk);rw[AB,if_pos hb,List.getD_eq_getElem?_getD,h.hj,Zu h.hc h.hk (TY hd h.hi)];rfl
theorem Dv.lt {AA:List (List Dd)}(hb:AW AA=true){j c k i:Nat}(h:Dv AA j c k i):3<=j/\j<(AB AA).length:=by
 have hd:=CG (B7 hb h.hc k h.hk);have h1:=Zu (n:=AA.length) h.hc h.hk (TY (z:=DZ AA c k) (c:=c) (k:=k) hd h.hi);have h2:=IJ AA c k;rw[AB,if_pos hb,h.hj];exact⟨by omega,(List.getElem?_eq_some_iff.1 h1).1⟩
theorem Dv.ord {AA:List (List Dd)}{j c k i j' c' k' i':Nat}(h:Dv AA j c k i)(h':Dv AA j' c' k' i'):j<j'↔c<c'\/(c=c'/\(k<k'\/(k=k'/\i<i'))):=by
 have e1:=h.hj;have e2:=h'.hj;have l1:=h.hi;have l2:=h'.hi;constructor
 ·
  intro hlt;by_cases a:c<c'
  . exact .inl a
  by_cases b:c'<c
  . have:=Hm (k':=k) h'.hk (.inl b);omega
  obtain rfl:c=c':=by omega
  refine .inr ⟨rfl,?_⟩;by_cases a:k<k'
  . exact .inl a
  by_cases b:k'<k
  . have:=Hm (c':=c) (k':=k) h'.hk (.inr ⟨rfl,b⟩);omega
  obtain rfl:k=k':=by omega
  exact .inr ⟨rfl,by omega⟩
 ·
  rintro (a|⟨rfl,a|⟨rfl,a⟩⟩)
  . have:=Hm (k':=k') h.hk (.inl a);omega
  . have:=Hm (c':=c) (k':=k') h.hk (.inr ⟨rfl,a⟩);omega
  . omega
theorem Dv.one {AA:List (List Dd)}{j c k i c' k' i':Nat}(h:Dv AA j c k i)(h':Dv AA j c' k' i'):c=c'/\k=k'/\i=i':=by
 have a:=h.ord h';have b:=h'.ord h;by_cases hc:c=c'
 ·
  subst hc;by_cases hk:k=k'
  ·
   subst hk;exact⟨rfl,rfl,by have:=h.hj;have:=h'.hj;omega⟩
  ·
   by_cases hlt:k<k'
   . have:=a.2 (.inr ⟨rfl,.inl hlt⟩);omega
   . have:=b.2 (.inr ⟨rfl,.inl (by omega)⟩);omega
 ·
  by_cases hlt:c<c'
  . have:=a.2 (.inl hlt);omega
  . have:=b.2 (.inl (by omega));omega
theorem KM {ds:List Dd}(ht:pU ds){j k:Nat}(hk:k<ds.length)(hg:(ds.getD k zD).2.2.2≠0)(e:(ds.getD j zD).2.2.2=(ds.getD k zD).2.2.2):∀m:Nat,j+m<k->(ds.getD (k-1-m) zD).2.2.2=(ds.getD k zD).2.2.2
 | 0,h=>ht k j hk (by omega) hg e
 |m+1,h=>by
  have ih:=KM ht hk hg e m (by omega);have h2:=ht (k-1-m) j (by omega) (by omega) (by rw[ih];exact hg) (by rw[ih];exact e);rw[show k-1-(m+1)=k-1-m-1 by omega,h2,ih]
theorem QA {AA:List (List Dd)}(hb:AW AA=true){c j k l:Nat}(hc:c<AA.length)(h1:j<=k)(h2:k<=l)(hl:l<(AA.getD c []).length)(hg:Bi AA c l≠0)(e:Bi AA c j=Bi AA c l):Bi AA c k=Bi AA c l:=by
 by_cases a:k=l
 . rw[a]
 by_cases b:k=j
 . rw[b];exact e
 have:=KM (Q6 hb c hc) hl hg e (l-1-k) (by omega);rw[show l-1-(l-1-k)=k by omega] at this;exact this
def Xu (es:List Ev)(r:Int):Int:=(es.getD r.toNat zE).2.2.2.1
def Tx (es:List Ev)(rs:List Int):Nat->List (List Int)
 | 0=>[]
 |k+1=>Tx es rs k++[AX (JC (Xu es (rs.getD k 0))) es]
def Lf (es:List Ev):List (List Int):=Tx es (AX Aj es) (AX Aj es).length
theorem Fz (es:List Ev)(rs:List Int):∀k:Nat,(Tx es rs k).length=k
 | 0=>rfl
 |k+1=>by rw[Tx,List.length_append,Fz es rs k];rfl
theorem Ld (es:List Ev)(rs:List Int):∀(k i:Nat),i<k->(Tx es rs k).getD i []=AX (JC (Xu es (rs.getD i 0))) es
 | 0,i,h=>by omega
 |k+1,i,h=>by
  rw[Tx];by_cases hi:i<k
  . rw[List.getD_eq_getElem?_getD,List.getElem?_append_left (by rw[Fz];exact hi),<-List.getD_eq_getElem?_getD,Ld es rs k i hi]
  ·
   obtain rfl:i=k:=by omega
   rw[List.getD_eq_getElem?_getD,List.getElem?_append_right (by rw[Fz];exact Nat.le_refl _),Fz];simp
def Dx (l:List Int)(n:Int):Bool:=l.any (·==n)
def XJ (c:List (List Int))(from':List Int):Nat->Bool
 | 0=>true
 |k+1=>XJ c from' k&&Dx (c.getD k []) (from'.getD k 0)
def Qp (c:List (List Int))(from':List Int):Bool:=decide (c.length=from'.length)&&XJ c from' c.length
def PD (AA:List (List Dd))(from':List Int):Bool:=AW AA&&Qp (Lf (AB AA)) from'
theorem MY {c:List (List Int)}{f:List Int}:∀k:Nat,XJ c f k=true↔∀i,i<k->Dx (c.getD i []) (f.getD i 0)=true
 | 0=>by simp[XJ]
 |k+1=>by
  rw[XJ,Bool.and_eq_true,MY k];constructor
  ·
   rintro⟨h1,h2⟩ i hi;by_cases e:i=k
   . subst e;exact h2
   . exact h1 i (by omega)
  ·
   intro h;exact⟨fun i hi=>h i (by omega),h k (by omega)⟩
abbrev Nt:=Int×Int×Int
structure Bd where
 AM:List Int
 AQ:List Int
 AH:List (List Nt)
 AL:List Int
 sn:List Int
 fr:List Int
 rws:List (List Int)
def Bq (AA:List (List Dd)):Bd:=
 { AM:=[0,0,0],AQ:=[0,1,2],AH:=List.replicate AA.length [],AL:=List.replicate AA.length 0,sn:=List.replicate (AX Aj (AB AA)).length (-1),fr:=List.replicate (AX Aj (AB AA)).length (-1),rws:=[[0],[1],[2]] }
def C3 (b:Bd)(c p:Nat):Int×Int:=
 match (b.AH.getD c []).reverse.find? (fun x=>x.1==(p:Int)) with
 |some x=>x.2
 |none=>(b.AM.getD p 0,b.AQ.getD p 0)
def Gx (rs:List Int)(ev v:Int)(l:List Int):List Int:=List.zipWith (fun r x=>if r=ev then v else x) rs l
def Fv (rs:List Int)(b:Bd)(ev v f:Int):Bd:={ b with sn:=Gx rs ev v b.sn,fr:=Gx rs ev f b.fr }
def Dw (b:Bd)(p:Nat)(v ev:Int):Bd:={ b with AM:=b.AM.set p v,AQ:=b.AQ.set p ev,rws:=b.rws.set p (b.rws.getD p []++[ev]) }
def JB (es:List Ev)(c k:Nat):Int:=
 match (List.range es.length).find? (fun i=>decide (3<=i)&&((es.getD i zE).1==(c:Int))&&((es.getD i zE).2.1==(k:Int))) with
 |some i=>(i:Int)
 |none=>-1
def BM (AA:List (List Dd))(es:List Ev)(b:Bd)(c k:Nat):Bd:=
 if (An AA c k).1=1 then Fv (AX Aj es) b (JB es c k) (C3 b c (An AA c k).2.1.toNat).1 (C3 b c (An AA c k).2.1.toNat).2
 else if (An AA c k).1=3 then
  Dw (Fv (AX Aj es) b (JB es c k) (b.AM.getD (An AA c k).2.1.toNat 0) (b.AQ.getD (An AA c k).2.1.toNat 0)) (An AA c k).2.1.toNat (An AA c k).2.2.1 (JB es c k+1)
 else if (An AA c k).1=2/\0<Bi AA c k then Dw b (An AA c k).2.1.toNat (An AA c k).2.2.1 (JB es c k)
 else if (An AA c k).1=2 then { b with AH:=b.AH.set c (b.AH.getD c []++[((An AA c k).2.1,(An AA c k).2.2.1,JB es c k)]) }
 else b
def Av (b:Bd)(c:Nat):Nat:=(b.AL.getD c 0).toNat
def Ar (AA:List (List Dd))(es:List Ev)(b:Bd)(c:Nat):Bd:=
 { BM AA es b c (Av b c) with AL:=b.AL.set c (b.AL.getD c 0+1) }
def GC (AA:List (List Dd))(es:List Ev)(g:Int)(c:Nat):Nat->Bd->Bd
 | 0,b=>b
 |m+1,b=>
  if g=0\/Av (Ar AA es b c) c=(AA.getD c []).length\/Bi AA c (Av (Ar AA es b c) c)≠g then Ar AA es b c else GC AA es g c m (Ar AA es b c)
def Bs (b:Bd)(c:Nat):Bd:=
 match b.AH.getD c [] with
 | []=>b
 |x::r=>Dw { b with AH:=b.AH.set c r } x.1.toNat x.2.1 x.2.2
def Aq (AA:List (List Dd))(es:List Ev)(b:Bd)(s:Int):Bd:=
 if 10<=s then Bs b (s-10).toNat else GC AA es (Bi AA s.toNat (Av b s.toNat)) s.toNat (AA.getD s.toNat []).length b
def C6 (AA:List (List Dd))(b:Bd)(c:Nat):Bool:=
 decide (Av b c<(AA.getD c []).length)&&((decide ((An AA c (Av b c)).1<=2)&&decide (Bi AA c (Av b c)=0))||(b.AH.getD c []).isEmpty)
def Ae (AA:List (List Dd))(b:Bd):List Int:=
 ((List.range AA.length).filter (C6 AA b)).map (fun c:Nat=>(c:Int))++((List.range AA.length).filter (fun c=>!(b.AH.getD c []).isEmpty)).map (fun c:Nat=>10+(c:Int))
def UB (AA:List (List Dd))(b:Bd):Bool:=(List.range AA.length).all (fun c=>decide ((AA.getD c []).length<=Av b c)&&(b.AH.getD c []).isEmpty)
def Bw (AA:List (List Dd))(es:List Ev)(b:Bd):List Int->Bd
 | []=>b
 |s::r=>Bw AA es (if Dx (Ae AA b) s=true then Aq AA es b s else b) r
def DW (l:List Int)(lo hi:Int)(most:Nat):Bool:=l.all (fun x=>decide (lo<=x)&&decide (x<=hi))&&decide (l.length<=most)
def SO (n:Int)(x:Nt):Bool:=(decide (0<=x.1)&&decide (x.1<=2))&&((decide (0<=x.2.1)&&decide (x.2.1<=9))&&(decide (0<=x.2.2)&&decide (x.2.2<=n-1)))
def Kd (n:Int)(l:List Nt):Bool:=l.all (SO n)
def Lg (AA:List (List Dd))(n:Int)(b:Bd)(i:Nat):Bool:=
 (decide (0<=b.AL.getD i 0)&&decide (b.AL.getD i 0<=((AA.getD i []).length:Int)))&&(decide ((b.AH.getD i []).length<=8)&&Kd n (b.AH.getD i []))
def DF (AA:List (List Dd))(b:Bd):Bool:=
 AW AA&&(decide (b.AM.length=3)&&(decide (b.AQ.length=3)&&(decide (b.rws.length=3)&&(decide (b.AH.length=AA.length)&&decide (b.AL.length=AA.length)))))
def Ef (n:Int)(r:Nat)(b:Bd):Bool:=
 decide (b.sn.length=r)&&(decide (b.fr.length=r)&&(DW b.AM 0 9 3&&(DW b.AQ 0 (n-1) 3&&(DW b.sn (-1) 9 12&&DW b.fr (-1) (n-1) 12))))
def EC (n:Int)(b:Bd):Bool:=(List.range 3).all (fun i=>DW (b.rws.getD i []) 0 (n-1) 20)
def Af (AA:List (List Dd))(b:Bd):Bool:=
 DF AA b&&(Ef ((AB AA).length:Int) (AX Aj (AB AA)).length b&&(EC ((AB AA).length:Int) b&&(List.range AA.length).all (fun i=>Lg AA ((AB AA).length:Int) b i)))
theorem VR {l:List Int}{lo hi:Int}{most k:Nat}(hk:k<l.length)(h:(decide (lo<=l.getD k 0)&&decide (l.getD k 0<=hi))=false):DW l lo hi most=false:=by
 have:l.all (fun x=>decide (lo<=x)&&decide (x<=hi))=false:=by
  rw[List.all_eq_false];refine⟨l.getD k 0,?_,by rw[h];simp⟩;rw[List.getD_eq_getElem?_getD,List.getElem?_eq_getElem hk];exact List.getElem_mem hk
 unfold DW;rw[this];rfl
theorem Tp {l:List Int}{lo hi:Int}{most:Nat}(h:∀k,k<l.length->(decide (lo<=l.getD k 0)&&decide (l.getD k 0<=hi))=true):DW l lo hi most=decide (l.length<=most):=by
 have:l.all (fun x=>decide (lo<=x)&&decide (x<=hi))=true:=by
  rw[List.all_eq_true];intro x hx;obtain⟨i,hi,e⟩:=List.getElem_of_mem hx;have:=h i hi;rw[List.getD_eq_getElem?_getD,List.getElem?_eq_getElem hi] at this;simp only[Option.getD_some] at this;rw[e] at this;exact this
 unfold DW;rw[this];rfl
theorem DI {n k:Nat}{f:Nat->Bool}(hk:k<n)(h:f k=false):(List.range n).all f=false:=by
 rw[List.all_eq_false];exact⟨k,List.mem_range.2 hk,by rw[h];simp⟩
theorem Dc {n:Nat}{f:Nat->Bool}(h:∀k,k<n->f k=true):(List.range n).all f=true:=by
 rw[List.all_eq_true];exact fun k hk=>h k (List.mem_range.1 hk)
theorem SP {n:Int}{l:List Nt}{k:Nat}(hk:k<l.length)(h:SO n (l.getD k (0,0,0))=false):Kd n l=false:=by
 unfold Kd;rw[List.all_eq_false];refine⟨l.getD k (0,0,0),?_,by rw[h];simp⟩;rw[List.getD_eq_getElem?_getD,List.getElem?_eq_getElem hk];exact List.getElem_mem hk
theorem UV {n:Int}{l:List Nt}(h:∀k,k<l.length->SO n (l.getD k (0,0,0))=true):Kd n l=true:=by
 unfold Kd;rw[List.all_eq_true];intro x hx;obtain⟨i,hi,e⟩:=List.getElem_of_mem hx;have:=h i hi;rw[List.getD_eq_getElem?_getD,List.getElem?_eq_getElem hi] at this;simp only[Option.getD_some] at this;rw[e] at this;exact this
theorem Rg {AA:List (List Dd)}{b:Bd}(h:Af AA b=true):b.AH.length=AA.length/\b.AL.length=AA.length:=by
 unfold Af DF at h;simp only[Bool.and_eq_true,decide_eq_true_eq] at h;exact⟨h.1.2.2.2.2.1,h.1.2.2.2.2.2⟩
def Ly (l:List Int)(lo hi:Int):Bool:=l.all (fun x=>CX x lo hi)
def FP (l:List Int)(n lo hi:Int):Bool:=decide ((l.length:Int)=n)&&Ly l lo hi
def IY (last:Int)(l:List Int):Bool:=decide (l.length<=20)&&FP l l.length 0 last
def TS (last:Int)(x:Nt):Bool:=CX x.1 0 2&&(CX x.2.1 0 9&&CX x.2.2 0 last)
def M3 (last:Int)(l:List Nt):Bool:=decide (l.length<=8)&&l.all (TS last)
def Ed (last:Int)(b:Bd):Bool:=FP b.AM 3 0 9&&(FP b.AQ 3 0 last&&(decide (b.rws.length=3)&&b.rws.all (IY last)))
def Ty (last:Int)(AA:List (List Dd))(b:Bd)(i:Nat):Bool:=CX (b.AL.getD i 0) 0 ((AA.getD i []).length:Int)&&M3 last (b.AH.getD i [])
def Hc (last:Int)(AA:List (List Dd))(b:Bd):Bool:=decide (b.AH.length=AA.length)&&(decide (b.AL.length=AA.length)&&(List.range AA.length).all (Ty last AA b))
def Fm (AA:List (List Dd))(b:Bd):Bool:=
 AW AA&&(Ed (((AB AA).length:Int)-1) b&&(Hc (((AB AA).length:Int)-1) AA b&&(FP b.sn (AX Aj (AB AA)).length (-1) 9&&FP b.fr (AX Aj (AB AA)).length (-1) (((AB AA).length:Int)-1))))
theorem JU (x lo hi:Int):(decide (lo<=x)&&decide (x<=hi))=CX x lo hi:=by
 rw[Bool.eq_iff_iff];unfold CX;simp
theorem Sn (l:List Int)(lo hi:Int)(m:Nat):DW l lo hi m=(Ly l lo hi&&decide (l.length<=m)):=by
 unfold DW Ly
 congr 2
 funext x;exact JU x lo hi
theorem fu (n:Int)(x:Nt):SO n x=TS (n-1) x:=by
 unfold SO TS;rw[JU,JU,JU]
theorem dZ (AA:List (List Dd))(n:Int)(b:Bd)(i:Nat):Lg AA n b i=Ty (n-1) AA b i:=by
 unfold Lg Ty M3 Kd;rw[JU]
 congr 3
 funext x;exact fu n x
theorem ZO (last:Int)(l:List Int):IY last l=DW l 0 last 20:=by
 rw[Sn];unfold IY FP;simp[Bool.and_comm]
theorem MW (last:Int)(b:Bd)(h:b.rws.length=3):b.rws.all (IY last)=EC (last+1) b:=by
 obtain⟨x,y,z,e⟩:∃x y z,b.rws=[x,y,z]:=by
  match hr:b.rws,h with
  | [x,y,z],_=>exact⟨x,y,z,rfl⟩
 unfold EC;rw[e];have e1:last+1-1=last:=by omega
 rw[e1];simp[List.range,List.range.loop,ZO]
theorem Pn (AA:List (List Dd))(b:Bd)(hl:(AX Aj (AB AA)).length<=12):Fm AA b=Af AA b:=by
 generalize hr:(AX Aj (AB AA)).length=r at hl;generalize hn:((AB AA).length:Int)=n;rw[Bool.eq_iff_iff];unfold Fm Af DF Ef Ed Hc FP;rw[hr,hn];have ec:(fun i=>Lg AA n b i)=Ty (n-1) AA b:=by funext i;exact dZ AA n b i
 rw[ec];simp only[Sn,Bool.and_eq_true,decide_eq_true_eq];have e1:n-1+1=n:=by omega
 constructor
 ·
  rintro⟨h1,⟨⟨p1,p2⟩,⟨l1,l2⟩,r1,r2⟩,⟨c1,c2,c3⟩,⟨s1,s2⟩,f1,f2⟩;rw[MW _ _ r1,e1] at r2;exact⟨⟨h1,by omega,by omega,r1,c1,c2⟩,⟨by omega,by omega,⟨p2,by omega⟩,⟨l2,by omega⟩,⟨s2,by omega⟩,f2,by omega⟩,r2,c3⟩
 ·
  rintro⟨⟨h1,p1,l1,r1,c1,c2⟩,⟨s1,f1,⟨p2,_⟩,⟨l2,_⟩,⟨s2,_⟩,f2,_⟩,r2,c3⟩;refine⟨h1,⟨⟨by omega,p2⟩,⟨by omega,l2⟩,r1,?_⟩,⟨c1,c2,c3⟩,⟨by omega,s2⟩,by omega,f2⟩;rw[MW _ _ r1,e1];exact r2
theorem QD {l:List Int}{lo hi:Int}{k:Nat}(hk:k<l.length)(h:CX (l.getD k 0) lo hi=false):Ly l lo hi=false:=by
 unfold Ly;rw[List.all_eq_false];refine⟨l.getD k 0,?_,by rw[h];simp⟩;rw[List.getD_eq_getElem?_getD,List.getElem?_eq_getElem hk];exact List.getElem_mem hk
theorem Fl {α:Type}{l:List α}{f:α->Bool}(z:α)(h:∀k,k<l.length->f (l.getD k z)=true):l.all f=true:=by
 rw[List.all_eq_true];intro x hx;obtain⟨i,hi,e⟩:=List.getElem_of_mem hx;have:=h i hi;rw[List.getD_eq_getElem?_getD,List.getElem?_eq_getElem hi] at this;simp only[Option.getD_some] at this;rw[e] at this;exact this
theorem G7 {α:Type}{l:List α}{f:α->Bool}(z:α){k:Nat}(hk:k<l.length)(h:f (l.getD k z)=false):l.all f=false:=by
 rw[List.all_eq_false];refine⟨l.getD k z,?_,by rw[h];simp⟩;rw[List.getD_eq_getElem?_getD,List.getElem?_eq_getElem hk];exact List.getElem_mem hk
def Cd (w:World)(g:Nat)(zs:List Int):Prop:=
 ∃(cur:Array Value) (e:TypeId),w.heap[g]? = some (.cells cur e (0,0))/\cur.toList.take zs.length=zs.map (Value.int .i64)
theorem Cd.lt {w:World}{g:Nat}{zs:List Int}(h:Cd w g zs):g<w.heap.size:=by
 obtain⟨cur,e,hh,_⟩:=h;exact (Array.getElem?_eq_some_iff.1 hh).1
theorem Cd.cell {w:World}{g:Nat}{zs:List Int}(h:Cd w g zs){j:Nat}(hj:j<zs.length):w.cell? ⟨g,j,none⟩=some (.int .i64 (zs.getD j 0)):=by
 obtain⟨cur,e,hh,ht⟩:=h;rw[cell_of_row w g j cur e (0,0) hh];have h1:(cur.toList.take zs.length)[j]? = (zs.map (Value.int .i64))[j]?:=by rw[ht]
 rw[List.getElem?_take,if_pos hj,List.getElem?_map,List.getElem?_eq_getElem hj] at h1;rw[List.getD_eq_getElem?_getD,List.getElem?_eq_getElem hj]
 simpa using h1
theorem Cd.free {w:World}{g:Nat}{zs:List Int}(h:Cd w g zs)(j:Nat):w.frozen? ⟨g,j,none⟩=false:=by
 obtain⟨cur,e,hh,_⟩:=h;exact frozen_of_row w g j _ _ hh
theorem Cd.kept {w w':World}{g:Nat}{zs:List Int}{row:Option Nat}(h:Cd w g zs)(hg:w.grownBy w' row)(hne:row≠some g):Cd w' g zs:=by
 have hlt:=h.lt;obtain⟨cur,e,hh,ht⟩:=h;exact⟨cur,e,by rw[hg.block g hlt (fun e=>hne e.symm)];exact hh,ht⟩
theorem Cd.keep {w w':World}{g:Nat}{zs:List Int}(h:Cd w g zs)(k:AC w w'):Cd w' g zs:=h.kept k.grownBy (by simp)
theorem Ad (w:World)(g j:Nat)(v:Value):w.grownBy (w.setCell ⟨g,j,none⟩ v) (some g):=
 ⟨rfl,rfl,rfl,by simp,fun k _ hk=>heap_setCell_other w ⟨g,j,none⟩ k v (fun e=>hk (by simp[e]))⟩
theorem Rq (w:World)(n:Nat)(row:Option Nat):w.grownBy (w.drewN n) row:=⟨rfl,rfl,rfl,Nat.le_refl _,fun _ _ _=>rfl⟩
theorem Rs (w:World)(row:Option Nat):w.grownBy w.drew row:=⟨rfl,rfl,rfl,Nat.le_refl _,fun _ _ _=>rfl⟩
theorem Cd.drewN {w:World}{g:Nat}{zs:List Int}(h:Cd w g zs)(n:Nat):Cd (w.drewN n) g zs:=h.kept (row:=none) (Rq w n none) (by simp)
theorem Cd.drew {w:World}{g:Nat}{zs:List Int}(h:Cd w g zs):Cd w.drew g zs:=h.kept (row:=none) (Rs w none) (by simp)
theorem PI (l:List Value)(zs:List Int)(j:Nat)(x:Int)(h:l.take zs.length=zs.map (Value.int .i64)):
  (l.set j (.int .i64 x)).take (zs.set j x).length=(zs.set j x).map (Value.int .i64):=by
 rw[List.length_set,List.take_set,h,List.map_set]
theorem Cd.set {w:World}{g:Nat}{zs:List Int}(h:Cd w g zs)(j:Nat)(x:Int):Cd (w.setCell ⟨g,j,none⟩ (.int .i64 x)) g (zs.set j x):=by
 obtain⟨cur,e,hh,ht⟩:=h;refine⟨cur.setIfInBounds j (.int .i64 x),e,?_,?_⟩
 . rw[heap_setCell_same w g j _ _ _ hh]
 ·
  rw[Array.toList_setIfInBounds];exact PI _ zs j x ht
def M9 (w:World)(base:Nat)(v:Value)(zs:List Int):Prop:=
 (v = .slice none 0 0/\zs=[])\/∃g cap,v = .slice (some ⟨g,0,none⟩) zs.length cap/\base<=g/\Cd w g zs
theorem A8.row {w:World}{base:Nat}{v:Value}{zs:List Int}(h:A8 w base v zs):M9 w base v zs:=by
 rcases h.2 with ⟨rfl,hn⟩|⟨g,cap,cur,rfl,hb,hg,_,_,_,ht⟩
 . exact .inl ⟨rfl,List.eq_nil_of_length_eq_zero hn⟩
 . exact .inr ⟨g,cap,rfl,hb,cur,_,hg,by rw[Nat.mul_one] at ht;exact ht⟩
theorem M9.lt {w:World}{base:Nat}{v:Value}{zs:List Int}(h:M9 w base v zs):∀k,v.ownBlock=some k->base<=k/\k<w.heap.size:=by
 intro k hk;rcases h with ⟨rfl,_⟩|⟨g,cap,rfl,hb,hr⟩
 . simp[Value.ownBlock] at hk
 . simp[Value.ownBlock] at hk;subst hk;exact⟨hb,hr.lt⟩
theorem M9.ge {w:World}{base:Nat}{v:Value}{zs:List Int}(h:M9 w base v zs):∀k,v.ownBlock=some k->base<=k:=fun k hk=>(h.lt k hk).1
theorem M9.kept {w w':World}{base:Nat}{v:Value}{zs:List Int}{row:Option Nat}(h:M9 w base v zs)(hg:w.grownBy w' row)(hne:v.ownBlock=none\/v.ownBlock≠row):M9 w' base v zs:=by
 rcases h with h|⟨g,cap,rfl,hb,hr⟩
 . exact .inl h
 ·
  refine .inr ⟨g,cap,rfl,hb,hr.kept hg ?_⟩;simp[Value.ownBlock] at hne;exact fun e=>hne e.symm
theorem M9.keep {w w':World}{base:Nat}{v:Value}{zs:List Int}(h:M9 w base v zs)(k:AC w w'):M9 w' base v zs:=
 h.kept k.grownBy (by cases v.ownBlock<;>simp)
theorem M9.rd {w:World}{base:Nat}{v:Value}{zs:List Int}(h:M9 w base v zs):Rd w v zs:=by
 rcases h with ⟨rfl,rfl⟩|⟨g,cap,rfl,hb,hr⟩
 . exact⟨none,0,rfl,.inl rfl⟩
 . exact⟨some ⟨g,0,none⟩,cap,rfl,.inr ⟨g,0,rfl,hr.lt,fun i hi=>by rw[Nat.zero_add];exact hr.cell hi⟩⟩
theorem M9.BE {w:World}{base base':Nat}{v:Value}{zs:List Int}(h:M9 w base v zs)(hb:base'<=base):M9 w base' v zs:=by
 rcases h with h|⟨g,cap,hv,hg,hr⟩
 . exact .inl h
 . exact .inr ⟨g,cap,hv,Nat.le_trans hb hg,hr⟩
theorem M9.apart {w w':World}{base:Nat}{v v':Value}{zs zs':List Int}(h:M9 w base v zs)(h':M9 w' w.heap.size v' zs'):v.ownBlock=none\/v.ownBlock≠v'.ownBlock:=by
 cases hv:v.ownBlock with
 |none=>exact .inl rfl
 |some k=>
  refine .inr fun e=>?_
  have h1:=(h.lt k hv).2;have h2:=h'.ge k e.symm;omega
section
structure Rw where
 e:TypeId
 size:Nat
 v:Value
 n:Nat
 xs:List Value
def Rw.own (w:World)(m:Nat)(r:Rw):Prop:=w.ownsRow m r.e r.size r.v r.n r.xs
def Hy {ι:Type}[DecidableEq ι](R:ι->Rw)(i:ι)(r:Rw):ι->Rw:=fun j=>if j=i then r else R j
theorem Am {ι:Type}[DecidableEq ι](R:ι->Rw)(i:ι)(r:Rw):Hy R i r i=r:=if_pos rfl
theorem AU {ι:Type}[DecidableEq ι](R:ι->Rw){i j:ι}(r:Rw)(h:j≠i):Hy R i r j=R j:=if_neg h
structure Fj {ι:Type}(w:World)(m:Nat)(live:ι->Prop)(R:ι->Rw):Prop where
 own:∀i,live i->(R i).own w m
 apart:∀i j,live i->live j->i≠j->(R i).v.ownBlock=none\/(R i).v.ownBlock≠(R j).v.ownBlock
section
variable {ι:Type} {w w':World} {m:Nat} {live:ι->Prop} {R:ι->Rw}
theorem Fj.lt (h:Fj w m live R){i:ι}(hi:live i):∀k,(R i).v.ownBlock=some k->m<=k/\k<w.heap.size:=World.ownsRow.lt (h.own i hi)
theorem Fj.keep (h:Fj w m live R)(k:AC w w'):Fj w' m live R:=
 ⟨fun i hi=>World.ownsRow.kept (h.own i hi) k.grownBy (by cases (R i).v.ownBlock<;>simp),h.apart⟩
theorem Fj.far (h:Fj w m live R){row:Option Nat}(hg:w.grownBy w' row)(hr:∀i,live i->(R i).v.ownBlock=none\/(R i).v.ownBlock≠row):Fj w' m live R:=
 ⟨fun i hi=>World.ownsRow.kept (h.own i hi) hg (hr i hi),h.apart⟩
theorem Fj.congr (h:Fj w m live R){live':ι->Prop}{R':ι->Rw}(hl:∀i,live' i->live i)(hr:∀i,live' i->R' i=R i):Fj w m live' R':=
 ⟨fun i hi=>by rw[hr i hi];exact h.own i (hl i hi),fun i j hi hj hij=>by rw[hr i hi,hr j hj];exact h.apart i j (hl i hi) (hl j hj) hij⟩
variable [DecidableEq ι]
theorem Fj.set (h:Fj w m live R){i:ι}(hi:live i){r:Rw}(hg:w.grownBy w' (R i).v.ownBlock)(hb:r.v.ownBlock=(R i).v.ownBlock\/r.v.ownBlock=some w.heap.size\/r.v.ownBlock=none)(ho:r.own w' m):Fj w' m live (Hy R i r):=by
 refine⟨fun j hj=>?_,fun j k hj hk hjk=>?_⟩
 ·
  by_cases e:j=i
  . subst e;rw[Am];exact ho
  ·
   rw[AU R r e];exact World.ownsRow.kept (h.own j hj) hg (h.apart j i hj hi e)
 ·
  have new:∀j,live j->j≠i->(R j).v.ownBlock=none\/(R j).v.ownBlock≠some w.heap.size:=fun j hj _=>by
   cases e:(R j).v.ownBlock with
   |none=>exact .inl rfl
   |some b=>exact .inr (fun e'=>by have:=(h.lt hj b e).2;have:=Option.some.inj e';omega)
  by_cases ej:j=i
  ·
   subst ej;have ek:k≠j:=fun e=>hjk e.symm
   rw[Am,AU R r ek];rcases hb with hb|hb|hb
   . rw[hb];exact h.apart j k hj hk hjk
   ·
    rw[hb];right;intro e;rcases new k hk ek with h1|h1
    . rw[h1] at e;cases e
    . exact h1 e.symm
   . exact .inl hb
  ·
   rw[AU R r ej];by_cases ek:k=i
   ·
    subst ek;rw[Am];rcases hb with hb|hb|hb
    . rw[hb];exact h.apart j k hj hk hjk
    . rw[hb];exact new j hj ej
    ·
     rw[hb]
     cases (R j).v.ownBlock with
     |none=>exact .inl rfl
     |some b=>exact .inr (by simp)
   ·
    rw[AU R r ek];exact h.apart j k hj hk hjk
theorem Fj.add (h:Fj w m live R){i:ι}(hi:¬live i){r:Rw}{s:Nat}(hs:s=w.heap.size)(k:AC w w')(ho:r.own w' m)(hn:∀b,r.v.ownBlock=some b->s<=b):Fj w' m (fun j=>live j\/j=i) (Hy R i r):=by
 have hk:=h.keep k
 have new:∀j,live j->(R j).v.ownBlock=none\/(R j).v.ownBlock≠r.v.ownBlock:=fun j hj=>by
  cases e:(R j).v.ownBlock with
  |none=>exact .inl rfl
  |some b=>exact .inr (fun e'=>by have:=(h.lt hj b e).2;have:=hn b e'.symm;omega)
 have ne:∀j,live j->j≠i:=fun j hj e=>hi (e ▸ hj)
 refine⟨fun j hj=>?_,fun j l hj hl hjl=>?_⟩
 ·
  rcases hj with hj|rfl
  . rw[AU R r (ne j hj)];exact hk.own j hj
  . rw[Am];exact ho
 ·
  rcases hj with hj|rfl
  ·
   rw[AU R r (ne j hj)];rcases hl with hl|rfl
   . rw[AU R r (ne l hl)];exact h.apart j l hj hl hjl
   . rw[Am];exact new j hj
  ·
   rw[Am];rcases hl with hl|rfl
   ·
    rw[AU R r (ne l hl)];rcases new l hl with h1|h1
    ·
     rw[h1]
     cases r.v.ownBlock with
     |none=>exact .inl rfl
     |some b=>exact .inr (by simp)
    . exact .inr (fun e=>h1 e.symm)
   . exact absurd rfl hjl
end
theorem Rw.cell {w:World}{m:Nat}{r:Rw}(h:r.own w m){g cap k:Nat}(hv:r.v = .slice (some ⟨g,0,none⟩) r.n cap)(hk:k<r.n*r.size):w.cell? ⟨g,k,none⟩=r.xs[k]?:=by
 unfold Rw.own at h;rw[hv] at h;exact World.ownsRow.cellAt h k hk
theorem Rw.put {w:World}{m:Nat}{r:Rw}(h:r.own w m){g cap k:Nat}(hv:r.v = .slice (some ⟨g,0,none⟩) r.n cap)(x:Value):Rw.own (w.setCell ⟨g,k,none⟩ x) m { r with xs:=r.xs.set k x }/\w.grownBy (w.setCell ⟨g,k,none⟩ x) r.v.ownBlock/\w.frozen? ⟨g,k,none⟩=false:=by
 unfold Rw.own at h ⊢;rcases h.2 with ⟨h1,_⟩|⟨g',cap',cur,h1,hb,hg,hn,hm,hs,ht⟩
 . rw[hv] at h1;simp at h1
 ·
  rw[hv] at h1;simp only[Value.slice.injEq,Option.some.injEq,Addr.mk.injEq,and_true,true_and] at h1;obtain⟨rfl,rfl⟩:=h1;refine⟨⟨by simpa using h.1,.inr ⟨g,cap,cur.setIfInBounds k x,hv,hb,heap_setCell_same w g k _ _ _ hg,hn,hm,by simpa using hs,?_⟩⟩,?_,frozen_of_row w g k _ _ hg⟩
  . rw[Array.toList_setIfInBounds,List.take_set,ht]
  ·
   rw[hv];exact Ad w g k x
end
def Oe (d:Dd):Int:=d.2.2.2
def gK (ds:List Dd):Nat->Int
 | 0=>0
 |k+1=>if Oe (ds.getD k zD)=0 then gK ds k else Fo (gK ds k) (Oe (ds.getD k zD))
def gC (ds:List Dd):Int:=gK ds ds.length
def Hq (ds:List Dd)(k:Nat):Bool:=decide (0<k)&&(Oe (ds.getD k zD) != Oe (ds.getD (k-1) zD))&&BK (gK ds k) (Oe (ds.getD k zD))
def FU (ds:List Dd):Nat->Bool
 | 0=>true
 |k+1=>FU ds k&&!Hq ds k
def GJ (AA:List (List Dd)):Nat->Int
 | 0=>0
 |i+1=>bits .or .i64 (GJ AA i) (gC (AA.getD i []))
def Cf (ds:List Dd)(t:Int):Bool:=decide (ds.length<=5)&&ds.all FZ&&FU ds ds.length&&(bits .and .i64 (gC ds) t==0)
def Bo (AA:List (List Dd)):Nat->Bool
 | 0=>true
 |i+1=>Bo AA i&&Cf (AA.getD i []) (GJ AA i)
theorem Nz {α:Type}(l:List α)(i k:Nat)(z:α)(h:k<i):(l.take i).getD k z=l.getD k z:=by
 rw[List.getD_eq_getElem?_getD,List.getElem?_take,if_pos h,List.getD_eq_getElem?_getD]
theorem TA (ds:List Dd)(i:Nat):∀k:Nat,k<=i->gK (ds.take i) k=gK ds k
 | 0,_=>rfl
 |k+1,h=>by rw[gK,gK,TA ds i k (by omega),Nz ds i k zD (by omega)]
theorem Yt (ds:List Dd)(i:Nat)(h:i<=ds.length):gC (ds.take i)=gK ds i:=by
 rw[gC,List.length_take,Nat.min_eq_left h,TA ds i i (Nat.le_refl _)]
theorem Me {ds:List Dd}{k:Nat}(h:FU ds k=false):∀n:Nat,k<=n->FU ds n=false
 | 0,hn=>by
  obtain rfl:k=0:=by omega
  exact h
 |n+1,hn=>by
  by_cases e:k=n+1
  . rw[<-e];exact h
  . rw[FU,Me h n (by omega)];rfl
theorem Fu {AA:List (List Dd)}{k:Nat}(h:Bo AA k=false):∀n:Nat,k<=n->Bo AA n=false
 | 0,hn=>by
  obtain rfl:k=0:=by omega
  exact h
 |n+1,hn=>by
  by_cases e:k=n+1
  . rw[<-e];exact h
  . rw[Bo,Fu h n (by omega)];rfl
def qi (a b:Nat):Prop:=∀k,a.testBit k=true->b.testBit k=false
theorem S0 (a b:Nat):qi a b↔a &&& b=0:=by
 constructor
 ·
  intro h;apply Nat.eq_of_testBit_eq;intro k;rw[Nat.testBit_and,Nat.zero_testBit];cases ha:a.testBit k
  . rfl
  . rw[h k ha];rfl
 ·
  intro h k ha;have h1:(a &&& b).testBit k=false:=by rw[h,Nat.zero_testBit]
  rw[Nat.testBit_and,ha] at h1
  simpa using h1
theorem MO (a g k:Nat):(a ||| 2 ^ g).testBit k=(a.testBit k||decide (g=k)):=by
 rw[Nat.testBit_or,Nat.testBit_two_pow]
theorem XI (o:List Int)(g:Nat)(x:Int)(j:Nat)(hg:g<o.length):(o.set g x).getD j 0=if g=j then x else o.getD j 0:=by
 rw[List.getD_eq_getElem?_getD,List.getElem?_set];by_cases e:g=j
 . subst e;rw[if_pos rfl,if_pos hg,if_pos rfl];rfl
 . rw[if_neg e,if_neg e,List.getD_eq_getElem?_getD]
theorem ZG {d:Dd}(h:FZ d=true):0<=Oe d/\Oe d<=9:=by
 simp[FZ,Dy] at h;unfold Oe;omega
theorem GN {i:Nat}{own:List Int}{T:Nat}{ds:List Dd}(hl:own.length=10)(hT:∀g,g<10->(own.getD g 0≠0↔T.testBit g=true))(hi:∀g,g<10->own.getD g 0≠(i:Int)+1)(hT0:T.testBit 0=false):
  ∀k:Nat,(∀j,j<k->FZ (ds.getD j zD)=true)->∃G:Nat,G<4096/\gK ds k=(G:Int)/\G.testBit 0=false/\(k=0->G=0) /\
   (Ch i own ds k=none->FU ds k=false\/¬qi G T) /\
   ∀o,Ch i own ds k=some o->FU ds k=true/\qi G T/\o.length=10/\∀g,g<10->o.getD g 0=if G.testBit g=true then (i:Int)+1 else own.getD g 0
 | 0,_=>⟨0,by omega,rfl,by simp,fun _=>rfl,by simp[Ch],by
   intro o ho;simp only[Ch,Option.some.injEq] at ho;subst ho
   exact⟨rfl,fun k hk=>by simp at hk,hl,by simp⟩⟩
 |k+1,hok=>by
  obtain⟨G,hG,Zx,hG0,hz,hN,hS⟩:=GN hl hT hi hT0 k (fun j hj=>hok j (by omega));obtain⟨h0,h9⟩:=ZG (hok k (by omega));obtain⟨g,hg⟩:=Int.eq_ofNat_of_zero_le h0;have hgg:(ds.getD k zD).2.2.2=(g:Int):=hg;by_cases hg0:g=0
  ·
   subst hg0;have hz0:(ds.getD k zD).2.2.2=0:=hgg;have e1:gK ds (k+1)=(G:Int):=by rw[gK,hg,if_pos (by simp),Zx]
   have e2:Hq ds k=false:=by
    have:BK (gK ds k) (Oe (ds.getD k zD))=false:=by rw[Zx,hg,BT G 0 hG (by omega),hG0]
    rw[Hq,this,Bool.and_false]
   have e3:FU ds (k+1)=FU ds k:=by rw[FU,e2];simp
   have e4:Ch i own ds (k+1)=Ch i own ds k:=by
    rw[Ch]
    cases hq:Ch i own ds k with
    |none=>rfl
    |some o=>simp only;rw[if_pos hz0]
   refine⟨G,hG,e1,hG0,by omega,?_,?_⟩
   . rw[e3,e4];exact hN
   . rw[e3,e4];exact hS
  ·
   have lg:(ds.getD k zD).2.2.2≠0:=by rw[hgg];omega
   have g9:g<=9:=by rw[hg] at h9;omega
   have e1:gK ds (k+1)=((G ||| 2 ^ g:Nat):Int):=by
    rw[gK,hg,if_neg (by omega),Zx,Pz G g hG (by omega)]
   have e0:(G ||| 2 ^ g).testBit 0=false:=by rw[MO,hG0];simp[hg0]
   have yo:BK (gK ds k) (Oe (ds.getD k zD))=G.testBit g:=by rw[Zx,hg,BT G g hG (by omega)]
   refine⟨G ||| 2 ^ g,Z2 G g hG (by omega),e1,e0,by omega,?_,?_⟩
   ·
    intro hn;rw[Ch] at hn
    cases hq:Ch i own ds k with
    |none=>
     rcases hN hq with h|h
     . left;rw[FU,h];rfl
     ·
      right;intro hd;refine h (fun b hb=>hd b ?_);rw[MO,hb];rfl
    |some o=>
     rw[hq] at hn;simp only at hn;rw[if_neg lg,hgg,Int.toNat_natCast] at hn;obtain⟨ht,hd,hlen,ho⟩:=hS o hq;split at hn
     ·
      rename_i hc
      cases Yz:T.testBit g with
      |true=>
       right;intro hd2;have:=hd2 g (by rw[MO];simp);rw[Yz] at this;cases this
      |false=>
       left
       have hown:own.getD g 0=0:=by
        apply Classical.byContradiction;intro hne;rw[(hT g (by omega)).1 hne] at Yz;cases Yz
       cases U3:G.testBit g with
       |false=>
        exfalso;have:=ho g (by omega);rw[U3,hown] at this;exact hc.1 (by simpa using this)
       |true=>
        have hk0:k≠0:=by
         intro hk;rw[hz hk] at U3;simp at U3
        have hog:=ho g (by omega);rw[U3,if_pos rfl] at hog
        have hp:(ds.getD (k-1) zD).2.2.2≠(g:Int):=by
         rcases hc.2 with h|h|h
         . exact absurd hog h
         . exact absurd h hk0
         . exact h
        have:Hq ds k=true:=by
         rw[Hq,yo,U3,hg]
         have hp':((g:Int) != Oe (ds.getD (k-1) zD))=true:=by
          rw[bne_iff_ne];exact fun e=>hp e.symm
         rw[hp'];simp;omega
        rw[FU,this];simp
     . cases hn
   ·
    intro o' hn;rw[Ch] at hn
    cases hq:Ch i own ds k with
    |none=>rw[hq] at hn;cases hn
    |some o=>
     rw[hq] at hn;simp only at hn;rw[if_neg lg,hgg,Int.toNat_natCast] at hn;obtain⟨ht,hd,hlen,ho⟩:=hS o hq;split at hn
     . cases hn
     ·
      rename_i hc;simp only[Option.some.injEq] at hn;subst hn;have hog:=ho g (by omega)
      have Yz:T.testBit g=false:=by
       cases Yz:T.testBit g with
       |false=>rfl
       |true=>
        exfalso
        have U3:G.testBit g=false:=by
         cases U3:G.testBit g with
         |false=>rfl
         |true=>rw[hd g U3] at Yz;cases Yz
        rw[U3] at hog;simp only[Bool.false_eq_true,if_false] at hog;exact hc ⟨by rw[hog];exact (hT g (by omega)).2 Yz,.inl (by rw[hog];exact hi g (by omega))⟩
      refine⟨?_,?_,by rw[List.length_set];exact hlen,?_⟩
      ·
       have:Hq ds k=false:=by
        cases hp:Hq ds k with
        |false=>rfl
        |true=>
         exfalso;rw[Hq,yo,hg,Bool.and_eq_true,Bool.and_eq_true,decide_eq_true_eq,bne_iff_ne] at hp;obtain⟨⟨hk,hne⟩,U3⟩:=hp;rw[U3,if_pos rfl] at hog;exact hc ⟨by rw[hog];omega,.inr (.inr (fun e=>hne e.symm))⟩
       rw[FU,ht,this];rfl
      ·
       intro b hb;rw[MO,Bool.or_eq_true,decide_eq_true_eq] at hb;rcases hb with hb|rfl
       . exact hd b hb
       . exact Yz
      ·
       intro j hj;rw[XI o g _ j (by omega),MO];by_cases e:g=j
       . subst e;simp
       . rw[if_neg e,ho j hj];simp[e]
theorem OH {AA:List (List Dd)}:∀n:Nat,(∀i,i<n->Ft (AA.getD i [])=true)->∃T:Nat,T<4096/\GJ AA n=(T:Int)/\T.testBit 0=false /\
   (EZ AA n=none->Bo AA n=false) /\
   ∀o,EZ AA n=some o->Bo AA n=true/\o.length=10/\(∀g,g<10->(o.getD g 0≠0↔T.testBit g=true))/\∀g,g<10->0<=o.getD g 0/\o.getD g 0<=(n:Int)
 | 0,_=>⟨0,by omega,rfl,by simp,by simp[EZ],by
   intro o ho;simp only[EZ,Option.some.injEq] at ho;subst ho;refine⟨rfl,by simp,fun g hg=>?_,fun g hg=>?_⟩
   . rw[List.getD_eq_getElem?_getD,List.getElem?_replicate,if_pos hg];simp
   . rw[List.getD_eq_getElem?_getD,List.getElem?_replicate,if_pos hg];simp⟩
 |n+1,hok=>by
  obtain⟨T,hT,htk,hT0,hN,hS⟩:=OH n (fun i hi=>hok i (by omega));have uQ:=hok n (by omega);simp only[Ft,Bool.and_eq_true,decide_eq_true_eq] at uQ;have hall:=uQ.1;have hok2:∀j,j<(AA.getD n []).length->FZ ((AA.getD n []).getD j zD)=true:=fun j hj=>BR zD hall j hj
  obtain⟨G0,hG0,Y1,hG00,-⟩:=GN (i:=0) (own:=List.replicate 10 0) (T:=0) (ds:=AA.getD n []) (by simp) (fun g hg=>by rw[List.getD_eq_getElem?_getD,List.getElem?_replicate,if_pos hg];simp) (fun g hg=>by rw[List.getD_eq_getElem?_getD,List.getElem?_replicate,if_pos hg];simp) (by simp) (AA.getD n []).length hok2
  have hor:GJ AA (n+1)=((T ||| G0:Nat):Int):=by
   rw[GJ,htk,gC,Y1,Iu T G0 (by omega) (by omega)]
  have hand:bits .and .i64 (gC (AA.getD n [])) (GJ AA n)=((G0 &&& T:Nat):Int):=by
   rw[gC,Y1,htk,KE G0 T (by omega) (by omega)]
  have hR:Cf (AA.getD n []) (GJ AA n)=(FU (AA.getD n []) (AA.getD n []).length&&decide (G0 &&& T=0)):=by
   rw[Cf,hall,decide_eq_true uQ.2,hand];simp only[Bool.true_and]
   congr 1
   rw[Bool.eq_iff_iff,beq_iff_eq,decide_eq_true_eq];omega
  refine⟨T ||| G0,Nat.or_lt_two_pow (n:=12) hT hG0,hor,by rw[Nat.testBit_or,hT0,hG00];rfl,?_,?_⟩
  ·
   intro hn;rw[EZ] at hn
   cases hq:EZ AA n with
   |none=>rw[Bo,hN hq];rfl
   |some o=>
    rw[hq] at hn;simp only at hn;obtain⟨hr,hl,hb,hle⟩:=hS o hq;obtain⟨G,hG,Zx,-,-,hN2,-⟩:=GN (i:=n) (own:=o) (T:=T) (ds:=AA.getD n []) hl hb (fun g hg=>by have:=hle g hg;omega) hT0 (AA.getD n []).length hok2;obtain rfl:G=G0:=by rw[Y1] at Zx;omega
    rw[Bo,hr,hR];rcases hN2 hn with h|h
    . rw[h];rfl
    . rw[decide_eq_false (fun e=>h ((S0 _ _).2 e))];simp
  ·
   intro o' hn;rw[EZ] at hn
   cases hq:EZ AA n with
   |none=>rw[hq] at hn;cases hn
   |some o=>
    rw[hq] at hn;simp only at hn;obtain⟨hr,hl,hb,hle⟩:=hS o hq;obtain⟨G,hG,Zx,-,-,-,hS2⟩:=GN (i:=n) (own:=o) (T:=T) (ds:=AA.getD n []) hl hb (fun g hg=>by have:=hle g hg;omega) hT0 (AA.getD n []).length hok2;obtain rfl:G=G0:=by rw[Y1] at Zx;omega
    obtain⟨h1,h2,h3,h4⟩:=hS2 o' hn;refine⟨by rw[Bo,hr,hR,h1,decide_eq_true ((S0 _ _).1 h2)];rfl,h3,fun g hg=>?_,fun g hg=>?_⟩
    ·
     rw[h4 g hg,Nat.testBit_or,Bool.or_eq_true];cases U3:G.testBit g
     . simp only[Bool.false_eq_true,if_false,or_false];exact hb g hg
     . simp only[if_true,or_true,iff_true];omega
    ·
     rw[h4 g hg];have:=hle g hg;split<;>omega
theorem Qh {AA:List (List Dd)}(h:AA.all Ft=true):Bo AA AA.length=JS AA:=by
 obtain⟨T,-,-,-,hN,hS⟩:=OH (AA:=AA) AA.length (fun i hi=>BR [] h i hi);rw[JS]
 cases hq:EZ AA AA.length with
 |none=>rw[hN hq];rfl
 |some o=>rw[(hS o hq).1];rfl
theorem SX {AA:List (List Dd)}(h:Bo AA AA.length=true):AA.all Ft=true:=by
 refine cZ [] (fun i hi=>?_)
 cases hb:Bo AA (i+1) with
 |false=>rw[Fu hb _ hi] at h;cases h
 |true=>
  rw[Bo,Bool.and_eq_true] at hb;have:=hb.2;simp only[Cf,Bool.and_eq_true] at this;rw[Ft,this.1.1.2,Bool.true_and];exact this.1.1.1
theorem Q5 (AA:List (List Dd)):AW AA=(decide (1<=AA.length/\AA.length<=3)&&Bo AA AA.length&&decide (Cy AA<=12)&&decide (Pw AA AA.length<=6)):=by
 rw[AW]
 cases h:AA.all Ft with
 |true=>
  rw[Qh h];cases JS AA<;>simp
 |false=>
  cases hr:Bo AA AA.length with
  |false=>simp
  |true=>rw[SX hr] at h;cases h
section
section
variable {P:Program} {md:Region.Mode} {ops:Array Oper} {Q:Exit->Act->World->Prop} {S:World->Prop}
theorem nV (i d:Nat){oi:Oper}{v:Value}{fuel:Nat}{listed:Array Bool}{a:Act}{w:World}(hi:ops[i]? = some oi)(hd:oi.dst=some d)
  (hs:Region.noSelect ops=true) (hf:Region.free md ops listed i=true) (hr:(Region.ready md ops listed).contains i=true)
  (hQ:∀c a w,Q (.panic c) (a.put (some d) v) w->Q (.panic c) a w) (hw:Region.wanted oi (yielded ops a.tmps)=true) (hy:∀w,S w->(execOp a.eval oi).run P w = .ok (.value v) w) (hS:S w)
  (h:wpAnyH P md ops Q S fuel (listed.setIfInBounds i true) (a.put (some d) v) w):wpAnyH P md ops Q S (fuel+1) listed a w:=by
 rw[<-hd] at hQ h;exact wpAnyH_take hi hs hf hr hQ (Or.inl ⟨hw,hy⟩) hS h
theorem AO (i d:Nat){oi:Oper}{v:Value}{fuel:Nat}{listed:Array Bool}{a:Act}{w:World}
  (hy:∀w,S w->(execOp a.eval oi).run P w = .ok (.value v) w) (h:wpAnyH P md ops Q S fuel (listed.setIfInBounds i true) (a.put (some d) v) w)
  (hi:ops[i]? = some oi:=by rfl) (hd:oi.dst=some d:=by rfl)
  (hs:Region.noSelect ops=true:=by kernel_rfl) (hf:Region.free md ops listed i=true:=by kernel_rfl) (hr:(Region.ready md ops listed).contains i=true:=by kernel_rfl)
  (hQ:∀c a w,Q (.panic c) (a.put (some d) v) w->Q (.panic c) a w:=by exact fun _ _ _ h=>h) (hw:Region.wanted oi (yielded ops a.tmps)=true:=by rfl) (hS:S w:=by assumption):wpAnyH P md ops Q S (fuel+1) listed a w:=
 nV i d hi hd hs hf hr hQ hw hy hS h
theorem ES (i d:Nat){oi:Oper}{fuel:Nat}{listed:Array Bool}{a:Act}{w:World}(hi:ops[i]? = some oi)(hd:oi.dst=some d)
  (hs:Region.noSelect ops=true) (hf:Region.free md ops listed i=true) (hr:(Region.ready md ops listed).contains i=true)
  (hQ:∀c a w,Q (.panic c) (a.put (some d) undef) w->Q (.panic c) a w) (hw:Region.wanted oi (yielded ops a.tmps)=false) (hS:S w)
  (h:wpAnyH P md ops Q S fuel (listed.setIfInBounds i true) (a.put (some d) undef) w):wpAnyH P md ops Q S (fuel+1) listed a w:=by
 rw[<-hd] at hQ h;exact wpAnyH_take hi hs hf hr hQ (Or.inr ⟨hw,rfl⟩) hS h
end
end
def cE (e:Ev):List Value:=[.int .i64 e.1,.int .i64 e.2.1,.bool e.2.2.1,.int .i64 e.2.2.2.1,.int .i64 e.2.2.2.2.1,.int .i64 e.2.2.2.2.2]
theorem dD (e:Ev):(cE e).length=6:=rfl
theorem Tryz.WR:(Tryz.prog.info? 89).map (fun i=>(i.zero,i.size,i.bytes))=some (some (.agg #[.int .i64 0,.int .i64 0,.bool false,.int .i64 0,.int .i64 0,.int .i64 0]),6,48):=by kernel_rfl
abbrev Xl (w:World)(v:Value)(es:List Ev):Prop:=iR cE 6 w v es
abbrev IR (w:World)(base:Nat)(v:Value)(es:List Ev):Prop:=BW cE 89 6 w base v es
theorem ig {w:World}{b o:Nat}{x0 x1:Int}{r:Bool}{x3 x4 x5:Int}(h:Xh cE w b o (x0,x1,r,x3,x4,x5)):
  w.cell? ⟨b,o,none⟩=some (.int .i64 x0)/\w.cell? ⟨b,o+1,none⟩=some (.int .i64 x1)/\w.cell? ⟨b,o+2,none⟩=some (.bool r)/\w.cell? ⟨b,o+3,none⟩=some (.int .i64 x3)/\w.cell? ⟨b,o+4,none⟩=some (.int .i64 x4)/\w.cell? ⟨b,o+5,none⟩=some (.int .i64 x5):=
 ⟨h 0 _ rfl,h 1 _ rfl,h 2 _ rfl,h 3 _ rfl,h 4 _ rfl,h 5 _ rfl⟩
theorem IR.rd {w:World}{base:Nat}{v:Value}{es:List Ev}(h:IR w base v es):Xl w v es:=BW.rd dD h
theorem Ko {es:List Ev}{i:Nat}(h:i<es.length):es[i]? = some (es.getD i zE):=by
 rw[List.getD_eq_getElem?_getD,List.getElem?_eq_getElem h];rfl
structure LP (w0 wr:World)(x:Value)(es:List Ev)(P:List (Nat×Obj)):Prop where
 app:IR wr w0.heap.size x es
 keep:AC w0 wr
 held:∀n o,(n,o)∈P->x.ownBlock≠some n/\wr.heap[n]? = some o
theorem LP.more {w0 wr wr':World}{x:Value}{es:List Ev}{P:List (Nat×Obj)}(h:LP w0 wr x es P)(k:AC wr wr'):LP w0 wr' x es P:=
 ⟨h.app.keep k,h.keep.trans k,fun n o hn=>⟨(h.held n o hn).1,(Below.block k n (Array.getElem?_eq_some_iff.1 (h.held n o hn).2).1).trans (h.held n o hn).2⟩⟩
theorem LP.add {w0 wr:World}{x:Value}{es:List Ev}{P:List (Nat×Obj)}(h:LP w0 wr x es P)(n:Nat)(o:Obj)(hx:x.ownBlock≠some n)(ho:wr.heap[n]? = some o):LP w0 wr x es ((n,o)::P):=
 ⟨h.app,h.keep,fun m q hm=>by
  rcases List.mem_cons.1 hm with e|e
  . injection e with e1 e2;subst e1 e2;exact⟨hx,ho⟩
  . exact h.held m q e⟩
theorem LP.new {w0 wr:World}{x:Value}{es:List Ev}{P:List (Nat×Obj)}(h:LP w0 wr x es P)(o:Obj):LP w0 (wr.alloc o) x es ((wr.heap.size,o)::P):=
 (h.more ((AC.refl wr).alloc o)).add _ _ (fun e=>by have:=(h.app.lt _ e).2;omega) (heap_alloc_new wr o)
theorem LP.later {w0 wr wr':World}{x:Value}{es:List Ev}{P:List (Nat×Obj)}(h:LP w0 wr x es P)(k:AC wr wr'){B:Nat}{o:Obj}(hB:wr.heap.size<=B)(ho:wr'.heap[B]? = some o):LP w0 wr' x es ((B,o)::P):=
 (h.more k).add _ _ (fun e=>by have:=(h.app.lt _ e).2;omega) ho
theorem LP.less {w0 wr:World}{x:Value}{es:List Ev}{P Q:List (Nat×Obj)}(h:LP w0 wr x es P)(hs:∀y,y∈Q->y∈P):LP w0 wr x es Q:=
 ⟨h.app,h.keep,fun n o hn=>h.held n o (hs _ hn)⟩
theorem LP.hit {w0 wr w':World}{x v':Value}{es:List Ev}{P:List (Nat×Obj)}(h:LP w0 wr x es P)(e:Ev)
  (ho:w'.ownsRow w0.heap.size 89 6 v' (es.length+1) (es.flatMap cE++cE e)) (hg:wr.grownBy w' x.ownBlock) (hb:v'.ownBlock=x.ownBlock\/v'.ownBlock=some wr.heap.size):LP w0 w' v' (es++[e]) P:=by
 refine⟨De ho,h.keep.grown hg h.app.ge,fun n o hn=>?_⟩;obtain⟨h1,h2⟩:=h.held n o hn;have hlt:=(Array.getElem?_eq_some_iff.1 h2).1;refine⟨fun e=>?_,(hg.block n hlt (fun e=>h1 e.symm)).trans h2⟩;rcases hb with hb|hb
 . exact h1 (hb ▸ e)
 . rw[hb] at e;have:=Option.some.inj e;omega
theorem LP.lt {w0 wr:World}{x:Value}{es:List Ev}{P:List (Nat×Obj)}(h:LP w0 wr x es P){n:Nat}{o:Obj}(hn:(n,o)∈P):n<wr.heap.size:=(Array.getElem?_eq_some_iff.1 (h.held n o hn).2).1
theorem LP.cell {w0 wr:World}{x:Value}{es:List Ev}{P:List (Nat×Obj)}(h:LP w0 wr x es P){n:Nat}{cs:Array Value}{t:TypeId}(hn:(n,.cells cs t)∈P)(i:Nat):wr.cell? ⟨n,i,none⟩=cs[i]?:=
 cell_of_row wr n i cs t (0,0) (h.held n _ hn).2
theorem VS {w:World}{base base':Nat}{v:Value}{es:List Ev}(h:IR w base v es)(hb:base'<=base):IR w base' v es:=by
 refine⟨h.1,?_⟩;rcases h.2 with h|⟨g,cap,cur,hv,hg,rest⟩
 . exact .inl h
 . exact .inr ⟨g,cap,cur,hv,Nat.le_trans hb hg,rest⟩
abbrev eO (i k:Int)(r:Bool)(p v c:Int):Obj:= .cells #[.int .i64 i,.int .i64 k,.bool r,.int .i64 p,.int .i64 v,.int .i64 c] 89
theorem JK (e:Ev):∀u∈cE e,u.oneCell'=true:=by
 intro u hu;simp only[cE,List.mem_cons,List.not_mem_nil,or_false] at hu;rcases hu with rfl|rfl|rfl|rfl|rfl|rfl<;>rfl
theorem JJ (w:World)(n:Nat)(hn:w.heap.size=n)(i q:Int)(r:Bool)(pl vl c:Int):∀j u,(cE (i,q,r,pl,vl,c))[j]? = some u->(w.alloc (eO i q r pl vl c)).cell? ((⟨n,0,none⟩:Addr).add j)=some u:=by
 subst hn;intro j u hj
 match j,hj with
 | 0,hj=>simp[cE] at hj;subst hj;simp[Addr.add]
 | 1,hj=>simp[cE] at hj;subst hj;simp[Addr.add]
 | 2,hj=>simp[cE] at hj;subst hj;simp[Addr.add]
 | 3,hj=>simp[cE] at hj;subst hj;simp[Addr.add]
 | 4,hj=>simp[cE] at hj;subst hj;simp[Addr.add]
 | 5,hj=>simp[cE] at hj;subst hj;simp[Addr.add]
def PJ (f:Ev->Bool)(es:List Ev)(k:Nat):Bool:=decide (k<es.length)&&f (es.getD k zE)
def Sx (f:Ev->Bool)(es:List Ev):Nat->List Int
 | 0=>[]
 |k+1=>if PJ f es k=true then Sx f es k++[(k:Int)] else Sx f es k
theorem OQ (f:Ev->Bool)(es:List Ev):∀k,Sx f es k=Be f es (min k es.length)
 | 0=>by simp[Sx,Be]
 |k+1=>by
  rw[Sx,OQ f es k];by_cases h:k<es.length
  ·
   rw[show min (k+1) es.length=k+1 by omega,show min k es.length=k by omega,Be];simp[PJ,h]
  ·
   rw[show min (k+1) es.length=min k es.length by omega];simp[PJ,h]
theorem Yf (f:Ev->Bool)(es:List Ev)(k:Nat)(h:es.length<=k):Sx f es k=Be f es es.length:=by
 rw[OQ,Nat.min_eq_right h]
theorem Yg (f:Ev->Bool)(es:List Ev)(k:Nat):(Sx f es k).length<=k:=by
 rw[OQ];have:=Cw f es (min k es.length);omega
theorem Hh (f:Ev->Bool)(es:List Ev):(AX f es).length<=12:=by
 unfold AX;split
 . have:=Cw f es es.length;omega
 . simp
structure RV where
 n:Nat
 ck:Nat->Int
 pl:Nat->Nat
 rd:Nat->Bool
 cs:Nat->Int
 ex:Nat->Nat->Bool
structure A7 where
 X:Nat->Prop
 N:Int->List Nat
 R:Nat->List Nat
 F:Nat->Nat
 τ:Nat->Nat
def A7.L (S:RV)(s:A7)(c:Int)(p:Nat):List Nat:=s.R p++(s.N c).filter (fun x=>S.pl x==p)
def A7.D (S:RV)(s:A7)(j:Nat):Prop:=s.X j/\j∉s.N (S.ck j)
def A7.v (S:RV)(s:A7)(i:Nat):Nat:=if S.rd i=true then s.F i else i
abbrev Ux (L:List Nat)(x y:Nat):Prop:=[x,y].Sublist L
structure Fw (S:RV)(s:A7)(T:Nat)(z:Int):Prop where
 Ie:∀j,j<3->s.X j/\S.rd j=false/\S.pl j=j/\S.ck j=-1/\s.τ j=0/\S.cs j=j
 lt:∀j,s.X j->j<S.n
 down:∀i j,s.X j->3<=i->i<j->S.ck i=S.ck j->s.X i
 note:∀c x,x∈s.N c->s.X x/\3<=x/\S.ck x=c/\S.rd x=false
 Oq:∀c,(s.N c).Pairwise (·<·)
 pend:∀c x j,x∈s.N c->s.X j->x<j->S.ck j=c->(S.rd j=true/\S.ex x j=true)\/j∈s.N c
 rows:∀p x,x∈s.R p↔s.D S x/\S.rd x=false/\S.pl x=p
 J3:∀p,(s.R p).Nodup
 Qj:∀p,(s.R p).Pairwise (fun x y=>s.τ x<=s.τ y)
 N1:∀j,s.D S j->s.τ j<=T
 tpos:∀j,s.D S j->3<=j->1<=s.τ j
 same:∀i j,s.D S i->s.D S j->3<=i->3<=j->s.τ i=s.τ j->S.cs i=S.cs j
 Oo:∀i j,s.D S i->s.D S j->3<=i->3<=j->S.cs i=S.cs j->s.τ i=s.τ j
 now:∀i,s.D S i->3<=i->(s.τ i=T↔S.cs i=z)
 kept:∀i j,s.D S i->s.D S j->3<=i->i<j->S.ck i=S.ck j->S.cs i≠S.cs j->S.ex i j=false->s.τ i<s.τ j
 src:∀r,s.X r->S.rd r=true->s.X (s.F r)/\S.rd (s.F r)=false/\S.pl (s.F r)=S.pl r/\((3<=s.F r/\S.ck (s.F r)=S.ck r)\/(s.D S (s.F r)/\s.τ (s.F r)<=s.τ r))
 LQ:∀r w p,s.X r->S.rd r=true->Ux (s.R p) (s.F r) w->s.τ r<=s.τ w
 UJ:∀i,s.X i->3<=i->s.v S i∈s.L S (S.ck i) (S.pl i)
 Xn:∀i j,s.X i->s.X j->3<=i->i<j->S.ck i=S.ck j->S.pl i=S.pl j->s.v S i=s.v S j\/Ux (s.L S (S.ck i) (S.pl i)) (s.v S i) (s.v S j)
 Pr:∀i j,s.X i->s.X j->3<=i->i<j->S.ck i=S.ck j->S.pl i=S.pl j->S.rd i=true->S.rd j=false->s.F i≠j
structure ja (S:RV)(s:A7)(j:Nat):Prop where
 three:3<=j
 lt:j<S.n
 new:¬s.X j
 all:∀i,3<=i->i<j->S.ck i=S.ck j->s.X i
 last:∀i,s.X i->3<=i->S.ck i=S.ck j->i<j
theorem JH {L:List Nat}{x y:Nat}(h:Ux L x y):x∈L/\y∈L:=⟨h.subset (by simp),h.subset (by simp)⟩
theorem LV {L:List Nat}{x w:Nat}(h:x∈L):Ux (L++[w]) x w:=by
 have h1:[x].Sublist L:=List.singleton_sublist.2 h;exact h1.append (List.Sublist.refl [w])
theorem VW {L:List Nat}{x y:Nat}(hn:(L++[x]).Nodup)(h:Ux (L++[x]) x y):False:=by
 have h2:¬x∈L:=by
  rw[List.nodup_append] at hn;intro hx;exact hn.2.2 x hx x (by simp) rfl
 obtain⟨l1,l2,e,s1,s2⟩:=List.sublist_append_iff.1 h
 cases l1 with
 |nil=>
  simp only[List.nil_append] at e;rw[<-e] at s2;have:=s2.length_le;simp at this
 |cons a l1=>
  simp only[List.cons_append,List.cons.injEq] at e;rw[<-e.1] at s1;exact h2 (s1.subset (by simp))
theorem JI {L:List Nat}{x y w:Nat}(h:Ux (L++[w]) x y)(hy:y≠w):Ux L x y:=by
 obtain⟨l1,l2,e,s1,s2⟩:=List.sublist_append_iff.1 h
 have hl2:l2=[]:=by
  cases l2 with
  |nil=>rfl
  |cons a l2=>
   have hl:=s2.length_le;simp at hl;subst hl;have ha:a=w:=by simpa using s2
   have:y=a:=by
    have:=congrArg List.getLast? e
    simpa using this
   exact absurd (this.trans ha) hy
 subst hl2;rw[List.append_nil] at e;rw[<-e] at s1;exact s1
theorem Pm {L:List Nat}{x:Nat}(hx:x∈L){l:Nat}(hl:L.getLast? = some l):x=l\/Ux L x l:=by
 obtain⟨L',rfl⟩:=List.getLast?_eq_some_iff.1 hl;rw[List.mem_append] at hx;rcases hx with hx|hx
 . exact .inr (LV hx)
 . exact .inl (by simpa using hx)
theorem Fw.Ns {S:RV}{s:A7}{T:Nat}{z:Int}(h:Fw S s T z){r:Nat}(hx:s.X r)(hr:S.rd r=true):s.D S r:=
 ⟨hx,fun hn=>by have:=(h.note _ _ hn).2.2.2;rw[hr] at this;cases this⟩
theorem Fw.tick {S:RV}{s:A7}{T:Nat}{z:Int}(h:Fw S s T z)(z':Int)(hz:∀i,s.D S i->3<=i->S.cs i≠z'):Fw S s (T+1) z':=
 { h with
  N1:=fun j hj=>Nat.le_succ_of_le (h.N1 j hj)
  now:=fun i hi h3=>⟨fun e=>by have:=h.N1 i hi;omega,fun e=>absurd e (hz i hi h3)⟩ }
def A7.FF (S:RV)(s:A7)(j:Nat):A7:={ s with X:=fun i=>s.X i\/i=j,N:=fun c=>if c=S.ck j then s.N c++[j] else s.N c }
def A7.DE (s:A7)(T j f:Nat):A7:={ s with X:=fun i=>s.X i\/i=j,F:=fun i=>if i=j then f else s.F i,τ:=fun i=>if i=j then T else s.τ i }
def A7.Dh (S:RV)(s:A7)(T j:Nat):A7:={ s with X:=fun i=>s.X i\/i=j,R:=fun p=>if p=S.pl j then s.R p++[j] else s.R p,τ:=fun i=>if i=j then T else s.τ i }
def A7.CZ (S:RV)(s:A7)(T:Nat)(c:Int)(x:Nat)(rest:List Nat):A7:={ s with N:=fun c'=>if c'=c then rest else s.N c',R:=fun p=>if p=S.pl x then s.R p++[x] else s.R p,τ:=fun i=>if i=x then T else s.τ i }
theorem Fw.FF {S:RV}{s:A7}{T:Nat}{z:Int}(h:Fw S s T z){j:Nat}(hn:ja S s j)(hr:S.rd j=false):Fw S (s.FF S j) T z:=by
 have hne:∀i,s.X i->i≠j:=fun i hi e=>hn.new (by rw[<-e];exact hi)
 have Mz:∀c x,x∈(s.FF S j).N c↔x∈s.N c\/(c=S.ck j/\x=j):=by
  intro c x;show x∈(if c=S.ck j then s.N c++[j] else s.N c)↔_;split
  . rename_i e;simp[e]
  . rename_i e;simp[e]
 have hD:∀i,(s.FF S j).D S i↔s.D S i:=by
  intro i;unfold A7.D;rw[Mz];show ((s.X i\/i=j)/\_)↔_;constructor
  ·
   rintro⟨h1|rfl,h2⟩
   . exact⟨h1,fun hm=>h2 (.inl hm)⟩
   . exact absurd (.inr ⟨rfl,rfl⟩) h2
  ·
   rintro⟨h1,h2⟩;refine⟨.inl h1,?_⟩;rintro (hm|⟨_,e⟩)
   . exact h2 hm
   . exact hne i h1 e
 have hsub:∀c p,(s.L S c p).Sublist ((s.FF S j).L S c p):=by
  intro c p;refine List.Sublist.append (List.Sublist.refl _) ?_;show List.Sublist _ ((if c=S.ck j then s.N c++[j] else s.N c).filter _);split
  . rw[List.filter_append];exact List.sublist_append_left _ _
  . exact List.Sublist.refl _
 have hlast:(s.FF S j).L S (S.ck j) (S.pl j)=s.L S (S.ck j) (S.pl j)++[j]:=by
  unfold A7.L A7.FF;simp[List.filter_append]
 have hv:∀i,(s.FF S j).v S i=s.v S i:=fun i=>rfl
 have Zy:s.v S j=j:=by unfold A7.v;rw[hr];rfl
 refine { h with Ie:=fun i hi=>⟨.inl (h.Ie i hi).1,(h.Ie i hi).2⟩,lt:=?_,down:=?_,note:=?_,Oq:=?_,pend:=?_,rows:=?_,N1:=?_,tpos:=?_,same:=?_,Oo:=?_,now:=?_,kept:=?_,src:=?_,LQ:=?_,UJ:=?_,Xn:=?_,Pr:=?_ }
 ·
  rintro i (hi|rfl)
  . exact h.lt i hi
  . exact hn.lt
 ·
  rintro i k (hk|rfl) h3 hik hc
  . exact .inl (h.down i k hk h3 hik hc)
  . exact .inl (hn.all i h3 hik hc)
 ·
  intro c x hx;rcases (Mz c x).1 hx with hx|⟨rfl,rfl⟩
  . exact⟨.inl (h.note c x hx).1,(h.note c x hx).2⟩
  . exact⟨.inr rfl,hn.three,rfl,hr⟩
 ·
  intro c;show (if c=S.ck j then s.N c++[j] else s.N c).Pairwise _;split
  ·
   rename_i e;rw[List.pairwise_append];refine⟨h.Oq c,by simp,fun x hx y hy=>?_⟩;have hy':y=j:=by simpa using hy
   subst hy';have hq:=h.note c x hx;exact hn.last x hq.1 hq.2.1 (by rw[hq.2.2.1,e])
  . exact h.Oq c
 ·
  intro c x k hx hk hxk hc;rcases (Mz c x).1 hx with hx|⟨rfl,rfl⟩
  ·
   rcases hk with hk|rfl
   ·
    rcases h.pend c x k hx hk hxk hc with hp|hp
    . exact .inl hp
    . exact .inr ((Mz c k).2 (.inl hp))
   . exact .inr ((Mz c k).2 (.inr ⟨hc.symm,rfl⟩))
  ·
   rcases hk with hk|rfl
   . have:=hn.last k hk (by have:=hn.three;omega) hc;omega
   . omega
 . intro p x;rw[hD];exact h.rows p x
 . intro i hi;exact h.N1 i ((hD i).1 hi)
 . intro i hi;exact h.tpos i ((hD i).1 hi)
 . intro i k hi hk;exact h.same i k ((hD i).1 hi) ((hD k).1 hk)
 . intro i k hi hk;exact h.Oo i k ((hD i).1 hi) ((hD k).1 hk)
 . intro i hi;exact h.now i ((hD i).1 hi)
 . intro i k hi hk;exact h.kept i k ((hD i).1 hi) ((hD k).1 hk)
 ·
  rintro r (hx|rfl) hrd
  ·
   obtain⟨a,b,c,d⟩:=h.src r hx hrd;exact⟨.inl a,b,c,d.imp id (fun d=>⟨(hD _).2 d.1,d.2⟩)⟩
  . rw[hr] at hrd;cases hrd
 ·
  rintro r w p (hx|rfl) hrd hb
  . exact h.LQ r w p hx hrd hb
  . rw[hr] at hrd;cases hrd
 ·
  rintro i (hi|rfl) h3
  . exact (hsub _ _).subset (h.UJ i hi h3)
  . rw[hlast,hv,Zy];simp
 ·
  rintro i k (hi|rfl) (hk|rfl) h3 hik hc hp
  . exact (h.Xn i k hi hk h3 hik hc hp).imp id (fun hb=>hb.trans (hsub _ _))
  ·
   refine .inr ?_;rw[hc,hp,hlast,hv,hv,Zy,<-hc,<-hp];exact LV (h.UJ i hi h3)
  . have:=hn.last k hk (by omega) hc.symm;omega
  . omega
 ·
  rintro i k (hi|rfl) (hk|rfl) h3 hik hc hp h1 h2
  . exact h.Pr i k hi hk h3 hik hc hp h1 h2
  . exact hne _ (h.src i hi h1).1
  . have:=hn.last k hk (by omega) hc.symm;omega
  . omega
theorem Fw.DE {S:RV}{s:A7}{T:Nat}{z:Int}(h:Fw S s T z)(hT:1<=T){j f:Nat}(hn:ja S s j)(hr:S.rd j=true)(hz:S.cs j=z)(hex:∀x,x∈s.N (S.ck j)->S.ex x j=true)
  (hf:(s.L S (S.ck j) (S.pl j)).getLast? = some f):Fw S (s.DE T j f) T z:=by
 have hne:∀i,s.X i->i≠j:=fun i hi e=>hn.new (by rw[<-e];exact hi)
 have hD:∀i,(s.DE T j f).D S i↔s.D S i\/i=j:=by
  intro i;show ((s.X i\/i=j)/\i∉s.N (S.ck i))↔_;constructor
  ·
   rintro⟨h1|rfl,h2⟩
   . exact .inl ⟨h1,h2⟩
   . exact .inr rfl
  ·
   rintro (⟨h1,h2⟩|rfl)
   . exact⟨.inl h1,h2⟩
   . exact⟨.inr rfl,fun hm=>hn.new (h.note _ _ hm).1⟩
 have hτ:∀i,i≠j->(s.DE T j f).τ i=s.τ i:=fun i hi=>by show (if i=j then T else s.τ i)=_;rw[if_neg hi]
 have Nf:(s.DE T j f).τ j=T:=by show (if j=j then T else s.τ j)=T;rw[if_pos rfl]
 have hF:∀i,i≠j->(s.DE T j f).F i=s.F i:=fun i hi=>by show (if i=j then f else s.F i)=_;rw[if_neg hi]
 have sV:(s.DE T j f).F j=f:=by show (if j=j then f else s.F j)=f;rw[if_pos rfl]
 have hv:∀i,i≠j->(s.DE T j f).v S i=s.v S i:=fun i hi=>by unfold A7.v;rw[hF i hi]
 have Zy:(s.DE T j f).v S j=f:=by unfold A7.v;rw[hr,sV];rfl
 have hfm:f∈s.L S (S.ck j) (S.pl j):=List.mem_of_getLast? hf
 have hfX:s.X f/\S.rd f=false/\S.pl f=S.pl j/\((3<=f/\S.ck f=S.ck j/\f∈s.N (S.ck j))\/s.D S f):=by
  unfold A7.L at hfm;rw[List.mem_append,List.mem_filter] at hfm;rcases hfm with hm|⟨hm,hp⟩
  ·
   obtain⟨a,b,c⟩:=(h.rows _ _).1 hm;exact⟨a.1,b,c,.inr a⟩
  ·
   obtain⟨a,b,c,d⟩:=h.note _ _ hm;exact⟨a,d,by simpa using hp,.inl ⟨b,c,hm⟩⟩
 refine { h with Ie:=fun i hi=>⟨.inl (h.Ie i hi).1,(h.Ie i hi).2.1,(h.Ie i hi).2.2.1,(h.Ie i hi).2.2.2.1,by rw[hτ i (hne i (h.Ie i hi).1)];exact (h.Ie i hi).2.2.2.2.1,(h.Ie i hi).2.2.2.2.2⟩,lt:=?_,down:=?_,note:=?_,pend:=?_,rows:=?_,Qj:=?_,N1:=?_,tpos:=?_,same:=?_,Oo:=?_,now:=?_,kept:=?_,src:=?_,LQ:=?_,UJ:=?_,Xn:=?_,Pr:=?_ }
 ·
  rintro i (hi|rfl)
  . exact h.lt i hi
  . exact hn.lt
 ·
  rintro i k (hk|rfl) h3 hik hc
  . exact .inl (h.down i k hk h3 hik hc)
  . exact .inl (hn.all i h3 hik hc)
 ·
  intro c x hx;exact⟨.inl (h.note c x hx).1,(h.note c x hx).2⟩
 ·
  rintro c x k hx (hk|rfl) hxk hc
  . exact h.pend c x k hx hk hxk hc
  . exact .inl ⟨hr,hex x (by rw[hc];exact hx)⟩
 ·
  intro p x;rw[hD];refine (h.rows p x).trans ⟨fun ⟨a,b⟩=>⟨.inl a,b⟩,fun ⟨a,b⟩=>⟨a.resolve_right (fun e=>?_),b⟩⟩;rw[e,hr] at b;cases b.1
 ·
  intro p;refine (h.Qj p).imp_of_mem (fun {x y} hx hy hxy=>?_);rw[hτ x (hne x ((h.rows p x).1 hx).1.1),hτ y (hne y ((h.rows p y).1 hy).1.1)];exact hxy
 ·
  intro i hi;rcases (hD i).1 hi with hi|rfl
  . rw[hτ i (hne i hi.1)];exact h.N1 i hi
  . rw[Nf];exact Nat.le_refl _
 ·
  intro i hi h3;rcases (hD i).1 hi with hi|rfl
  . rw[hτ i (hne i hi.1)];exact h.tpos i hi h3
  . rw[Nf];exact hT
 ·
  intro i k hi hk h3 h3' e;rcases (hD i).1 hi with ai|rfl<;>rcases (hD k).1 hk with ak|rfl
  . rw[hτ i (hne i ai.1),hτ k (hne k ak.1)] at e;exact h.same i k ai ak h3 h3' e
  . rw[hτ i (hne i ai.1),Nf] at e;rw[hz];exact (h.now i ai h3).1 e
  . rw[hτ k (hne k ak.1),Nf] at e;rw[hz];exact ((h.now k ak h3').1 e.symm).symm
  . rfl
 ·
  intro i k hi hk h3 h3' e;rcases (hD i).1 hi with ai|rfl<;>rcases (hD k).1 hk with ak|rfl
  . rw[hτ i (hne i ai.1),hτ k (hne k ak.1)];exact h.Oo i k ai ak h3 h3' e
  . rw[hτ i (hne i ai.1),Nf];exact (h.now i ai h3).2 (by rw[e,hz])
  . rw[hτ k (hne k ak.1),Nf];exact ((h.now k ak h3').2 (by rw[<-e,hz])).symm
  . rfl
 ·
  intro i hi h3;rcases (hD i).1 hi with hi|rfl
  . rw[hτ i (hne i hi.1)];exact h.now i hi h3
  . rw[Nf,hz];simp
 ·
  intro i k hi hk h3 hik hc hcs hx;rcases (hD i).1 hi with ai|rfl<;>rcases (hD k).1 hk with ak|rfl
  . rw[hτ i (hne i ai.1),hτ k (hne k ak.1)];exact h.kept i k ai ak h3 hik hc hcs hx
  ·
   rw[hτ i (hne i ai.1),Nf];have h1:=h.N1 i ai;have h2:s.τ i≠T:=fun e=>hcs (by rw[hz];exact (h.now i ai h3).1 e)
   omega
  . have:=hn.last k ak.1 (by omega) hc.symm;omega
  . omega
 ·
  rintro r (hx|rfl) hrd
  ·
   rw[hF r (hne r hx),hτ r (hne r hx)];obtain⟨a,b,c,d⟩:=h.src r hx hrd;exact⟨.inl a,b,c,d.imp id (fun d=>⟨(hD _).2 (.inl d.1),by rw[hτ _ (hne _ d.1.1)];exact d.2⟩)⟩
  ·
   rw[sV,Nf];obtain⟨a,b,c,d⟩:=hfX;exact⟨.inl a,b,c,d.imp (fun d=>⟨d.1,d.2.1⟩) (fun d=>⟨(hD _).2 (.inl d),by rw[hτ _ (hne _ a)];exact h.N1 _ d⟩)⟩
 ·
  rintro r w p (hx|rfl) hrd hb
  ·
   rw[hF r (hne r hx)] at hb;have hw:=(h.rows p w).1 (JH hb).2;rw[hτ r (hne r hx),hτ w (hne w hw.1.1)];exact h.LQ r w p hx hrd hb
  ·
   rw[sV] at hb;exfalso;have hm:f∈s.R p:=(JH hb).1;obtain⟨q1,q2,q3⟩:=(h.rows p f).1 hm;have hp:p=S.pl r:=by rw[<-q3];exact hfX.2.2.1
   subst hp
   have he:(s.N (S.ck r)).filter (fun x=>S.pl x==S.pl r)=[]:=by
    apply Classical.byContradiction;intro hne';unfold A7.L at hf
    have hf2:((s.N (S.ck r)).filter (fun x=>S.pl x==S.pl r)).getLast? = some f:=by
     rw[List.getLast?_append] at hf
     cases hq:((s.N (S.ck r)).filter (fun x=>S.pl x==S.pl r)).getLast? with
     |none=>exact absurd (List.getLast?_eq_none_iff.1 hq) hne'
     |some y=>rw[hq] at hf;exact hf
    have:=List.mem_of_getLast? hf2;rw[List.mem_filter] at this;have hq:=h.note _ _ this.1;exact q1.2 (by rw[hq.2.2.1];exact this.1)
   unfold A7.L at hf;rw[he,List.append_nil] at hf;obtain⟨L',e⟩:=List.getLast?_eq_some_iff.1 hf;have hnd:=h.J3 (S.pl r);change Ux (s.R (S.pl r)) f w at hb;rw[e] at hb hnd;exact VW hnd hb
 ·
  rintro i (hi|rfl) h3
  . rw[hv i (hne i hi)];exact h.UJ i hi h3
  . rw[Zy];exact hfm
 ·
  rintro i k (hi|rfl) (hk|rfl) h3 hik hc hp
  . rw[hv i (hne i hi),hv k (hne k hk)];exact h.Xn i k hi hk h3 hik hc hp
  ·
   rw[hv i (hne i hi),Zy];have hm:=h.UJ i hi h3;rw[hc,hp] at hm ⊢;exact Pm hm hf
  . have:=hn.last k hk (by omega) hc.symm;omega
  . omega
 ·
  rintro i k (hi|rfl) (hk|rfl) h3 hik hc hp h1 h2
  . rw[hF i (hne i hi)];exact h.Pr i k hi hk h3 hik hc hp h1 h2
  . rw[hr] at h2;cases h2
  . have:=hn.last k hk (by omega) hc.symm;omega
  . omega
theorem Fw.Dh {S:RV}{s:A7}{T:Nat}{z:Int}(h:Fw S s T z)(hT:1<=T){j:Nat}(hn:ja S s j)(hr:S.rd j=false)(hz:S.cs j=z)(hN:s.N (S.ck j)=[]):Fw S (s.Dh S T j) T z:=by
 have hne:∀i,s.X i->i≠j:=fun i hi e=>hn.new (by rw[<-e];exact hi)
 have hD:∀i,(s.Dh S T j).D S i↔s.D S i\/i=j:=by
  intro i;show ((s.X i\/i=j)/\i∉s.N (S.ck i))↔_;constructor
  ·
   rintro⟨h1|rfl,h2⟩
   . exact .inl ⟨h1,h2⟩
   . exact .inr rfl
  ·
   rintro (⟨h1,h2⟩|rfl)
   . exact⟨.inl h1,h2⟩
   . exact⟨.inr rfl,fun hm=>hn.new (h.note _ _ hm).1⟩
 have hτ:∀i,i≠j->(s.Dh S T j).τ i=s.τ i:=fun i hi=>by show (if i=j then T else s.τ i)=_;rw[if_neg hi]
 have Nf:(s.Dh S T j).τ j=T:=by show (if j=j then T else s.τ j)=T;rw[if_pos rfl]
 have hR:∀p,(s.Dh S T j).R p=if p=S.pl j then s.R p++[j] else s.R p:=fun p=>rfl
 have hv:∀i,(s.Dh S T j).v S i=s.v S i:=fun i=>rfl
 have Zy:s.v S j=j:=by unfold A7.v;rw[hr];rfl
 have hjR:∀p,j∉s.R p:=fun p hm=>hn.new ((h.rows p j).1 hm).1.1
 have hRs:∀p,(s.R p).Sublist ((s.Dh S T j).R p):=fun p=>by
  rw[hR];split
  . exact List.sublist_append_left _ _
  . exact List.Sublist.refl _
 have hsub:∀c p,(s.L S c p).Sublist ((s.Dh S T j).L S c p):=fun c p=>List.Sublist.append (hRs p) (List.Sublist.refl _)
 have hlast:(s.Dh S T j).L S (S.ck j) (S.pl j)=s.L S (S.ck j) (S.pl j)++[j]:=by
  unfold A7.L;rw[hR,if_pos rfl];show s.R (S.pl j)++[j]++(s.N (S.ck j)).filter _=s.R (S.pl j)++(s.N (S.ck j)).filter _++[j];rw[hN];simp
 refine { h with Ie:=fun i hi=>⟨.inl (h.Ie i hi).1,(h.Ie i hi).2.1,(h.Ie i hi).2.2.1,(h.Ie i hi).2.2.2.1,by rw[hτ i (hne i (h.Ie i hi).1)];exact (h.Ie i hi).2.2.2.2.1,(h.Ie i hi).2.2.2.2.2⟩,lt:=?_,down:=?_,note:=?_,pend:=?_,rows:=?_,J3:=?_,Qj:=?_,N1:=?_,tpos:=?_,same:=?_,Oo:=?_,now:=?_,kept:=?_,src:=?_,LQ:=?_,UJ:=?_,Xn:=?_,Pr:=?_ }
 ·
  rintro i (hi|rfl)
  . exact h.lt i hi
  . exact hn.lt
 ·
  rintro i k (hk|rfl) h3 hik hc
  . exact .inl (h.down i k hk h3 hik hc)
  . exact .inl (hn.all i h3 hik hc)
 ·
  intro c x hx;exact⟨.inl (h.note c x hx).1,(h.note c x hx).2⟩
 ·
  rintro c x k hx (hk|rfl) hxk hc
  . exact h.pend c x k hx hk hxk hc
  ·
   change x∈s.N c at hx;rw[<-hc,hN] at hx;cases hx
 ·
  intro p x;rw[hD,hR];by_cases hp:p=S.pl j
  ·
   rw[if_pos hp,List.mem_append,h.rows p x];constructor
   ·
    rintro (⟨a,b⟩|hx)
    . exact⟨.inl a,b⟩
    ·
     have e:x=j:=by simpa using hx
     exact⟨.inr e,by rw[e];exact hr,by rw[e,hp]⟩
   ·
    rintro⟨a|rfl,b⟩
    . exact .inl ⟨a,b⟩
    . exact .inr (by simp)
  ·
   rw[if_neg hp,h.rows p x];constructor
   . rintro⟨a,b⟩;exact⟨.inl a,b⟩
   ·
    rintro⟨a|rfl,b⟩
    . exact⟨a,b⟩
    . exact absurd b.2.symm hp
 ·
  intro p;rw[hR];split
  ·
   rw[List.nodup_append];refine⟨h.J3 p,by simp,fun x hx y hy e=>?_⟩;have:y=j:=by simpa using hy
   exact hjR p (by rw[<-this,<-e];exact hx)
  . exact h.J3 p
 ·
  intro p
  have old:(s.R p).Pairwise (fun x y=>(s.Dh S T j).τ x<=(s.Dh S T j).τ y):=(h.Qj p).imp_of_mem (fun {x y} hx hy hxy=>by
   rw[hτ x (hne x ((h.rows p x).1 hx).1.1),hτ y (hne y ((h.rows p y).1 hy).1.1)]
   exact hxy)
  rw[hR];split
  ·
   rw[List.pairwise_append];refine⟨old,by simp,fun x hx y hy=>?_⟩;have:y=j:=by simpa using hy
   have hx':=((h.rows p x).1 hx).1;rw[this,Nf,hτ x (hne x hx'.1)];exact h.N1 x hx'
  . exact old
 ·
  intro i hi;rcases (hD i).1 hi with ai|rfl
  . rw[hτ i (hne i ai.1)];exact h.N1 i ai
  . rw[Nf];exact Nat.le_refl _
 ·
  intro i hi h3;rcases (hD i).1 hi with ai|rfl
  . rw[hτ i (hne i ai.1)];exact h.tpos i ai h3
  . rw[Nf];exact hT
 ·
  intro i k hi hk h3 h3' e;rcases (hD i).1 hi with ai|rfl<;>rcases (hD k).1 hk with ak|rfl
  . rw[hτ i (hne i ai.1),hτ k (hne k ak.1)] at e;exact h.same i k ai ak h3 h3' e
  . rw[hτ i (hne i ai.1),Nf] at e;rw[hz];exact (h.now i ai h3).1 e
  . rw[hτ k (hne k ak.1),Nf] at e;rw[hz];exact ((h.now k ak h3').1 e.symm).symm
  . rfl
 ·
  intro i k hi hk h3 h3' e;rcases (hD i).1 hi with ai|rfl<;>rcases (hD k).1 hk with ak|rfl
  . rw[hτ i (hne i ai.1),hτ k (hne k ak.1)];exact h.Oo i k ai ak h3 h3' e
  . rw[hτ i (hne i ai.1),Nf];exact (h.now i ai h3).2 (by rw[e,hz])
  . rw[hτ k (hne k ak.1),Nf];exact ((h.now k ak h3').2 (by rw[<-e,hz])).symm
  . rfl
 ·
  intro i hi h3;rcases (hD i).1 hi with ai|rfl
  . rw[hτ i (hne i ai.1)];exact h.now i ai h3
  . rw[Nf,hz];simp
 ·
  intro i k hi hk h3 hik hc hcs hx;rcases (hD i).1 hi with ai|rfl<;>rcases (hD k).1 hk with ak|rfl
  . rw[hτ i (hne i ai.1),hτ k (hne k ak.1)];exact h.kept i k ai ak h3 hik hc hcs hx
  ·
   rw[hτ i (hne i ai.1),Nf];have h1:=h.N1 i ai;have h2:s.τ i≠T:=fun e=>hcs (by rw[hz];exact (h.now i ai h3).1 e)
   omega
  . have:=hn.last k ak.1 (by omega) hc.symm;omega
  . omega
 ·
  rintro r (hx|rfl) hrd
  ·
   rw[hτ r (hne r hx)];obtain⟨a,b,c,d⟩:=h.src r hx hrd;exact⟨.inl a,b,c,d.imp id (fun d=>⟨(hD _).2 (.inl d.1),by show (s.Dh S T j).τ (s.F r)<=_;rw[hτ _ (hne _ d.1.1)];exact d.2⟩)⟩
  . rw[hr] at hrd;cases hrd
 ·
  rintro r w p (hx|rfl) hrd hb
  ·
   rw[hτ r (hne r hx)];by_cases hw:w=j
   . rw[hw,Nf];exact h.N1 r (h.Ns hx hrd)
   ·
    rw[hτ w hw];rw[hR] at hb;by_cases hp:p=S.pl j
    ·
     rw[if_pos hp] at hb;exact h.LQ r w p hx hrd (JI hb hw)
    ·
     rw[if_neg hp] at hb;exact h.LQ r w p hx hrd hb
  . rw[hr] at hrd;cases hrd
 ·
  rintro i (hi|rfl) h3
  . exact (hsub _ _).subset (h.UJ i hi h3)
  . rw[hlast,hv,Zy];simp
 ·
  rintro i k (hi|rfl) (hk|rfl) h3 hik hc hp
  . exact (h.Xn i k hi hk h3 hik hc hp).imp id (fun hb=>hb.trans (hsub _ _))
  ·
   refine .inr ?_;rw[hc,hp,hlast,hv,hv,Zy,<-hc,<-hp];exact LV (h.UJ i hi h3)
  . have:=hn.last k hk (by omega) hc.symm;omega
  . omega
 ·
  rintro i k (hi|rfl) (hk|rfl) h3 hik hc hp h1 h2
  . exact h.Pr i k hi hk h3 hik hc hp h1 h2
  . exact hne _ (h.src i hi h1).1
  . have:=hn.last k hk (by omega) hc.symm;omega
  . omega
theorem Fw.CZ {S:RV}{s:A7}{T:Nat}{z:Int}(h:Fw S s T z)(hT:1<=T){c:Int}{x:Nat}{rest:List Nat}(hN:s.N c=x::rest)(hz:S.cs x=z):Fw S (s.CZ S T c x rest) T z:=by
 have hx0:=h.note c x (by rw[hN];simp);obtain⟨hxX,hx3,hxc,mD⟩:=hx0;have Y2:=h.Oq c;rw[hN,List.pairwise_cons] at Y2;have fO:x∉rest:=fun hm=>by have:=Y2.1 x hm;omega
 have yZ:x∈s.N (S.ck x):=by rw[hxc,hN];simp
 have yY:¬s.D S x:=fun hd=>hd.2 yZ
 have hne:∀i,s.D S i->i≠x:=fun i hi e=>yY (by rw[<-e];exact hi)
 have Mz:∀c' y,y∈(s.CZ S T c x rest).N c'↔y∈s.N c'/\¬(c'=c/\y=x):=by
  intro c' y;show y∈(if c'=c then rest else s.N c')↔_;by_cases e:c'=c
  ·
   subst e;rw[if_pos rfl,hN];constructor
   ·
    intro hm;exact⟨List.mem_cons_of_mem _ hm,fun hq=>fO (by rw[<-hq.2];exact hm)⟩
   ·
    rintro⟨hm,hq⟩;rcases List.mem_cons.1 hm with rfl|hm
    . exact absurd ⟨rfl,rfl⟩ hq
    . exact hm
  ·
   rw[if_neg e];exact⟨fun hm=>⟨hm,fun hq=>e hq.1⟩,fun hm=>hm.1⟩
 have hD:∀i,(s.CZ S T c x rest).D S i↔s.D S i\/i=x:=by
  intro i;unfold A7.D;rw[Mz];show (s.X i/\_)↔_;constructor
  ·
   rintro⟨h1,h2⟩;by_cases e:i=x
   . exact .inr e
   . exact .inl ⟨h1,fun hm=>h2 ⟨hm,fun hq=>e hq.2⟩⟩
  ·
   rintro (⟨h1,h2⟩|rfl)
   . exact⟨h1,fun hm=>h2 hm.1⟩
   . exact⟨hxX,fun hm=>hm.2 ⟨hxc,rfl⟩⟩
 have hτ:∀i,i≠x->(s.CZ S T c x rest).τ i=s.τ i:=fun i hi=>by show (if i=x then T else s.τ i)=_;rw[if_neg hi]
 have Xs:(s.CZ S T c x rest).τ x=T:=by show (if x=x then T else s.τ x)=T;rw[if_pos rfl]
 have hR:∀p,(s.CZ S T c x rest).R p=if p=S.pl x then s.R p++[x] else s.R p:=fun p=>rfl
 have hxR:∀p,x∉s.R p:=fun p hm=>yY ((h.rows p x).1 hm).1
 have hRs:∀p,(s.R p).Sublist ((s.CZ S T c x rest).R p):=fun p=>by
  rw[hR];split
  . exact List.sublist_append_left _ _
  . exact List.Sublist.refl _
 have l6:∀r,S.rd r=true->r≠x:=fun r hr e=>by rw[e,mD] at hr;cases hr
 have hsub:∀c' p,(s.L S c' p).Sublist ((s.CZ S T c x rest).L S c' p):=by
  intro c' p;by_cases e:c'=c
  ·
   subst e
   have:(s.CZ S T c' x rest).L S c' p=s.L S c' p:=by
    unfold A7.L;rw[hR];show _++(if c'=c' then rest else s.N c').filter _=_;rw[if_pos rfl,hN];by_cases hp:p=S.pl x
    ·
     rw[if_pos hp,List.filter_cons_of_pos (by simp[hp]),List.append_assoc];rfl
    . rw[if_neg hp,List.filter_cons_of_neg (by simp;exact fun e=>hp e.symm)]
   rw[this];exact List.Sublist.refl _
  ·
   refine List.Sublist.append (hRs p) ?_;show List.Sublist _ ((if c'=c then rest else s.N c').filter _);rw[if_neg e];exact List.Sublist.refl _
 refine { h with Ie:=fun i hi=>⟨(h.Ie i hi).1,(h.Ie i hi).2.1,(h.Ie i hi).2.2.1,(h.Ie i hi).2.2.2.1,by rw[hτ i (by omega)];exact (h.Ie i hi).2.2.2.2.1,(h.Ie i hi).2.2.2.2.2⟩,note:=?_,Oq:=?_,pend:=?_,rows:=?_,J3:=?_,Qj:=?_,N1:=?_,tpos:=?_,same:=?_,Oo:=?_,now:=?_,kept:=?_,src:=?_,LQ:=?_,UJ:=?_,Xn:=?_ }
 ·
  intro c' y hy;exact h.note c' y ((Mz c' y).1 hy).1
 ·
  intro c';show (if c'=c then rest else s.N c').Pairwise _;split
  . exact Y2.2
  . exact h.Oq c'
 ·
  intro c' y k hy hk hyk hc;obtain⟨hy1,hy2⟩:=(Mz c' y).1 hy;rcases h.pend c' y k hy1 hk hyk hc with hp|hp
  . exact .inl hp
  ·
   refine .inr ((Mz c' k).2 ⟨hp,?_⟩);rintro⟨rfl,rfl⟩;rw[hN] at hy1;rcases List.mem_cons.1 hy1 with rfl|hm
   . exact hy2 ⟨rfl,rfl⟩
   . have:=Y2.1 y hm;omega
 ·
  intro p y;rw[hD,hR];by_cases hp:p=S.pl x
  ·
   rw[if_pos hp,List.mem_append,h.rows p y];constructor
   ·
    rintro (⟨a,b⟩|hy)
    . exact⟨.inl a,b⟩
    ·
     have e:y=x:=by simpa using hy
     exact⟨.inr e,by rw[e];exact mD,by rw[e,hp]⟩
   ·
    rintro⟨a|rfl,b⟩
    . exact .inl ⟨a,b⟩
    . exact .inr (by simp)
  ·
   rw[if_neg hp,h.rows p y];constructor
   . rintro⟨a,b⟩;exact⟨.inl a,b⟩
   ·
    rintro⟨a|rfl,b⟩
    . exact⟨a,b⟩
    . exact absurd b.2.symm hp
 ·
  intro p;rw[hR];split
  ·
   rw[List.nodup_append];refine⟨h.J3 p,by simp,fun y hy w hw e=>?_⟩;have:w=x:=by simpa using hw
   exact hxR p (by rw[<-this,<-e];exact hy)
  . exact h.J3 p
 ·
  intro p
  have old:(s.R p).Pairwise (fun y w=>(s.CZ S T c x rest).τ y<=(s.CZ S T c x rest).τ w):=(h.Qj p).imp_of_mem (fun {y w} hy hw hyw=>by
   rw[hτ y (hne y ((h.rows p y).1 hy).1),hτ w (hne w ((h.rows p w).1 hw).1)]
   exact hyw)
  rw[hR];split
  ·
   rw[List.pairwise_append];refine⟨old,by simp,fun y hy w hw=>?_⟩;have:w=x:=by simpa using hw
   have hy':=((h.rows p y).1 hy).1;rw[this,Xs,hτ y (hne y hy')];exact h.N1 y hy'
  . exact old
 ·
  intro i hi;rcases (hD i).1 hi with ai|rfl
  . rw[hτ i (hne i ai)];exact h.N1 i ai
  . rw[Xs];exact Nat.le_refl _
 ·
  intro i hi h3;rcases (hD i).1 hi with ai|rfl
  . rw[hτ i (hne i ai)];exact h.tpos i ai h3
  . rw[Xs];exact hT
 ·
  intro i k hi hk h3 h3' e;rcases (hD i).1 hi with ai|rfl<;>rcases (hD k).1 hk with ak|rfl
  . rw[hτ i (hne i ai),hτ k (hne k ak)] at e;exact h.same i k ai ak h3 h3' e
  . rw[hτ i (hne i ai),Xs] at e;rw[hz];exact (h.now i ai h3).1 e
  . rw[hτ k (hne k ak),Xs] at e;rw[hz];exact ((h.now k ak h3').1 e.symm).symm
  . rfl
 ·
  intro i k hi hk h3 h3' e;rcases (hD i).1 hi with ai|rfl<;>rcases (hD k).1 hk with ak|rfl
  . rw[hτ i (hne i ai),hτ k (hne k ak)];exact h.Oo i k ai ak h3 h3' e
  . rw[hτ i (hne i ai),Xs];exact (h.now i ai h3).2 (by rw[e,hz])
  . rw[hτ k (hne k ak),Xs];exact ((h.now k ak h3').2 (by rw[<-e,hz])).symm
  . rfl
 ·
  intro i hi h3;rcases (hD i).1 hi with ai|rfl
  . rw[hτ i (hne i ai)];exact h.now i ai h3
  . rw[Xs,hz];simp
 ·
  intro i k hi hk h3 hik hc hcs hx;rcases (hD i).1 hi with ai|rfl<;>rcases (hD k).1 hk with ak|rfl
  . rw[hτ i (hne i ai),hτ k (hne k ak)];exact h.kept i k ai ak h3 hik hc hcs hx
  ·
   rw[hτ i (hne i ai),Xs];have h1:=h.N1 i ai;have h2:s.τ i≠T:=fun e=>hcs (by rw[hz];exact (h.now i ai h3).1 e)
   omega
  ·
   rcases h.pend _ _ _ yZ ak.1 hik hc.symm with hp|hp
   . rw[hx] at hp;cases hp.2
   . exact absurd (by rw[<-hc];exact hp) ak.2
  . omega
 ·
  intro r hx hrd;rw[hτ r (l6 r hrd)];obtain⟨a,b,e,d⟩:=h.src r hx hrd;exact⟨a,b,e,d.imp id (fun d=>⟨(hD _).2 (.inl d.1),by show (s.CZ S T c x rest).τ (s.F r)<=_;rw[hτ _ (hne _ d.1)];exact d.2⟩)⟩
 ·
  intro r w p hx hrd hb;rw[hτ r (l6 r hrd)];by_cases hw:w=x
  . rw[hw,Xs];exact h.N1 r (h.Ns hx hrd)
  ·
   rw[hτ w hw];rw[hR] at hb;by_cases hp:p=S.pl x
   ·
    rw[if_pos hp] at hb;exact h.LQ r w p hx hrd (JI hb hw)
   ·
    rw[if_neg hp] at hb;exact h.LQ r w p hx hrd hb
 ·
  intro i hi h3;exact (hsub _ _).subset (h.UJ i hi h3)
 ·
  intro i k hi hk h3 hik hc hp;exact (h.Xn i k hi hk h3 hik hc hp).imp id (fun hb=>hb.trans (hsub _ _))
structure Ab where
 nx:Nat->Nat
 N:Nat->List Nat
 R:Nat->List Nat
 F:Nat->Nat
def Au (AA:List (List Dd)):RV:=
 { n:=(AB AA).length,ck:=fun j=>((AB AA).getD j zE).1,pl:=fun j=>((AB AA).getD j zE).2.2.2.1.toNat,rd:=fun j=>((AB AA).getD j zE).2.2.1,cs:=fun j=>Vu ((AB AA).getD j zE),ex:=UM AA (AB AA) }
def FH (AA:List (List Dd))(a:Ab)(j:Nat):Bool:=decide (j<3)||decide (((AB AA).getD j zE).2.1.toNat<a.nx ((AB AA).getD j zE).1.toNat)
def Eh (AA:List (List Dd))(a:Ab)(τ:Nat->Nat):A7:=
 { X:=fun j=>j<(AB AA).length/\FH AA a j=true,N:=fun c=>if 0<=c then a.N c.toNat else [],R:=a.R,F:=a.F,τ:=τ }
abbrev Jh (AA:List (List Dd))(x:Nat):Int:=((AB AA).getD x zE).2.2.2.2.1
abbrev Xv (AA:List (List Dd))(x:Nat):Int:=((AB AA).getD x zE).2.2.2.1
def Wj (AA:List (List Dd))(x:Nat):Nt:=(Xv AA x,Jh AA x,(x:Int))
def CO (a:Ab)(p:Nat):Nat:=(a.R p).getLast?.getD p
structure iT (AA:List (List Dd))(b:Bd)(a:Ab):Prop where
 AL:b.AL=(List.range AA.length).map (fun c=>(a.nx c:Int))
 AH:b.AH=(List.range AA.length).map (fun c=>(a.N c).map (Wj AA))
 rws:b.rws=(List.range 3).map (fun p=>(a.R p).map Int.ofNat)
 AQ:b.AQ=(List.range 3).map (fun p=>(CO a p:Int))
 AM:b.AM=(List.range 3).map (fun p=>Jh AA (CO a p))
 fr:b.fr=(AX Aj (AB AA)).map (fun r=>if FH AA a r.toNat=true then (a.F r.toNat:Int) else -1)
 sn:b.sn=(AX Aj (AB AA)).map (fun r=>if FH AA a r.toNat=true then Jh AA (a.F r.toNat) else -1)
theorem DN {α:Type}(f:Nat->α)(m c:Nat)(y:α):((List.range m).map f).set c y=(List.range m).map (fun i=>if i=c then y else f i):=by
 apply List.ext_getElem?;intro i;rw[List.getElem?_set];simp only[List.length_map,List.length_range,List.getElem?_map];by_cases hi:i<m
 ·
  rw[List.getElem?_range hi];by_cases e:c=i
  . subst e;simp[hi]
  . rw[if_neg e];simp[show ¬i=c from fun h=>e h.symm]
 ·
  have:(List.range m)[i]? = none:=List.getElem?_eq_none (by simp;omega);rw[this];by_cases e:c=i
  . subst e;simp[hi]
  . rw[if_neg e];rfl
theorem Gd {α:Type}(f:Nat->α){m c:Nat}(z:α)(hc:c<m):((List.range m).map f).getD c z=f c:=by
 rw[List.getD_eq_getElem?_getD,List.getElem?_map,List.getElem?_range hc];rfl
theorem Je (rs:List Int)(ev v:Int)(g:Int->Int):Gx rs ev v (rs.map g)=rs.map (fun r=>if r=ev then v else g r):=by
 unfold Gx
 induction rs with
 |nil=>rfl
 |cons r rs ih=>rw[List.map_cons,List.zipWith_cons_cons,ih,List.map_cons]
theorem ED {AA:List (List Dd)}(hb:AW AA=true){j c k i:Nat}(E:Dv AA j c k i):(Au AA).ck j=(c:Int)/\(Au AA).pl j=(An AA c k).2.1.toNat/\(Au AA).rd j=Ke (An AA c k) i/\(Au AA).cs j=DZ AA c k:=by
 unfold Au Vu;simp only;rw[E.at hb];exact⟨rfl,rfl,rfl,rfl⟩
theorem Lk {AA:List (List Dd)}(hb:AW AA=true){j c k i:Nat}(E:Dv AA j c k i)(a:Ab):FH AA a j=decide (k<a.nx c):=by
 unfold FH;rw[E.at hb];have:=(E.lt hb).1;simp[show ¬j<3 by omega]
def BS (a:Ab)(c:Nat):Ab:={ a with nx:=fun c'=>if c'=c then a.nx c+1 else a.nx c' }
theorem EG {AA:List (List Dd)}(hb:AW AA=true)(a:Ab){c:Nat}(hc:c<AA.length)(hk:a.nx c<(AA.getD c []).length){j:Nat}(hj:j<(AB AA).length):
  FH AA (BS a c) j=true↔FH AA a j=true\/∃i,Dv AA j c (a.nx c) i:=by
 by_cases h3:j<3
 ·
  have e1:FH AA a j=true:=by unfold FH;simp[h3]
  have e2:FH AA (BS a c) j=true:=by unfold FH;simp[h3]
  simp[e1,e2]
 ·
  obtain⟨c',k',i',E⟩:=He hb (by omega) hj;rw[Lk hb E,Lk hb E,decide_eq_true_eq,decide_eq_true_eq];show (k'<if c'=c then a.nx c+1 else a.nx c')↔_;by_cases e:c'=c
  ·
   subst e;rw[if_pos rfl];constructor
   ·
    intro h;by_cases h2:k'<a.nx c'
    . exact .inl h2
    ·
     obtain rfl:k'=a.nx c':=by omega
     exact .inr ⟨i',E⟩
   ·
    rintro (h|⟨i,E2⟩)
    . omega
    . have:=(E.one E2).2.1;omega
  ·
   rw[if_neg e];refine⟨fun h => .inl h,?_⟩;rintro (h|⟨i,E2⟩)
   . exact h
   . exact absurd (E.one E2).1 e
theorem Cv {AA:List (List Dd)}{c k:Nat}(hc:c<AA.length)(hk:k<(AA.getD c []).length)(h4:(An AA c k).1≠4):Dv AA (Ag AA c k) c k 0:=⟨hc,hk,JZ h4,rfl⟩
theorem Jq {AA:List (List Dd)}{c k:Nat}(hc:c<AA.length)(hk:k<(AA.getD c []).length)(h3:(An AA c k).1=3):Dv AA (Ag AA c k+1) c k 1:=⟨hc,hk,by unfold FO;rw[if_neg (by omega),if_pos h3];omega,rfl⟩
theorem Kn {AA:List (List Dd)}{c k j i:Nat}(E:Dv AA j c k i)(h3:(An AA c k).1≠3):j=Ag AA c k/\i=0:=by
 have h1:=E.hi;have h2:=E.hj;unfold FO at h1;rw[if_neg E.kind,if_neg h3] at h1;omega
theorem II {AA:List (List Dd)}(hb:AW AA=true)(a:Ab)(τ:Nat->Nat){c:Nat}(hc:c<AA.length)(hk:a.nx c<(AA.getD c []).length)(h4:(An AA c (a.nx c)).1≠4):ja (Au AA) (Eh AA a τ) (Ag AA c (a.nx c)):=by
 have E:=Cv hc hk h4;have hl:=E.lt hb;refine⟨hl.1,hl.2,?_,?_,?_⟩
 ·
  rintro⟨_,h⟩;rw[Lk hb E,decide_eq_true_eq] at h;omega
 ·
  intro i h3 hi hck;have hin:i<(AB AA).length:=by omega
  obtain⟨c',k',i',E'⟩:=He hb h3 hin;rw[(ED hb E').1,(ED hb E).1] at hck;obtain rfl:c'=c:=by omega
  refine⟨hin,?_⟩;rw[Lk hb E',decide_eq_true_eq];rcases (E'.ord E).1 hi with h|⟨_,h|⟨_,h⟩⟩<;>omega
 ·
  rintro i ⟨hin,hX⟩ h3 hck;obtain⟨c',k',i',E'⟩:=He hb h3 hin;rw[(ED hb E').1,(ED hb E).1] at hck;obtain rfl:c'=c:=by omega
  rw[Lk hb E',decide_eq_true_eq] at hX;exact (E'.ord E).2 (.inr ⟨rfl,.inl hX⟩)
theorem Ip {AA:List (List Dd)}(hb:AW AA=true){c k:Nat}(hc:c<AA.length)(hk:k<(AA.getD c []).length)(h4:(An AA c k).1≠4):JB (AB AA) c k=(Ag AA c k:Int):=by
 have E:=Cv hc hk h4;have hl:=E.lt hb
 have hx:(List.range (AB AA).length).find? (fun i=>decide (3<=i)&&(((AB AA).getD i zE).1==(c:Int))&&(((AB AA).getD i zE).2.1==(k:Int)))=some (Ag AA c k):=by
  rw[List.find?_range_eq_some];refine⟨?_,by simpa using hl.2,?_⟩
  ·
   rw[E.at hb];simp[hl.1]
  ·
   intro j hj;by_cases h3:3<=j
   ·
    obtain⟨c',k',i',E'⟩:=He hb h3 (by omega);rw[E'.at hb];simp only[h3,decide_true,Bool.true_and,Bool.not_eq_true',Bool.and_eq_false_iff,beq_eq_false_iff_ne,ne_eq];rcases (E'.ord E).1 hj with h|⟨_,h|⟨_,h⟩⟩
    . exact .inl (by omega)
    . exact .inr (by omega)
    . omega
   . simp[h3]
 unfold JB;rw[hx]
end Go.Proofs.YtgakfkjjkobpiaaGreat
