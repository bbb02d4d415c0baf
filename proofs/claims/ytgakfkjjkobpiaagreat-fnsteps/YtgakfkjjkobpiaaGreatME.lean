/- Gathered texts. -/
import Derived.Test.YtgakfkjjkobpiaaGreatMD
set_option maxRecDepth 100000
set_option maxHeartbeats 8000000
namespace Go.Proofs.YtgakfkjjkobpiaaGreat
open Go.ChangeShapes Go.WideShapes Go.ChangeAt Go.RowKit
open Go.RowKit
theorem Od {AA:List (List Dd)}{a:Ab}{τ:Nat->Nat}{T:Nat}{z:Int}{b:Bd}(hb:AW AA=true)(h:M7 AA a τ T z b)(p q:Nat):((a.R q).map Int.ofNat).filter (fun x=>Xu (AB AA) x==(p:Int))=if q=p then (a.R q).map Int.ofNat else []:=by
 have hq:∀x,x∈(a.R q).map Int.ofNat->Xu (AB AA) x=(q:Int):=by
  intro x hx;obtain⟨y,hy,rfl⟩:=List.mem_map.1 hx;obtain⟨q1,q2,q3⟩:=(h.inv.rows q y).1 hy;have p1:=GG hb (h.inv.lt y q1.1);have q3':((AB AA).getD y zE).2.2.2.1.toNat=q:=q3;show ((AB AA).getD ((y:Int)).toNat zE).2.2.2.1=_;rw[Int.toNat_natCast];omega
 split
 ·
  rename_i e;rw[List.filter_eq_self];intro x hx;rw[hq x hx,e];simp
 ·
  rename_i e;rw[List.filter_eq_nil_iff];intro x hx;rw[hq x hx];simp;omega
theorem ZP {AA:List (List Dd)}{a:Ab}{τ:Nat->Nat}{T:Nat}{z:Int}{b:Bd}(hb:AW AA=true)(h:M7 AA a τ T z b)(W:YI (AB AA) b.fr (Gl b)){x y:Nat}(hx:x<(AB AA).length)(hl:Ap (Tc (AB AA) (Gl b)) x y=true):
  Ux (a.R ((Au AA).pl x)) x y:=by
 obtain⟨i,q,hi,hq,hp,e1,e2⟩:=(W.rwl x y hx).1 hl;unfold Z8 at hp;simp only[Bool.and_eq_true,decide_eq_true_eq,beq_iff_eq] at hp;have hs:=Sb hp.1 hq
 have px:Xu (AB AA) ((Gl b).getD i 0)=(((Au AA).pl x:Nat):Int):=by
  rw[e1];have:=GG hb hx;show ((AB AA).getD ((x:Int)).toNat zE).2.2.2.1=((((AB AA).getD x zE).2.2.2.1.toNat:Nat):Int);rw[Int.toNat_natCast];omega
 have hf:=hs.filter (fun u=>Xu (AB AA) u==(((Au AA).pl x:Nat):Int));rw[List.filter_cons_of_pos (by rw[px];simp),List.filter_cons_of_pos (by rw[<-hp.2,px];simp),List.filter_nil,e1,e2,h.Z7,List.filter_append,List.filter_append,Od hb h,Od hb h,Od hb h] at hf
 have hp3:(Au AA).pl x<3:=by
  have:=GG hb hx;show ((AB AA).getD x zE).2.2.2.1.toNat<3;omega
 have key:[(x:Int),(y:Int)].Sublist ((a.R ((Au AA).pl x)).map Int.ofNat):=by
  rcases (by omega:(Au AA).pl x=0\/(Au AA).pl x=1\/(Au AA).pl x=2) with e|e|e<;>(rw[e] at hf ⊢;simpa using hf)
 have h2:=key.map Int.toNat;simp only[List.map_cons,List.map_nil,Int.toNat_natCast,List.map_map] at h2
 have e3:(a.R ((Au AA).pl x)).map (Int.toNat ∘ Int.ofNat)=a.R ((Au AA).pl x):=by
  have:(Int.toNat ∘ Int.ofNat)=id:=by funext u;simp
  rw[this,List.map_id]
 rw[e3] at h2;exact h2
theorem M7.uq {AA:List (List Dd)}{a:Ab}{τ:Nat->Nat}{T:Nat}{z:Int}{b:Bd}(hb:AW AA=true)(h:M7 AA a τ T z b):Qt AA b.fr (Gl b)=true:=by
 unfold Qt PD XA;rw[hb,h.src hb,h.rows hb];rfl
def Ht (AA:List (List Dd))(a:Ab)(x:Nat):Nat:=(a.R ((Au AA).pl x)).idxOf x
def QH (AA:List (List Dd))(a:Ab)(i:Nat):Nat:=if (Au AA).rd i=true then 2*Ht AA a (a.F i)+1 else 2*Ht AA a i
theorem fT {n k k' i j:Nat}(hi:i<n)(h:k<k'\/(k=k'/\i<j)):k*n+i<k'*n+j:=by
 rcases h with h|⟨rfl,h⟩
 ·
  have:=Nat.mul_le_mul_right n h;rw[Nat.succ_mul] at this;omega
 . omega
theorem M7.each {AA:List (List Dd)}{a:Ab}{τ:Nat->Nat}{T:Nat}{z:Int}{b:Bd}(hb:AW AA=true)(h:M7 AA a τ T z b):MV (uV (AB AA) b.fr (Gl b))=false:=by
 have W:=ZV (h.uq hb);have hx:=W.twelve
 have hpos:∀ {p x y:Nat},(Au AA).pl x=p->(Au AA).pl y=p->Ux (a.R p) x y->Ht AA a x<Ht AA a y:=by
  intro p x y e1 e2 hB;unfold Ht;rw[e1,e2];exact YX (h.inv.J3 p) hB
 have hsrc:∀ {r:Nat},r<(AB AA).length->(Au AA).rd r=true->a.F r<(AB AA).length/\(Au AA).rd (a.F r)=false/\(Au AA).pl (a.F r)=(Au AA).pl r:=by
  intro r hr hrd;obtain⟨q1,q2,q3,_⟩:=h.inv.src r (h.all r hr).1 hrd;exact⟨h.inv.lt _ q1,q2,q3⟩
 have hrow:∀ {x y:Nat},x<(AB AA).length->Ap (Tc (AB AA) (Gl b)) x y=true->Ht AA a x<Ht AA a y/\(Au AA).rd x=false/\(Au AA).rd y=false:=by
  intro x y hx' hl;have hB:=ZP hb h W.iB hx' hl;have m1:=(h.inv.rows _ _).1 (JH hB).1;have m2:=(h.inv.rows _ _).1 (JH hB).2;exact⟨hpos rfl m2.2.2 hB,m1.2.1,m2.2.1⟩
 refine XX W.pw (fun i=>QH AA a i*(AB AA).length+i) (fun i j hi hj hl=>?_);refine fT hi ?_;rw[W.pwl i j hi] at hl;simp only[Bool.or_eq_true] at hl;rcases hl with (g|g)|(g|g)
 ·
  rw[(Qd hx).2 i j hi] at g;simp only[Bool.and_eq_true,Bool.not_eq_true'] at g;obtain⟨⟨_,g2⟩,g3⟩:=g;have hlt:=YY g2
  have hpl:(Au AA).pl i=(Au AA).pl j:=by
   unfold ZK at g3;rw[bne_eq_false_iff_eq] at g3;show ((AB AA).getD i zE).2.2.2.1.toNat=((AB AA).getD j zE).2.2.2.1.toNat;rw[g3]
  unfold KU at g2;simp only[Bool.and_eq_true,Bool.or_eq_true,decide_eq_true_eq,beq_iff_eq] at g2;rcases g2.2 with ⟨g4,g5⟩|⟨g4,g5⟩
  ·
   left;obtain⟨_,b2,b3,_⟩:=h.inv.Ie i g4
   have k0:QH AA a i=0:=by
    unfold QH Ht;rw[b2,b3];have hh:=h.head g4
    cases hl:a.R i with
    |nil=>rw[hl] at hh;cases hh
    |cons y r=>
     rw[hl] at hh;simp only[List.head?_cons,Option.some.injEq] at hh;rw[hh,List.idxOf_cons_self];rfl
   rw[k0];unfold QH;split
   . omega
   ·
    rename_i hr
    have hr':(Au AA).rd j=false:=by cases hq:(Au AA).rd j with
     |false=>rfl
     |true=>exact absurd hq hr
    have hm:j∈a.R i:=(h.inv.rows i j).2 ⟨h.all j hj,hr',by rw[<-hpl,b3]⟩;unfold Ht;rw[<-hpl,b3];have hh:=h.head g4
    cases hl:a.R i with
    |nil=>rw[hl] at hh;cases hh
    |cons y r=>
     rw[hl] at hh;simp only[List.head?_cons,Option.some.injEq] at hh;rw[List.idxOf_cons,hh,beq_eq_false_iff_ne.2 (show i≠j by omega)];exact Nat.mul_pos (by omega) (Nat.succ_pos _)
  ·
   have lZ:=h.inv.Xn i j (h.all i hi).1 (h.all j hj).1 g4 hlt g5 hpl
   have hL:(Eh AA a τ).L (Au AA) ((Au AA).ck i) ((Au AA).pl i)=a.R ((Au AA).pl i):=by
    unfold A7.L;rw[h.none,List.filter_nil,List.append_nil];rfl
   rw[hL] at lZ
   have Xa:∀x,x<(AB AA).length->(Au AA).pl ((Eh AA a τ).v (Au AA) x)=(Au AA).pl x:=by
    intro x hx';unfold A7.v;split
    . rename_i hr;exact (hsrc hx' hr).2.2
    . rfl
   have hle:(Eh AA a τ).v (Au AA) i=(Eh AA a τ).v (Au AA) j\/Ht AA a ((Eh AA a τ).v (Au AA) i)<Ht AA a ((Eh AA a τ).v (Au AA) j):=
    lZ.imp id (fun hB=>hpos (Xa i hi) ((Xa j hj).trans hpl.symm) hB)
   have hw:=h.inv.Pr i j (h.all i hi).1 (h.all j hj).1 g4 hlt g5 hpl;unfold A7.v at hle;unfold QH
   cases ri:(Au AA).rd i with
   |true=>
    rw[ri,if_pos rfl] at hle;rw[if_pos rfl]
    cases rj:(Au AA).rd j with
    |true=>
     rw[rj,if_pos rfl] at hle;rw[if_pos rfl];rcases hle with e|e
     ·
      right;change a.F i=a.F j at e;rw[e];exact⟨rfl,hlt⟩
     ·
      left;change Ht AA a (a.F i)<Ht AA a (a.F j) at e;omega
    |false=>
     rw[rj,if_neg (by simp)] at hle;rw[if_neg (by simp)];rcases hle with e|e
     . exact absurd e (hw ri rj)
     ·
      left;change Ht AA a (a.F i)<Ht AA a j at e;omega
   |false=>
    rw[ri,if_neg (by simp)] at hle;rw[if_neg (by simp)]
    cases rj:(Au AA).rd j with
    |true=>
     rw[rj,if_pos rfl] at hle;rw[if_pos rfl];rcases hle with e|e
     ·
      left;change i=a.F j at e;rw[<-e];omega
     ·
      left;change Ht AA a i<Ht AA a (a.F j) at e;omega
    |false=>
     rw[rj,if_neg (by simp)] at hle;rw[if_neg (by simp)];rcases hle with e|e
     . omega
     . left;omega
 ·
  obtain⟨q,hq1,hq2,hq3⟩:=(W.iB.fwl i j hi).1 g;obtain⟨r,hr,e1,e2,e3⟩:=h.rd hq1;have er:r=j:=by omega
  subst er;have ei:a.F r=i:=by omega
  have hs:=hsrc hr e3;rw[ei] at hs;left;unfold QH;rw[e3,hs.2.1,if_pos rfl,if_neg (by simp),ei];omega
 ·
  obtain⟨p1,p2,p3⟩:=hrow hi g;left;unfold QH;rw[p2,p3,if_neg (by simp),if_neg (by simp)];omega
 ·
  obtain⟨q,hq1,hq2,hq3⟩:=(W.iB.agl i j hi).1 g;obtain⟨r,hr,e1,e2,e3⟩:=h.rd hq1;have er:r=i:=by omega
  subst er;rw[e2,Int.toNat_natCast] at hq3;obtain⟨p1,p2,p3⟩:=hrow (hsrc hr e3).1 hq3;left;unfold QH;rw[e3,p3,if_pos rfl,if_neg (by simp)];omega
def kg (AA:List (List Dd))(f:List Int)(r:Nat):Nat:=(f.getD ((AX Aj (AB AA)).idxOf (r:Int)) 0).toNat
abbrev Qk (AA:List (List Dd))(rows:List Int)(x y:Nat):Prop:=Ap (Tc (AB AA) rows) x y=true
structure CI (AA:List (List Dd))(f rows:List Int)(Q:Int->Prop)(κ:Int)(b:Bd)(a:Ab)(τ:Nat->Nat)(T:Nat)(z:Int):Prop where
 mi:MI AA b a τ T z
 dq:∀j,j<(AB AA).length->((Eh AA a τ).D (Au AA) j↔Q ((Au AA).cs j)\/((Au AA).cs j=κ/\(Eh AA a τ).X j))
 ro:∀p,(a.R p).Pairwise (Qk AA rows)
 fo:∀r,(Eh AA a τ).X r->(Au AA).rd r=true->a.F r=kg AA f r
def NV (AA:List (List Dd))(es:List Ev):List Int->Bd->Bool
 | [],_=>true
 |s::r,b=>Dx (Ae AA b) s&&NV AA es r (Aq AA es b s)
theorem NX {AA:List (List Dd)}{es:List Ev}:∀(l:List Int) (b:Bd) (s:Int),NV AA es l b=true->Dx (Ae AA (Bw AA es b l)) s=true->NV AA es (l++[s]) b=true/\Bw AA es b (l++[s])=Aq AA es (Bw AA es b l) s
 | [],b,s,_,h2=>by
  have h2':Dx (Ae AA b) s=true:=h2;refine⟨by show (Dx (Ae AA b) s&&true)=true;rw[h2'];rfl,?_⟩;show (if Dx (Ae AA b) s=true then Aq AA es b s else b)=Aq AA es b s;rw[if_pos h2']
 |x::l,b,s,h1,h2=>by
  rw[NV,Bool.and_eq_true] at h1;rw[Bw,if_pos h1.1] at h2;obtain⟨e1,e2⟩:=NX l (Aq AA es b x) s h1.2 h2;rw[List.cons_append,NV,Bw,h1.1,e1,if_pos rfl,e2,Bw,if_pos h1.1];exact⟨rfl,rfl⟩
structure bK (AA:List (List Dd))(p:Bd×List Int):Prop where
 goes:NV AA (AB AA) p.2 (Bq AA)=true
 run:Bw AA (AB AA) (Bq AA) p.2=p.1
theorem bK.step {AA:List (List Dd)}{p:Bd×List Int}(h:bK AA p){s:Int}(hs:Dx (Ae AA p.1) s=true):bK AA (Aq AA (AB AA) p.1 s,p.2++[s]):=by
 obtain⟨e1,e2⟩:=NX p.2 (Bq AA) s h.goes (by rw[h.run];exact hs);exact⟨e1,by rw[e2,h.run]⟩
theorem SM {AA:List (List Dd)}{b:Bd}(h:Ae AA b=[]):UB AA b=true:=by
 unfold Ae at h;rw[List.append_eq_nil_iff,List.map_eq_nil_iff,List.map_eq_nil_iff,List.filter_eq_nil_iff,List.filter_eq_nil_iff] at h;unfold UB;rw[List.all_eq_true];intro c hc;have h1:=h.1 c hc;have h2:=h.2 c hc
 have h3:(b.AH.getD c []).isEmpty=true:=by
  cases hq:(b.AH.getD c []).isEmpty with
  |true=>rfl
  |false=>rw[hq] at h2;simp at h2
 unfold C6 at h1;rw[h3] at h1 ⊢;simp only[Bool.or_true,Bool.and_true,decide_eq_true_eq,Nat.not_lt] at h1;rw[decide_eq_true h1];rfl
theorem Rl {AA:List (List Dd)}{b:Bd}(h:UB AA b=true):Ae AA b=[]:=by
 unfold UB at h;rw[List.all_eq_true] at h;unfold Ae;rw[List.append_eq_nil_iff,List.map_eq_nil_iff,List.map_eq_nil_iff,List.filter_eq_nil_iff,List.filter_eq_nil_iff];constructor
 ·
  intro c hc;have:=h c hc;simp only[Bool.and_eq_true,decide_eq_true_eq] at this;unfold C6;simp only[Bool.and_eq_true,decide_eq_true_eq,not_and];intro h2;omega
 ·
  intro c hc;have:=h c hc;simp only[Bool.and_eq_true] at this;rw[this.2];simp
theorem Kx (AA:List (List Dd))(es:List Ev):∀(l r:List Int) (b:Bd),Bw AA es b (l++r)=Bw AA es (Bw AA es b l) r
 | [],r,b=>rfl
 |s::l,r,b=>by rw[List.cons_append,Bw,Bw];exact Kx AA es l r _
def JA (AA:List (List Dd))(b:Bd):Prop:=∃a τ T z,MI AA b a τ T z/\BD AA a
theorem JA.new {AA:List (List Dd)}(hb:AW AA=true):JA AA (Bq AA):=⟨_,_,_,_,Y8 hb⟩
theorem JA.step {AA:List (List Dd)}(hb:AW AA=true){b:Bd}(h:JA AA b){s:Int}(hs:Dx (Ae AA b) s=true):JA AA (Aq AA (AB AA) b s):=by
 obtain⟨a,τ,T,z,M,B⟩:=h;obtain⟨a',τ',z',M',B'⟩:=XK hb M B hs;exact⟨a',τ',_,z',M',B'⟩
theorem JA.board {AA:List (List Dd)}(hb:AW AA=true){b:Bd}(h:JA AA b):Af AA b=true:=by
 obtain⟨a,τ,T,z,M,_⟩:=h;exact Wd hb M
theorem Tb {AA:List (List Dd)}{es:List Ev}{b:Bd}{steps:List Int}{k:Nat}(hk:k<steps.length)(h:Dx (Ae AA (Bw AA es b (steps.take k))) (steps.getD k 0)=true):Bw AA es b (steps.take (k+1))=Aq AA es (Bw AA es b (steps.take k)) (steps.getD k 0):=by
 rw[List.take_add_one,List.getElem?_eq_getElem hk,Kx];have e:steps.getD k 0=steps[k]:=by rw[List.getD_eq_getElem?_getD,List.getElem?_eq_getElem hk];rfl
 rw[e] at h ⊢;show Bw AA es _ [steps[k]]=_;rw[Bw,if_pos h];rfl
theorem Ql {AA:List (List Dd)}{es:List Ev}{b:Bd}{steps:List Int}{k:Nat}(hk:k<steps.length)(h:Dx (Ae AA (Bw AA es b (steps.take k))) (steps.getD k 0)=false):Bw AA es b (steps.take (k+1))=Bw AA es b (steps.take k):=by
 rw[List.take_add_one,List.getElem?_eq_getElem hk,Kx];have e:steps.getD k 0=steps[k]:=by rw[List.getD_eq_getElem?_getD,List.getElem?_eq_getElem hk];rfl
 rw[e] at h;show Bw AA es _ [steps[k]]=_;rw[Bw,if_neg (by rw[h];simp)];rfl
theorem W5 {w:World}{b off:Nat}{zs:List Int}(hc:∀i,i<zs.length->w.cell? ⟨b,off+i,none⟩=some (.int .i64 (zs.getD i 0))):
  ∀j u,(zs.map (Value.int .i64))[j]? = some u->w.cell? ((⟨b,off,none⟩:Addr).add j)=some u:=by
 intro j u hj;rw[List.getElem?_map] at hj
 have hjl:j<zs.length:=by
  apply Classical.byContradiction;intro hno;rw[List.getElem?_eq_none (by omega)] at hj;cases hj
 have e1:(⟨b,off,none⟩:Addr).add j=⟨b,off+j,none⟩:=by unfold Addr.add;split<;>simp_all
 rw[e1,hc j hjl,List.getD_eq_getElem?_getD];rw[List.getElem?_eq_getElem hjl] at hj ⊢
 simpa using hj
theorem WS (zs:List Int):∀u∈zs.map (Value.int .i64),u.oneCell'=true:=by
 intro u hu;obtain⟨y,_,rfl⟩:=List.mem_map.1 hu;rfl
def pQ (w:World)(v:Value)(ws:List (List UInt8)):Prop:=
 ∃(a:Option Addr) (cap:Nat),v = .slice a ws.length cap /\
  (ws=[]\/∃b off,a=some ⟨b,off,none⟩/\b<w.heap.size/\∀i,i<ws.length->w.cell? ⟨b,off+i,none⟩=some (nU (ws.getD i [])))
theorem pQ.keep {w w':World}{v:Value}{ws:List (List UInt8)}(h:pQ w v ws)(k:AC w w'):pQ w' v ws:=by
 obtain⟨a,cap,hv,h⟩:=h;refine⟨a,cap,hv,?_⟩;rcases h with h|⟨b,off,ha,hb,hc⟩
 . exact .inl h
 . exact .inr ⟨b,off,ha,Nat.lt_of_lt_of_le hb k.size,fun i hi=>(k.cell hb).trans (hc i hi)⟩
def RU (w:World)(base:Nat)(v:Value)(ws:List (List UInt8)):Prop:=w.ownsRow base 9 1 v ws.length (ws.map nU)
theorem RU.keep {w w':World}{base:Nat}{v:Value}{ws:List (List UInt8)}(h:RU w base v ws)(k:AC w w'):RU w' base v ws:=
 World.ownsRow.kept h k.grownBy (by cases v.ownBlock<;>simp)
theorem RU.rd {w:World}{base:Nat}{v:Value}{ws:List (List UInt8)}(h:RU w base v ws):pQ w v ws:=by
 have hlt:=World.ownsRow.lt h;rcases h.2 with ⟨rfl,hn⟩|⟨g,cap,cur,rfl,hb,hg,rest⟩
 ·
  have:ws=[]:=List.eq_nil_of_length_eq_zero hn;subst this;exact⟨none,0,rfl,.inl rfl⟩
 ·
  refine⟨some ⟨g,0,none⟩,cap,rfl,.inr ⟨g,0,rfl,(hlt g rfl).2,fun i hi=>?_⟩⟩;have hc:=World.ownsRow.cellAt h i (by simpa using hi);rw[Nat.zero_add,hc,List.getElem?_map,List.getElem?_eq_getElem hi,List.getD_eq_getElem?_getD,List.getElem?_eq_getElem hi];rfl
theorem RU.ge {w:World}{base:Nat}{v:Value}{ws:List (List UInt8)}(h:RU w base v ws):∀k,v.ownBlock=some k->base<=k:=fun k hk=>(World.ownsRow.lt h k hk).1
def Fk (b:Bd):Prop:=(∀c,(b.AH.getD c []).length<=7)/\∀p,(b.rws.getD p []).length<=15
theorem fV {AA:List (List Dd)}{b:Bd}{a:Ab}{τ:Nat->Nat}{T:Nat}{z:Int}(M:MI AA b a τ T z):(∀c,(b.AH.getD c []).length<=6)/\∀p,(b.rws.getD p []).length<=9:=by
 have h9:=Km AA;have R:=M.DD;have I:=M.inv;refine⟨fun c=>?_,fun p=>?_⟩
 ·
  by_cases hc:c<AA.length
  ·
   rw[R.AH,Gd _ _ hc,List.length_map]
   have hnd:(a.N c).Nodup:=by
    have:=I.Oq (c:Int);rw[MZ] at this;exact this.imp (fun h=>Nat.ne_of_lt h)
   have:=IE (lo:=3) (n:=(AB AA).length) hnd (fun x hx=>by
    have hx':x∈(Eh AA a τ).N (c:Int):=by rw[MZ];exact hx
    have:=I.note (c:Int) x hx'
    exact⟨this.2.1,I.lt x this.1⟩)
   omega
  . rw[List.getD_eq_getElem?_getD,List.getElem?_eq_none (by rw[R.AH,List.length_map,List.length_range];omega)];simp
 ·
  by_cases hp:p<3
  ·
   rw[R.rws,Gd _ _ hp,List.length_map];have:=IE (lo:=0) (n:=(AB AA).length) (I.J3 p) (fun x hx=>⟨Nat.zero_le _,I.lt x ((I.rows p x).1 hx).1.1⟩);have e:(Eh AA a τ).R p=a.R p:=rfl;rw[e] at this;omega
  . rw[List.getD_eq_getElem?_getD,List.getElem?_eq_none (by rw[R.rws,List.length_map,List.length_range];omega)];simp
theorem JA.low {AA:List (List Dd)}{b:Bd}(h:JA AA b):(∀c,(b.AH.getD c []).length<=6)/\∀p,(b.rws.getD p []).length<=9:=by
 obtain⟨a,τ,T,z,M,-⟩:=h;exact fV M
theorem Bm {b:Bd}(h:(∀c,(b.AH.getD c []).length<=6)/\∀p,(b.rws.getD p []).length<=9):Fk b:=⟨fun c=>by have:=h.1 c;omega,fun p=>by have:=h.2 p;omega⟩
end Go.Proofs.YtgakfkjjkobpiaaGreat
