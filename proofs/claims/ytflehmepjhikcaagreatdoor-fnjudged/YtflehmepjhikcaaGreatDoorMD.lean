/- Gathered texts. -/
import Derived.Deep.RegionHeld3
import Derived.Test.YtflehmepjhikcaaGreatDoorMC
import Derived.Maps.AppendAt
import Derived.Laws.OwnMore
import Derived.OwnWalk
import Derived.Laws.Tables
import Derived.Orders
import Derived.RegionTactic
import Derived.Shelf.SlSortCmp.Whole1
import Derived.Shelf.SlGeneric
import Derived.Ground.SlsfProg
import Derived.Test.YtflehmepjhikcaaGreatDoorProg
set_option maxRecDepth 100000
set_option maxHeartbeats 8000000
namespace Go.Proofs.YtflehmepjhikcaaGreatDoor
open Go
open Go.ChangeShapes Go.WideShapes Go.ChangeAt Go.RowKit
open Go.RowKit
open Go.Shelf
abbrev KAT:=@Value.slice.injEq
abbrev KAc:=@List.set_cons_succ
abbrev KA6:=@Addr.mk.injEq
abbrev KA8:=@true_and
abbrev KBX:=@and_true
abbrev KBa:=@World.grownBy_alloc
abbrev KBh:=@Nat.min_eq_left
abbrev KCM:=@Array.getElem?_toList
abbrev KCg:=@World.block_lt_of_cell?
abbrev KCo:=@Result.andThen_ok
abbrev KCs:=@List.map_toArray
abbrev KCw:=@List.drop_eq_getElem_cons
abbrev KC5:=@World.ownsRow.frozenAt
abbrev KC6:=@List.drop_eq_nil_of_le
abbrev KDL:=@Sem.run_pure
abbrev Ac:Value:= .slice none 0 0
abbrev Cp (x y:Value):Obj:= .cells #[x,y] 27
def KL (w1 wr:World)(D:Nat)(x y:Value):Prop:=wr.heap[D]? = some (Cp x y)/\w1.grownBy wr (some D)
theorem KL.start {w1:World}(x y:Value):KL w1 (w1.alloc (Cp x y)) w1.heap.size x y:=
 ⟨KAX w1 _,KBa w1 _ (some w1.heap.size)⟩
theorem KL.size {w1 wr:World}{D:Nat}{x y:Value}(h:KL w1 wr D x y):D<wr.heap.size:=(KAm.1 h.1).1
theorem KL.keep {w1 wr wr':World}{D:Nat}{x y:Value}(h:KL w1 wr D x y)(hk:AC wr wr'):KL w1 wr' D x y:=
 ⟨(KAW hk D h.size).trans h.1,Ak h.2 ⟨Below.os hk,Below.tape hk,Below.output hk,Below.size hk,fun i hi _=>KAW hk i hi⟩⟩
theorem KL.cells {w1 wr:World}{D:Nat}{x y:Value}(h:KL w1 wr D x y):
  wr.cell? ⟨D,0,none⟩=some x/\wr.cell? ⟨D,1,none⟩=some y:=
 ⟨KAL wr D 0 _ _ (0,0) h.1,KAL wr D 1 _ _ (0,0) h.1⟩
theorem KL.free {w1 wr:World}{D:Nat}{x y:Value}(h:KL w1 wr D x y)(i:Nat):wr.frozen? ⟨D,i,none⟩=false:=KA1 wr D i _ _ h.1
theorem KL.set0 {w1 wr:World}{D:Nat}{x y:Value}(h:KL w1 wr D x y)(z:Value):KL w1 (wr.setCell ⟨D,0,none⟩ z) D z y:=
 ⟨by rw[KAt wr D 0 _ _ _ h.1];rfl,Ak h.2 ⟨rfl,rfl,rfl,by simp,fun i _ hi=>KBM wr ⟨D,0,none⟩ i _ (fun e=>hi (by simp[e]))⟩⟩
theorem KL.set1 {w1 wr:World}{D:Nat}{x y:Value}(h:KL w1 wr D x y)(z:Value):KL w1 (wr.setCell ⟨D,1,none⟩ z) D x z:=
 ⟨by rw[KAt wr D 1 _ _ _ h.1];rfl,Ak h.2 ⟨rfl,rfl,rfl,by simp,fun i _ hi=>KBM wr ⟨D,1,none⟩ i _ (fun e=>hi (by simp[e]))⟩⟩
theorem Cv (w:World)(g j:Nat)(v:Value):w.grownBy (w.setCell ⟨g,j,none⟩ v) (some g):=
 ⟨rfl,rfl,rfl,by simp,fun i _ hi=>KBM w ⟨g,j,none⟩ i _ (fun e=>hi (by simp[e]))⟩
theorem A8.BZ {wr wr':World}{base D:Nat}{v:Value}{zs:List Int}(h:A8 wr base v zs)(hb:D<base)(hg:wr.grownBy wr' (some D)):A8 wr' base v zs:=
 h.kept hg (by
  cases hu:v.ownBlock with
  |none=>exact .inl rfl
  |some k=>exact .inr (fun e=>by have:=h.ge k hu;have:=KAI e;omega))
theorem Gn {P:Program}{fn:Func}{p u:Tmp}{ty:TypeId}(h:fn.results=#[.tmp u,.cell p ty])(tmps:Array Value)(w:World)(g:Nat)(t:TypeId)(cs:Array Value)(fr:Nat×Nat)(d:TypeDesc)(v:Value)
  (hp:tmps.getD p undef = .pointer (some ⟨g,0,none⟩)) (hg:w.heap[g]? = some (.cells cs t fr)) (hv:tmps.getD u undef=v)
  (hu:P.underlying ty=some d) (hd:(match d with | .struct _ | .array _ _=>true|_=>false)=true) (hi:(P.info? ty).map (·.size)=some cs.size):
  (results fn tmps).run P w = .ok (.tuple #[v,.agg cs]) w:=by
 have hp':tmps[p]?.getD undef = .pointer (some ⟨g,0,none⟩):=by simpa using hp
 have hv':tmps[u]?.getD undef=v:=by simpa using hv
 simp[results,h,hp',hv',asAddr,run_loadVar_row w g t ty cs fr d hg hu hd hi]
abbrev Ti (a:Addr):Value:= .iface 234 (.pointer (some a))
abbrev wO (s:ByteArray)(y:Value):Value:= .iface 59 (.agg #[.string s,y])
def KH (w:World)(a:Addr):Prop:=w.cell? ⟨0,0,none⟩=some (Ti a)
theorem KH.out {w:World}{a:Addr}(h:KH w a):w.cell? ⟨0,0,none⟩=some (Ti a):=h
theorem KH.keep {w w':World}{a:Addr}(h:KH w a)(k:AC w w'):KH w' a:=(k.cell (KCg w ⟨0,0,none⟩ h)).trans h
def Oj (a:Addr)(t:Bool)(v:Value):Prop:=(t=true/\v = .nilIface)\/(t=false/\∃s,v=wO s (Ti a))
theorem Oj.no {a:Addr}{v:Value}(h:Oj a false v):∃s,v=wO s (Ti a):=h.elim (fun q=>by cases q.1) (fun q=>q.2)
theorem Oj.yes {a:Addr}{v:Value}(h:Oj a true v):v = .nilIface:=h.elim (fun q=>q.2) (fun q=>by cases q.1)
def Qe (d:Dd):Int:=d.2.2.2
def gK (ds:List Dd):Nat->Int
 | 0=>0
 |k+1=>if Qe (ds.getD k zD)=0 then gK ds k else MU (gK ds k) (Qe (ds.getD k zD))
def gC (ds:List Dd):Int:=gK ds ds.length
def Ih (ds:List Dd)(k:Nat):Bool:=decide (0<k)&&(Qe (ds.getD k zD) != Qe (ds.getD (k-1) zD))&&Fk (gK ds k) (Qe (ds.getD k zD))
def Fv (ds:List Dd):Nat->Bool
 | 0=>true
 |k+1=>Fv ds k&&!Ih ds k
def Gr (AA:List (List Dd)):Nat->Int
 | 0=>0
 |i+1=>bits .or .i64 (Gr AA i) (gC (AA.getD i []))
def Cu (ds:List Dd)(t:Int):Bool:=decide (ds.length<=5)&&ds.all Fy&&Fv ds ds.length&&(bits .and .i64 (gC ds) t==0)
def CG (AA:List (List Dd)):Nat->Bool
 | 0=>true
 |i+1=>CG AA i&&Cu (AA.getD i []) (Gr AA i)
theorem QF {α:Type}(l:List α)(i k:Nat)(z:α)(h:k<i):(l.take i).getD k z=l.getD k z:=by
 rw[IT,KCK,KAP h,IT]
theorem VW (ds:List Dd)(i:Nat):∀k:Nat,k<=i->gK (ds.take i) k=gK ds k
 | 0,_=>rfl
 |k+1,h=>by rw[gK,gK,VW ds i k (by omega),QF ds i k zD (by omega)]
theorem jG (ds:List Dd)(i:Nat)(h:i<=ds.length):gC (ds.take i)=gK ds i:=by
 rw[gC,KAz,KBh h,VW ds i i (KAM _)]
theorem ON {ds:List Dd}{k:Nat}(h:Fv ds k=false):∀n:Nat,k<=n->Fv ds n=false
 | 0,hn=>by
  obtain rfl:k=0:=by omega
  exact h
 |n+1,hn=>by
  by_cases e:k=n+1
  . rw[<-e];exact h
  . rw[Fv,ON h n (by omega)];rfl
theorem GR {AA:List (List Dd)}{k:Nat}(h:CG AA k=false):∀n:Nat,k<=n->CG AA n=false
 | 0,hn=>by
  obtain rfl:k=0:=by omega
  exact h
 |n+1,hn=>by
  by_cases e:k=n+1
  . rw[<-e];exact h
  . rw[CG,GR h n (by omega)];rfl
def yo (a b:Nat):Prop:=∀k,a.testBit k=true->b.testBit k=false
theorem VQ (a b:Nat):yo a b↔a &&& b=0:=by
 constructor
 ·
  intro h;apply Nat.eq_of_testBit_eq;intro k;rw[Nat.testBit_and,Nat.zero_testBit];cases ha:a.testBit k
  . rfl
  . rw[h k ha];rfl
 ·
  intro h k ha;have h1:(a &&& b).testBit k=false:=by rw[h,Nat.zero_testBit]
  rw[Nat.testBit_and,ha] at h1
  simpa using h1
theorem Ny (a g k:Nat):(a ||| 2 ^ g).testBit k=(a.testBit k||decide (g=k)):=by
 rw[Nat.testBit_or,Nat.testBit_two_pow]
theorem eU (o:List Int)(g:Nat)(x:Int)(j:Nat)(hg:g<o.length):(o.set g x).getD j 0=if g=j then x else o.getD j 0:=by
 rw[IT,KBt];by_cases e:g=j
 . subst e;rw[KAP rfl,KAP hg,KAP rfl];rfl
 . rw[KAQ e,KAQ e,IT]
theorem ji {d:Dd}(h:Fy d=true):0<=Qe d/\Qe d<=9:=by
 simp[Fy,Ec] at h;unfold Qe;omega
theorem Gw {i:Nat}{own:List Int}{T:Nat}{ds:List Dd}(hl:own.length=10)(hT:∀g,g<10->(own.getD g 0≠0↔T.testBit g=true))(hi:∀g,g<10->own.getD g 0≠(i:Int)+1)(hT0:T.testBit 0=false):
  ∀k:Nat,(∀j,j<k->Fy (ds.getD j zD)=true)->∃G:Nat,G<4096/\gK ds k=(G:Int)/\G.testBit 0=false/\(k=0->G=0) /\
   (Cy i own ds k=none->Fv ds k=false\/¬yo G T) /\
   ∀o,Cy i own ds k=some o->Fv ds k=true/\yo G T/\o.length=10/\∀g,g<10->o.getD g 0=if G.testBit g=true then (i:Int)+1 else own.getD g 0
 | 0,_=>⟨0,by omega,rfl,by simp,fun _=>rfl,by simp[Cy],by
   intro o ho;simp only[Cy,KAg] at ho;subst ho
   exact⟨rfl,fun k hk=>by simp at hk,hl,by simp⟩⟩
 |k+1,hok=>by
  obtain⟨G,hG,mO,hG0,hz,hN,hS⟩:=Gw hl hT hi hT0 k (fun j hj=>hok j (by omega));obtain⟨h0,h9⟩:=ji (hok k (by omega));obtain⟨g,hg⟩:=KAn h0;have hgg:(ds.getD k zD).2.2.2=(g:Int):=hg;by_cases hg0:g=0
  ·
   subst hg0;have hz0:(ds.getD k zD).2.2.2=0:=hgg;have e1:gK ds (k+1)=(G:Int):=by rw[gK,hg,KAP (by simp),mO]
   have e2:Ih ds k=false:=by
    have:Fk (gK ds k) (Qe (ds.getD k zD))=false:=by rw[mO,hg,Nd G 0 hG (by omega),hG0]
    rw[Ih,this,KDN]
   have e3:Fv ds (k+1)=Fv ds k:=by rw[Fv,e2];simp
   have e4:Cy i own ds (k+1)=Cy i own ds k:=by
    rw[Cy]
    cases hq:Cy i own ds k with
    |none=>rfl
    |some o=>simp only;rw[KAP hz0]
   refine⟨G,hG,e1,hG0,by omega,?_,?_⟩
   . rw[e3,e4];exact hN
   . rw[e3,e4];exact hS
  ·
   have uw:(ds.getD k zD).2.2.2≠0:=by rw[hgg];omega
   have g9:g<=9:=by rw[hg] at h9;omega
   have e1:gK ds (k+1)=((G ||| 2 ^ g:Nat):Int):=by
    rw[gK,hg,KAQ (by omega),mO,Zm G g hG (by omega)]
   have e0:(G ||| 2 ^ g).testBit 0=false:=by rw[Ny,hG0];simp[hg0]
   have inS:Fk (gK ds k) (Qe (ds.getD k zD))=G.testBit g:=by rw[mO,hg,Nd G g hG (by omega)]
   refine⟨G ||| 2 ^ g,wG G g hG (by omega),e1,e0,by omega,?_,?_⟩
   ·
    intro hn;rw[Cy] at hn
    cases hq:Cy i own ds k with
    |none=>
     rcases hN hq with h|h
     . left;rw[Fv,h];rfl
     ·
      right;intro hd;refine h (fun b hb=>hd b ?_);rw[Ny,hb];rfl
    |some o=>
     rw[hq] at hn;simp only at hn;rw[KAQ uw,hgg,KAV] at hn;obtain⟨ht,hd,hlen,ho⟩:=hS o hq;split at hn
     ·
      rename_i hc
      cases jM:T.testBit g with
      |true=>
       right;intro hd2;have:=hd2 g (by rw[Ny];simp);rw[jM] at this;cases this
      |false=>
       left
       have hown:own.getD g 0=0:=by
        apply KBA;intro hne;rw[(hT g (by omega)).1 hne] at jM;cases jM
       cases YZ:G.testBit g with
       |false=>
        exfalso;have:=ho g (by omega);rw[YZ,hown] at this;exact hc.1 (by simpa using this)
       |true=>
        have hk0:k≠0:=by
         intro hk;rw[hz hk] at YZ;simp at YZ
        have hog:=ho g (by omega);rw[YZ,KAP rfl] at hog
        have hp:(ds.getD (k-1) zD).2.2.2≠(g:Int):=by
         rcases hc.2 with h|h|h
         . exact absurd hog h
         . exact absurd h hk0
         . exact h
        have:Ih ds k=true:=by
         rw[Ih,inS,YZ,hg]
         have hp':((g:Int) != Qe (ds.getD (k-1) zD))=true:=by
          rw[bne_iff_ne];exact fun e=>hp e.symm
         rw[hp'];simp;omega
        rw[Fv,this];simp
     . cases hn
   ·
    intro o' hn;rw[Cy] at hn
    cases hq:Cy i own ds k with
    |none=>rw[hq] at hn;cases hn
    |some o=>
     rw[hq] at hn;simp only at hn;rw[KAQ uw,hgg,KAV] at hn;obtain⟨ht,hd,hlen,ho⟩:=hS o hq;split at hn
     . cases hn
     ·
      rename_i hc;simp only[KAg] at hn;subst hn;have hog:=ho g (by omega)
      have jM:T.testBit g=false:=by
       cases jM:T.testBit g with
       |false=>rfl
       |true=>
        exfalso
        have YZ:G.testBit g=false:=by
         cases YZ:G.testBit g with
         |false=>rfl
         |true=>rw[hd g YZ] at jM;cases jM
        rw[YZ] at hog;simp only[KBO,KCU] at hog;exact hc ⟨by rw[hog];exact (hT g (by omega)).2 jM,.inl (by rw[hog];exact hi g (by omega))⟩
      refine⟨?_,?_,by rw[KA4];exact hlen,?_⟩
      ·
       have:Ih ds k=false:=by
        cases hp:Ih ds k with
        |false=>rfl
        |true=>
         exfalso;rw[Ih,inS,hg,KAO,KAO,KAN,bne_iff_ne] at hp;obtain⟨⟨hk,hne⟩,YZ⟩:=hp;rw[YZ,KAP rfl] at hog;exact hc ⟨by rw[hog];omega,.inr (.inr (fun e=>hne e.symm))⟩
       rw[Fv,ht,this];rfl
      ·
       intro b hb;rw[Ny,KBw,KAN] at hb;rcases hb with hb|rfl
       . exact hd b hb
       . exact jM
      ·
       intro j hj;rw[eU o g _ j (by omega),Ny];by_cases e:g=j
       . subst e;simp
       . rw[KAQ e,ho j hj];simp[e]
theorem QJ {AA:List (List Dd)}:∀n:Nat,(∀i,i<n->GQ (AA.getD i [])=true)->∃T:Nat,T<4096/\Gr AA n=(T:Int)/\T.testBit 0=false /\
   (FH AA n=none->CG AA n=false) /\
   ∀o,FH AA n=some o->CG AA n=true/\o.length=10/\(∀g,g<10->(o.getD g 0≠0↔T.testBit g=true))/\∀g,g<10->0<=o.getD g 0/\o.getD g 0<=(n:Int)
 | 0,_=>⟨0,by omega,rfl,by simp,by simp[FH],by
   intro o ho;simp only[FH,KAg] at ho;subst ho;refine⟨rfl,by simp,fun g hg=>?_,fun g hg=>?_⟩
   . rw[IT,KBG,KAP hg];simp
   . rw[IT,KBG,KAP hg];simp⟩
 |n+1,hok=>by
  obtain⟨T,hT,htk,hT0,hN,hS⟩:=QJ n (fun i hi=>hok i (by omega));have okn:=hok n (by omega);simp only[GQ,KAO,KAN] at okn;have hall:=okn.1;have hok2:∀j,j<(AA.getD n []).length->Fy ((AA.getD n []).getD j zD)=true:=fun j hj=>Bm zD hall j hj
  obtain⟨G0,hG0,jQ,hG00,-⟩:=Gw (i:=0) (own:=List.replicate 10 0) (T:=0) (ds:=AA.getD n []) (by simp) (fun g hg=>by rw[IT,KBG,KAP hg];simp) (fun g hg=>by rw[IT,KBG,KAP hg];simp) (by simp) (AA.getD n []).length hok2
  have hor:Gr AA (n+1)=((T ||| G0:Nat):Int):=by
   rw[Gr,htk,gC,jQ,NU T G0 (by omega) (by omega)]
  have hand:bits .and .i64 (gC (AA.getD n [])) (Gr AA n)=((G0 &&& T:Nat):Int):=by
   rw[gC,jQ,htk,MB G0 T (by omega) (by omega)]
  have hR:Cu (AA.getD n []) (Gr AA n)=(Fv (AA.getD n []) (AA.getD n []).length&&decide (G0 &&& T=0)):=by
   rw[Cu,hall,KAl okn.2,hand];simp only[KBi]
   congr 1
   rw[KBg,KCp,KAN];omega
  refine⟨T ||| G0,Nat.or_lt_two_pow (n:=12) hT hG0,hor,by rw[Nat.testBit_or,hT0,hG00];rfl,?_,?_⟩
  ·
   intro hn;rw[FH] at hn
   cases hq:FH AA n with
   |none=>rw[CG,hN hq];rfl
   |some o=>
    rw[hq] at hn;simp only at hn;obtain⟨hr,hl,hb,hle⟩:=hS o hq;obtain⟨G,hG,mO,-,-,hN2,-⟩:=Gw (i:=n) (own:=o) (T:=T) (ds:=AA.getD n []) hl hb (fun g hg=>by have:=hle g hg;omega) hT0 (AA.getD n []).length hok2;obtain rfl:G=G0:=by rw[jQ] at mO;omega
    rw[CG,hr,hR];rcases hN2 hn with h|h
    . rw[h];rfl
    . rw[KAi (fun e=>h ((VQ _ _).2 e))];simp
  ·
   intro o' hn;rw[FH] at hn
   cases hq:FH AA n with
   |none=>rw[hq] at hn;cases hn
   |some o=>
    rw[hq] at hn;simp only at hn;obtain⟨hr,hl,hb,hle⟩:=hS o hq;obtain⟨G,hG,mO,-,-,-,hS2⟩:=Gw (i:=n) (own:=o) (T:=T) (ds:=AA.getD n []) hl hb (fun g hg=>by have:=hle g hg;omega) hT0 (AA.getD n []).length hok2;obtain rfl:G=G0:=by rw[jQ] at mO;omega
    obtain⟨h1,h2,h3,h4⟩:=hS2 o' hn;refine⟨by rw[CG,hr,hR,h1,KAl ((VQ _ _).1 h2)];rfl,h3,fun g hg=>?_,fun g hg=>?_⟩
    ·
     rw[h4 g hg,Nat.testBit_or,KBw];cases YZ:G.testBit g
     . simp only[KBO,KCU,KCl];exact hb g hg
     . simp only[KCT,or_true,iff_true];omega
    ·
     rw[h4 g hg];have:=hle g hg;split<;>omega
theorem TI {AA:List (List Dd)}(h:AA.all GQ=true):CG AA AA.length=Kg AA:=by
 obtain⟨T,-,-,-,hN,hS⟩:=QJ (AA:=AA) AA.length (fun i hi=>Bm [] h i hi);rw[Kg]
 cases hq:FH AA AA.length with
 |none=>rw[hN hq];rfl
 |some o=>rw[(hS o hq).1];rfl
theorem Um {AA:List (List Dd)}(h:CG AA AA.length=true):AA.all GQ=true:=by
 refine oI [] (fun i hi=>?_)
 cases hb:CG AA (i+1) with
 |false=>rw[GR hb _ hi] at h;cases h
 |true=>
  rw[CG,KAO] at hb;have:=hb.2;simp only[Cu,KAO] at this;rw[GQ,this.1.1.2,KBi];exact this.1.1.1
theorem Td (AA:List (List Dd)):AL AA=(decide (1<=AA.length/\AA.length<=3)&&CG AA AA.length&&decide (CQ AA<=12)&&decide (SU AA AA.length<=6)):=by
 rw[AL]
 cases h:AA.all GQ with
 |true=>
  rw[TI h];cases Kg AA<;>simp
 |false=>
  cases hr:CG AA AA.length with
  |false=>simp
  |true=>rw[Um hr] at h;cases h
section
section
variable {P:Program} {md:Region.Mode} {ops:Array Oper} {Q:Exit->Act->World->Prop} {S:World->Prop}
theorem wW (i d:Nat){oi:Oper}{v:Value}{fuel:Nat}{listed:Array Bool}{a:Act}{w:World}(hi:ops[i]? = some oi)(hd:oi.dst=some d)
  (hs:Region.noSelect ops=true) (hf:Region.free md ops listed i=true) (hr:(Region.ready md ops listed).contains i=true)
  (hQ:∀c a w,Q (.panic c) (a.put (some d) v) w->Q (.panic c) a w) (hw:Region.wanted oi (yielded ops a.tmps)=true) (hy:∀w,S w->(execOp a.eval oi).run P w = .ok (.value v) w) (hS:S w)
  (h:wpAnyH P md ops Q S fuel (listed.setIfInBounds i true) (a.put (some d) v) w):wpAnyH P md ops Q S (fuel+1) listed a w:=by
 rw[<-hd] at hQ h;exact wpAnyH_take hi hs hf hr hQ (Or.inl ⟨hw,hy⟩) hS h
theorem Ax (i d:Nat){oi:Oper}{v:Value}{fuel:Nat}{listed:Array Bool}{a:Act}{w:World}
  (hy:∀w,S w->(execOp a.eval oi).run P w = .ok (.value v) w) (h:wpAnyH P md ops Q S fuel (listed.setIfInBounds i true) (a.put (some d) v) w)
  (hi:ops[i]? = some oi:=by rfl) (hd:oi.dst=some d:=by rfl)
  (hs:Region.noSelect ops=true:=by kernel_rfl) (hf:Region.free md ops listed i=true:=by kernel_rfl) (hr:(Region.ready md ops listed).contains i=true:=by kernel_rfl)
  (hQ:∀c a w,Q (.panic c) (a.put (some d) v) w->Q (.panic c) a w:=by exact fun _ _ _ h=>h) (hw:Region.wanted oi (yielded ops a.tmps)=true:=by rfl) (hS:S w:=by assumption):wpAnyH P md ops Q S (fuel+1) listed a w:=
 wW i d hi hd hs hf hr hQ hw hy hS h
theorem DY (i d:Nat){oi:Oper}{fuel:Nat}{listed:Array Bool}{a:Act}{w:World}(hi:ops[i]? = some oi)(hd:oi.dst=some d)
  (hs:Region.noSelect ops=true) (hf:Region.free md ops listed i=true) (hr:(Region.ready md ops listed).contains i=true)
  (hQ:∀c a w,Q (.panic c) (a.put (some d) undef) w->Q (.panic c) a w) (hw:Region.wanted oi (yielded ops a.tmps)=false) (hS:S w)
  (h:wpAnyH P md ops Q S fuel (listed.setIfInBounds i true) (a.put (some d) undef) w):wpAnyH P md ops Q S (fuel+1) listed a w:=by
 rw[<-hd] at hQ h;exact wpAnyH_take hi hs hf hr hQ (Or.inr ⟨hw,rfl⟩) hS h
end
end
structure LP (w0 wr:World)(x:Value)(es:List Ev)(P:List (Nat×Obj)):Prop where
 app:GV wr w0.heap.size x es
 keep:AC w0 wr
 held:∀n o,(n,o)∈P->x.ownBlock≠some n/\wr.heap[n]? = some o
theorem LP.more {w0 wr wr':World}{x:Value}{es:List Ev}{P:List (Nat×Obj)}(h:LP w0 wr x es P)(k:AC wr wr'):LP w0 wr' x es P:=
 ⟨h.app.keep k,h.keep.trans k,fun n o hn=>⟨(h.held n o hn).1,(KAW k n (KAm.1 (h.held n o hn).2).1).trans (h.held n o hn).2⟩⟩
theorem LP.add {w0 wr:World}{x:Value}{es:List Ev}{P:List (Nat×Obj)}(h:LP w0 wr x es P)(n:Nat)(o:Obj)(hx:x.ownBlock≠some n)(ho:wr.heap[n]? = some o):LP w0 wr x es ((n,o)::P):=
 ⟨h.app,h.keep,fun m q hm=>by
  rcases KBL.1 hm with e|e
  . injection e with e1 e2;subst e1 e2;exact⟨hx,ho⟩
  . exact h.held m q e⟩
theorem LP.new {w0 wr:World}{x:Value}{es:List Ev}{P:List (Nat×Obj)}(h:LP w0 wr x es P)(o:Obj):LP w0 (wr.alloc o) x es ((wr.heap.size,o)::P):=
 (h.more ((AC.refl wr).alloc o)).add _ _ (fun e=>by have:=(h.app.lt _ e).2;omega) (KAX wr o)
theorem LP.later {w0 wr wr':World}{x:Value}{es:List Ev}{P:List (Nat×Obj)}(h:LP w0 wr x es P)(k:AC wr wr'){B:Nat}{o:Obj}(hB:wr.heap.size<=B)(ho:wr'.heap[B]? = some o):LP w0 wr' x es ((B,o)::P):=
 (h.more k).add _ _ (fun e=>by have:=(h.app.lt _ e).2;omega) ho
theorem LP.less {w0 wr:World}{x:Value}{es:List Ev}{P Q:List (Nat×Obj)}(h:LP w0 wr x es P)(hs:∀y,y∈Q->y∈P):LP w0 wr x es Q:=
 ⟨h.app,h.keep,fun n o hn=>h.held n o (hs _ hn)⟩
theorem LP.hit {w0 wr w':World}{x v':Value}{es:List Ev}{P:List (Nat×Obj)}(h:LP w0 wr x es P)(e:Ev)
  (ho:w'.ownsRow w0.heap.size 85 6 v' (es.length+1) (es.flatMap cE++cE e)) (hg:wr.grownBy w' x.ownBlock) (hb:v'.ownBlock=x.ownBlock\/v'.ownBlock=some wr.heap.size):LP w0 w' v' (es++[e]) P:=by
 refine⟨KN ho,h.keep.grown hg h.app.ge,fun n o hn=>?_⟩;obtain⟨h1,h2⟩:=h.held n o hn;have hlt:=(KAm.1 h2).1;refine⟨fun e=>?_,(hg.block n hlt (fun e=>h1 e.symm)).trans h2⟩;rcases hb with hb|hb
 . exact h1 (hb ▸ e)
 . rw[hb] at e;have:=KAI e;omega
theorem LP.lt {w0 wr:World}{x:Value}{es:List Ev}{P:List (Nat×Obj)}(h:LP w0 wr x es P){n:Nat}{o:Obj}(hn:(n,o)∈P):n<wr.heap.size:=(KAm.1 (h.held n o hn).2).1
theorem LP.cell {w0 wr:World}{x:Value}{es:List Ev}{P:List (Nat×Obj)}(h:LP w0 wr x es P){n:Nat}{cs:Array Value}{t:TypeId}(hn:(n,.cells cs t)∈P)(i:Nat):wr.cell? ⟨n,i,none⟩=cs[i]?:=
 KAL wr n i cs t (0,0) (h.held n _ hn).2
theorem Y1 {w:World}{base base':Nat}{v:Value}{es:List Ev}(h:GV w base v es)(hb:base'<=base):GV w base' v es:=by
 refine⟨h.1,?_⟩;rcases h.2 with h|⟨g,cap,cur,hv,hg,rest⟩
 . exact .inl h
 . exact .inr ⟨g,cap,cur,hv,KAU hb hg,rest⟩
abbrev eO (i k:Int)(r:Bool)(p v c:Int):Obj:= .cells #[.int .i64 i,.int .i64 k,.bool r,.int .i64 p,.int .i64 v,.int .i64 c] 85
theorem KT (e:Ev):∀u∈cE e,u.oneCell'=true:=by
 intro u hu;simp only[cE,KBL,KBo,KCl] at hu;rcases hu with rfl|rfl|rfl|rfl|rfl|rfl<;>rfl
theorem KR (w:World)(n:Nat)(hn:w.heap.size=n)(i q:Int)(r:Bool)(pl vl c:Int):∀j u,(cE (i,q,r,pl,vl,c))[j]? = some u->(w.alloc (eO i q r pl vl c)).cell? ((⟨n,0,none⟩:Addr).add j)=some u:=by
 subst hn;intro j u hj
 match j,hj with
 | 0,hj=>simp[cE] at hj;subst hj;simp[Addr.add]
 | 1,hj=>simp[cE] at hj;subst hj;simp[Addr.add]
 | 2,hj=>simp[cE] at hj;subst hj;simp[Addr.add]
 | 3,hj=>simp[cE] at hj;subst hj;simp[Addr.add]
 | 4,hj=>simp[cE] at hj;subst hj;simp[Addr.add]
 | 5,hj=>simp[cE] at hj;subst hj;simp[Addr.add]
def Re (f:Ev->Bool)(es:List Ev)(k:Nat):Bool:=decide (k<es.length)&&f (es.getD k zE)
def VK (f:Ev->Bool)(es:List Ev):Nat->List Int
 | 0=>[]
 |k+1=>if Re f es k=true then VK f es k++[(k:Int)] else VK f es k
theorem QV (f:Ev->Bool)(es:List Ev):∀k,VK f es k=Bh f es (min k es.length)
 | 0=>by simp[VK,Bh]
 |k+1=>by
  rw[VK,QV f es k];by_cases h:k<es.length
  ·
   rw[show min (k+1) es.length=k+1 by omega,show min k es.length=k by omega,Bh];simp[Re,h]
  ·
   rw[show min (k+1) es.length=min k es.length by omega];simp[Re,h]
theorem iQ (f:Ev->Bool)(es:List Ev)(k:Nat)(h:es.length<=k):VK f es k=Bh f es es.length:=by
 rw[QV,Nat.min_eq_right h]
theorem iR (f:Ev->Bool)(es:List Ev)(k:Nat):(VK f es k).length<=k:=by
 rw[QV];have:=E0 f es (min k es.length);omega
structure Rk (w:World)(a b c:Addr):Prop where
 no:KH w a
 nx:w.cell? ⟨2,0,none⟩=some (Ti b)
 un:w.cell? ⟨3,0,none⟩=some (Ti c)
theorem Dc {w w':World}{b o:Nat}{v:Value}(h:w.cell? ⟨b,o,none⟩=some v)(k:AC w w'):w'.cell? ⟨b,o,none⟩=some v:=(k.cell (KCg w ⟨b,o,none⟩ h)).trans h
theorem Rk.keep {w w':World}{a b c:Addr}(h:Rk w a b c)(k:AC w w'):Rk w' a b c:=⟨h.no.keep k,Dc h.nx k,Dc h.un k⟩
def Tp (t:Bool)(v:Value):Prop:=(t=true/\v = .nilIface)\/(t=false/\∃s b,v=wO s (Ti b))
theorem Tp.no {v:Value}(h:Tp false v):∃s b,v=wO s (Ti b):=h.elim (fun q=>by cases q.1) (fun q=>q.2)
theorem Tp.yes {v:Value}(h:Tp true v):v = .nilIface:=h.elim (fun q=>q.2) (fun q=>by cases q.1)
def Ff (b:Bd):Bd:={ b with AQ:=[],fr:=[],rws:=[] }
def Cj (b b':Bd):Prop:=Ff b=Ff b'
theorem dK (b:Bd)(c p:Nat):(C7 (Ff b) c p).1=(C7 b c p).1:=by
 unfold C7;show (match (b.AJ.getD c []).reverse.find? (fun x:Nt=>x.1==(p:Int)) with|some x=>x.2|none=>(b.AM.getD p 0,(([]:List Int).getD p 0:Int))).1=_;cases (b.AJ.getD c []).reverse.find? (fun x:Nt=>x.1==(p:Int))<;>rfl
theorem Tv (AA:List (List Dd))(es:List Ev)(b:Bd)(c k:Nat):Ff (BL AA es (Ff b) c k)=Ff (BL AA es b c k):=by
 unfold BL;split
 ·
  have h:=dK b c (Aj AA c k).2.1.toNat;unfold Fz;show ({ AM:=b.AM,AQ:=[],AJ:=b.AJ,AK:=b.AK,sn:=Hf _ _ (C7 (Ff b) c _).1 b.sn,fr:=[],rws:=[] }:Bd)=_;rw[h];rfl
 ·
  split
  . rfl
  ·
   split
   . rfl
   . split<;>rfl
theorem PO (AA:List (List Dd))(es:List Ev)(b:Bd)(c:Nat):Ff (Ah AA es (Ff b) c)=Ff (Ah AA es b c):=by
 have h:=Tv AA es b c (Am b c);have e:Am (Ff b) c=Am b c:=rfl;unfold Ah;rw[e];simp only[Ff] at h ⊢;injection h with h1 h2 h3 h4 h5;rw[h1,h3,h5]
theorem Tr {AA:List (List Dd)}{es:List Ev}{b b':Bd}(h:Cj b b')(c:Nat):Cj (Ah AA es b c) (Ah AA es b' c):=by
 unfold Cj at h ⊢;rw[<-PO,h,PO]
theorem Ef {b b':Bd}(h:Cj b b'):b.AK=b'.AK/\b.AJ=b'.AJ/\b.sn=b'.sn/\b.AM=b'.AM:=by
 unfold Cj Ff at h;injection h with h1 h2 h3 h4 h5;exact⟨h4,h3,h5,h1⟩
theorem WX {b b':Bd}(h1:b.AK=b'.AK)(h2:b.AJ=b'.AJ)(h3:b.sn=b'.sn)(h4:b.AM=b'.AM):Cj b b':=by
 unfold Cj Ff;rw[h1,h2,h3,h4]
theorem PJ {AA:List (List Dd)}{es:List Ev}(g:Int)(c:Nat):∀(m:Nat) (b b':Bd),Cj b b'->Cj (FF AA es g c m b) (FF AA es g c m b')
 | 0,_,_,h=>h
 |m+1,b,b',h=>by
  have h1:=Tr (AA:=AA) (es:=es) h c;have e:Am (Ah AA es b c) c=Am (Ah AA es b' c) c:=by unfold Am;rw[(Ef h1).1]
  rw[FF,FF,e];split
  . exact h1
  . exact PJ g c m _ _ h1
theorem QO {b b':Bd}(h:Cj b b')(c:Nat):Cj (BS b c) (BS b' c):=by
 obtain⟨h1,h2,h3,h4⟩:=Ef h;unfold BS;rw[h2];split
 . exact h
 ·
  unfold Cj Ff EJ;simp only;rw[h1,h3,h4]
theorem Hz {AA:List (List Dd)}{es:List Ev}{b b':Bd}(h:Cj b b')(s:Int):Cj (Ar AA es b s) (Ar AA es b' s):=by
 unfold Ar;have e:Am b s.toNat=Am b' s.toNat:=by unfold Am;rw[(Ef h).1]
 split
 . exact QO h _
 . rw[e];exact PJ _ _ _ _ _ h
theorem QP {AA:List (List Dd)}{es:List Ev}{b b':Bd}(h:Cj b b')(c:Nat):Cj (CZ AA es b c) (CZ AA es b' c):=by
 have h1:=Hz (AA:=AA) (es:=es) h (c:Int);unfold CZ;rw[(Ef h1).2.1];split
 . exact h1
 . exact Hz h1 _
theorem Hy {AA:List (List Dd)}{b b':Bd}(h:Cj b b'):Aq AA b=Aq AA b'/\Ce AA b=Ce AA b'/\Dl AA b=Dl AA b'/\An b=An b':=by
 obtain⟨h1,h2,h3,h4⟩:=Ef h;have hn:∀c,Am b c=Am b' c:=fun c=>by unfold Am;rw[h1]
 have hc:Ce AA b=Ce AA b':=by funext c;unfold Ce;rw[hn,h2]
 refine⟨?_,hc,?_,?_⟩
 ·
  unfold Aq;rw[hc,h2]
 ·
  unfold Dl;rw[h2]
  congr 1
  funext c;rw[hn]
 . unfold An;rw[h3,h4]
theorem Hg:∀ {l' l:List Nat},l'.Pairwise (·<·)->l.Pairwise (·<·)->(∀x∈l',x∈l)->l'.Sublist l
 | [],_,_,_,_=>List.nil_sublist _
 |y::r',[],_,_,h=>by cases h y (by simp)
 |y::r',x::r,h',h,hs=>by
  obtain⟨a1,a2⟩:=KCA.1 h';obtain⟨b1,b2⟩:=KCA.1 h;by_cases e:y=x
  ·
   subst e;refine (Hg a2 b2 (fun z hz=>?_)).cons_cons y;rcases KBL.1 (hs z (KBT _ hz)) with q|q
   . have:=a1 z hz;omega
   . exact q
  ·
   have hy:y∈r:=by
    rcases KBL.1 (hs y (by simp)) with q|q
    . exact absurd q e
    . exact q
   have hxy:=b1 y hy;refine (Hg h' b2 (fun z hz=>?_)).cons x;rcases KBL.1 (hs z hz) with q|q
   ·
    rcases KBL.1 hz with q2|q2
    . exact q2 ▸ hy
    . have:=a1 z q2;omega
   . exact q
theorem Sx {AA:List (List Dd)}{b b':Bd}{a a':Ab}{τ τ':Nat->Nat}{T T':Nat}{z z':Int}(M:MI AA b a τ T z)(M':MI AA b' a' τ' T' z'){c:Nat}(hn:a.nx c=a'.nx c){x y:Nat}(hx:x∈a.N c)(hy:y∈a'.N c)(hxy:x<=y):y∈a.N c:=by
 rcases KCQ x y with h|h
 ·
  have hy':=M'.inv.note (c:Int) y (by rw[JX];exact hy);obtain⟨⟨q1,q2⟩,q3,q4,q5⟩:=hy';have hck:((AB AA).getD y zE).1=(c:Int):=q4
  have hX:(DI AA a τ).X y:=by
   refine⟨q1,?_⟩;unfold Et at q2 ⊢;rw[hck,KAV] at q2 ⊢;rw[hn];exact q2
  have hx':x∈(DI AA a τ).N (c:Int):=by rw[JX];exact hx
  rcases M.inv.pend (c:Int) x y hx' hX h q4 with q|q
  . rw[q5] at q;cases q.1
  . rwa [JX] at q
 ·
  have:x=y:=by omega
  exact this ▸ hx
theorem Xr {AA:List (List Dd)}{b b':Bd}{a a':Ab}{τ τ':Nat->Nat}{T T':Nat}{z z':Int}(M:MI AA b a τ T z)(M':MI AA b' a' τ' T' z'){c:Nat}(hn:a.nx c=a'.nx c)(hl:(a.N c).length=(a'.N c).length):a.N c=a'.N c:=by
 have s:=M.inv.Ma (c:Int);have s':=M'.inv.Ma (c:Int);rw[JX] at s s';have up:=fun {x y}=>@Sx AA b b' a a' τ τ' T T' z z' M M' c hn x y
 have up':=fun {x y}=>@Sx AA b' b a' a τ' τ T' T z' z M' M c hn.symm x y
 generalize a.N c=l at *;generalize a'.N c=l' at *
 cases l with
 |nil=>exact (KAZ hl.symm).symm
 |cons x r=>
  cases l' with
  |nil=>cases hl
  |cons y r'=>
   obtain⟨a1,a2⟩:=KCA.1 s;obtain⟨b1,b2⟩:=KCA.1 s';rcases Nat.le_total x y with h|h
   ·
    refine ((Hg s' s (fun v hv=>up (List.mem_cons_self) hv ?_)).eq_of_length hl.symm).symm;rcases KBL.1 hv with q|q
    . omega
    . have:=b1 v q;omega
   ·
    refine (Hg s s' (fun v hv=>up' (List.mem_cons_self) hv ?_)).eq_of_length hl;rcases KBL.1 hv with q|q
    . omega
    . have:=a1 v q;omega
def Bl (b b':Bd):Prop:=b.AM=b'.AM/\b.AK=b'.AK/\b.AJ.map List.length=b'.AJ.map List.length/\b.sn=b'.sn
theorem Cj.stand {b b':Bd}(h:Cj b b'):Bl b b':=by
 obtain⟨h1,h2,h3,h4⟩:=Ef h;exact⟨h4,h1,by rw[h2],h3⟩
theorem TT {AA:List (List Dd)}(hb:AL AA=true){quick quick':Bool}{b b':Bd}(h:Br AA quick b)(h':Br AA quick' b')(hs:Bl b b'):Cj b b':=by
 obtain⟨a,τ,T,z,M,-⟩:=BF hb h;obtain⟨a',τ',T',z',M',-⟩:=BF hb h';obtain⟨s1,s2,s3,s4⟩:=hs;refine WX s2 ?_ s4 s1
 have hn:∀c,c<AA.length->a.nx c=a'.nx c:=fun c hc=>by
  have e:b.AK.getD c 0=b'.AK.getD c 0:=by rw[s2]
  rw[(Ed M.B0 hc).1,(Ed M'.B0 hc).1] at e;omega
 rw[M.B0.AJ,M'.B0.AJ] at s3 ⊢;refine KAh (fun c hc=>?_);have hc':=KAd.1 hc;rw[KCW,KCW] at s3;have e:=KBf (fun l:List Nat=>l.getD c 0) s3;have e1:=DS (List.length ∘ fun c=>(a.N c).map (Xs AA)) 0 hc';have e2:=DS (List.length ∘ fun c=>(a'.N c).map (Xs AA)) 0 hc';have e:=e1.symm.trans (e.trans e2);simp only[Function.comp_apply,KAj] at e;rw[Xr M M' (hn c hc') e]
def Wl (AA:List (List Dd))(c:Nat):Nat->Bool
 | 0=>true
 |k+1=>decide (BP AA c (k+1)=0) || !decide (BP AA c k=BP AA c (k+1))
theorem PQ (AA:List (List Dd))(c k:Nat):Wl AA c (k+1)=(decide (BP AA c (k+1)=0) || !decide (BP AA c k=BP AA c (k+1))):=rfl
def R8 (AA:List (List Dd))(c:Nat):Nat->Nat
 | 0=>0
 |k+1=>R8 AA c k+if Wl AA c k=true then 1 else 0
def ko (AA:List (List Dd))(c:Nat):Nat->Nat
 | 0=>0
 |k+1=>ko AA c k+if (Aj AA c k).1=2/\¬ 0<BP AA c k then 1 else 0
def Hp (b:Bd)(c:Nat):Nat:=(b.AJ.getD c []).length
def fK (AA:List (List Dd))(quick:Bool)(b:Bd)(c:Nat):Int:=(R8 AA c (Am b c):Int)+if quick=true then 0 else (ko AA c (Am b c):Int)-(Hp b c:Int)
def LM (f:Nat->Int):Nat->Int
 | 0=>0
 |m+1=>LM f m+f m
theorem JP {f g:Nat->Int}:∀m:Nat,(∀c,c<m->f c=g c)->LM f m=LM g m
 | 0,_=>rfl
 |m+1,h=>by rw[LM,LM,JP m (fun c hc=>h c (by omega)),h m (by omega)]
theorem Lr {f g:Nat->Int}{c:Nat}(h1:f c=g c+1)(h2:∀c',c'≠c->f c'=g c'):∀m:Nat,c<m->LM f m=LM g m+1
 | 0,h=>by omega
 |m+1,h=>by
  rw[LM,LM];by_cases e:c=m
  ·
   subst e;rw[JP c (fun c' hc=>h2 c' (by omega)),h1];omega
  ·
   have:=Lr h1 h2 m (by omega);rw[h2 m (fun h=>e h.symm),this];omega
def gL (AA:List (List Dd))(quick:Bool)(b:Bd):Int:=LM (fK AA quick b) AA.length
def Ri (AA:List (List Dd))(b:Bd):Prop:=∀c,c<AA.length->Am b c<(AA.getD c []).length->Wl AA c (Am b c)=true
theorem bK {AA:List (List Dd)}{es:List Ev}{b:Bd}(hL:LN AA b){c:Nat}(hc:c<AA.length):(∀c',c'≠c->(Ah AA es b c).AJ.getD c' []=b.AJ.getD c' [])/\Hp (Ah AA es b c) c=Hp b c+if (Aj AA c (Am b c)).1=2/\¬ 0<BP AA c (Am b c) then 1 else 0:=by
 have e:(Ah AA es b c).AJ=(BL AA es b c (Am b c)).AJ:=rfl;unfold Hp;rw[e];unfold BL;by_cases h1:(Aj AA c (Am b c)).1=1
 . rw[KAP h1,KAQ (by omega)];exact⟨fun _ _=>rfl,rfl⟩
 ·
  rw[KAQ h1];by_cases h3:(Aj AA c (Am b c)).1=3
  . rw[KAP h3,KAQ (by omega)];exact⟨fun _ _=>rfl,rfl⟩
  ·
   rw[KAQ h3];by_cases h2:(Aj AA c (Am b c)).1=2/\0<BP AA c (Am b c)
   . rw[KAP h2,KAQ (fun h=>h.2 h2.2)];exact⟨fun _ _=>rfl,rfl⟩
   ·
    rw[KAQ h2];by_cases h4:(Aj AA c (Am b c)).1=2
    ·
     rw[KAP h4,KAP ⟨h4,fun h=>h2 ⟨h4,h⟩⟩];refine⟨fun c' h=>?_,?_⟩
     . rw[show ({ b with AJ:=b.AJ.set c _ }:Bd).AJ=b.AJ.set c _ from rfl,DC _ _ _ _ _ (by rw[hL.2];exact hc),KAQ (fun h2=>h h2.symm)]
     . rw[show ({ b with AJ:=b.AJ.set c _ }:Bd).AJ=b.AJ.set c _ from rfl,DC _ _ _ _ _ (by rw[hL.2];exact hc),KAP rfl,KAJ];rfl
    . rw[KAQ h4,KAQ (fun h=>h4 h.1)];exact⟨fun _ _=>rfl,rfl⟩
structure WT (AA:List (List Dd))(c:Nat)(b b':Bd):Prop where
 Yf:∀c',c'≠c->Am b' c'=Am b c'/\b'.AJ.getD c' []=b.AJ.getD c' []
 wr:(ko AA c (Am b' c):Int)-(Hp b' c:Int)=(ko AA c (Am b c):Int)-(Hp b c:Int)
 bl:R8 AA c (Am b' c)=R8 AA c (Am b c+1)
 lt:Am b c<Am b' c
 FU:Am b' c<(AA.getD c []).length->Wl AA c (Am b' c)=true
theorem WG {AA:List (List Dd)}{es:List Ev}(g:Int){c:Nat}(hc:c<AA.length):∀(m:Nat) (b:Bd),LN AA b->(∀c,0<=b.AK.getD c 0)->1<=m->Am b c<(AA.getD c []).length->(AA.getD c []).length<=Am b c+m->BP AA c (Am b c)=g ->
  WT AA c b (FF AA es g c m b)
 | 0,_,_,_,h,_,_,_=>by omega
 |m+1,b,hL,h0,_,hk,hm,hg=>by
  obtain⟨-,q1,q2⟩:=Vh (es:=es) hL h0 hc hk;have hn:=(Uf (es:=es) hL h0 hc).1;have hnc:=hn c;rw[KAP rfl] at hnc;obtain⟨n1,n2⟩:=bK (es:=es) hL hc
  have wr1:(ko AA c (Am (Ah AA es b c) c):Int)-(Hp (Ah AA es b c) c:Int)=(ko AA c (Am b c):Int)-(Hp b c:Int):=by
   rw[hnc,ko,n2];split<;>omega
  have qJ:∀c',c'≠c->Am (Ah AA es b c) c'=Am b c'/\(Ah AA es b c).AJ.getD c' []=b.AJ.getD c' []:=fun c' h=>⟨by rw[hn,KAQ (fun e=>h e.symm)],n1 c' h⟩
  rw[FF];split
  ·
   rename_i hs;refine⟨qJ,wr1,by rw[hnc],by omega,fun hlt=>?_⟩;rw[hnc] at hlt hs ⊢;rw[PQ];rcases hs with hs|hs|hs
   ·
    by_cases e:BP AA c (Am b c+1)=0
    . simp[e]
    ·
     rw[hg,hs];have:¬(0:Int)=BP AA c (Am b c+1):=fun h=>e h.symm
     simp[this]
   . omega
   ·
    rw[hg];have:¬g=BP AA c (Am b c+1):=fun h=>hs h.symm
    simp[this]
  ·
   rename_i hs;have hs0:¬g=0:=fun h=>hs (.inl h)
   have hs1:¬Am (Ah AA es b c) c=(AA.getD c []).length:=fun h=>hs (.inr (.inl h))
   have hs2:BP AA c (Am (Ah AA es b c) c)=g:=by
    by_cases e:BP AA c (Am (Ah AA es b c) c)=g
    . exact e
    . exact absurd (.inr (.inr e)) hs
   have S:=WG (es:=es) g hc m (Ah AA es b c) q1 q2 (by omega) (by omega) (by omega) hs2;refine⟨fun c' h=>⟨(S.Yf c' h).1.trans (qJ c' h).1,(S.Yf c' h).2.trans (qJ c' h).2⟩,S.wr.trans wr1,?_,by have:=S.lt;omega,S.FU⟩;rw[S.bl,hnc,R8]
   have hnb:Wl AA c (Am b c+1)=false:=by
    rw[PQ];rw[hnc] at hs2;rw[hg,hs2];simp[hs0]
   rw[hnb];simp
theorem TW {AA:List (List Dd)}{es:List Ev}{b:Bd}(hL:LN AA b)(h0:∀c,0<=b.AK.getD c 0){c:Nat}(hl3:AA.length<=3)(hc:c<AA.length)(hk:Am b c<(AA.getD c []).length):WT AA c b (Ar AA es b (c:Int)):=by
 unfold Ar;rw[KAQ (by omega),show (c:Int).toNat=c from KAV c];exact WG _ hc _ b hL h0 (by omega) hk (by omega) rfl
theorem PZ {AA:List (List Dd)}{b:Bd}(hL:LN AA b){c:Nat}(hc:c<AA.length):(BS b c).AK=b.AK/\(∀c',c'≠c->(BS b c).AJ.getD c' []=b.AJ.getD c' [])/\(b.AJ.getD c []≠[]->Hp b c=Hp (BS b c) c+1):=by
 unfold BS Hp
 cases hq:b.AJ.getD c [] with
 |nil=>exact⟨rfl,fun _ _=>rfl,fun h=>absurd rfl h⟩
 |cons x r=>
  have e:∀c',(b.AJ.set c r).getD c' []=if c=c' then r else b.AJ.getD c' []:=fun c'=>DC _ _ _ _ _ (by rw[hL.2];exact hc)
  refine⟨rfl,fun c' h=>?_,fun _=>?_⟩
  ·
   show (b.AJ.set c r).getD c' []=_;rw[e,KAQ (fun h2=>h h2.symm)]
  ·
   show (x::r).length=((b.AJ.set c r).getD c []).length+1;rw[e,KAP rfl];rfl
theorem Sz {b b':Bd}(h:b'.AK=b.AK)(c:Nat):Am b' c=Am b c:=by unfold Am;rw[h]
theorem WT.tm {AA:List (List Dd)}{quick:Bool}{c:Nat}{b b':Bd}(S:WT AA c b b')(hc:c<AA.length)(hb:Wl AA c (Am b c)=true):gL AA quick b'=gL AA quick b+1:=by
 refine Lr (c:=c) ?_ (fun c' h=>?_) _ hc
 ·
  unfold fK;rw[S.bl,R8,hb,KAP rfl];have:=S.wr;cases quick
  . simp only[KBO,KCU];omega
  . simp only[KCT];omega
 ·
  unfold fK Hp;rw[(S.Yf c' h).1,(S.Yf c' h).2]
theorem WT.atb {AA:List (List Dd)}{c:Nat}{b b':Bd}(S:WT AA c b b')(h:Ri AA b):Ri AA b':=by
 intro c' hc' hk;by_cases e:c'=c
 . subst e;exact S.FU hk
 . rw[(S.Yf c' e).1] at hk ⊢;exact h c' hc' hk
theorem Vo {AA:List (List Dd)}(hb:AL AA=true){quick:Bool}{b x:Bd}(hr:Br AA quick b)(ha:Ri AA b)(hx:x∈Bp AA (AB AA) quick b):gL AA quick x=gL AA quick b+1/\Ri AA x:=by
 obtain⟨a,_,_,_,M,_⟩:=BF hb hr;obtain⟨hL,h0⟩:=dU M.B0;have hl3:=Da hb
 have can:∀c,c<AA.length->Ce AA b c=true->Am b c<(AA.getD c []).length:=fun c _ h=>by
  unfold Ce at h;simp only[KAO,KAN] at h;exact h.1
 rcases Ib hb hx with ⟨hq,c,hc,hcan,rfl⟩|⟨hq,s,hs,rfl⟩
 ·
  have hk:=can c hc hcan;have S:=TW (es:=AB AA) hL h0 hl3 hc hk;obtain⟨-,m2,-⟩:=Ku hb (es:=AB AA) hL h0 (TB hc hcan);subst hq;have t1:=S.tm (quick:=true) hc (ha c hc hk);have t2:=S.atb ha;unfold CZ;split
  . exact⟨t1,t2⟩
  ·
   have e10:Ar AA (AB AA) (Ar AA (AB AA) b (c:Int)) (10+(c:Int))=BS (Ar AA (AB AA) b (c:Int)) c:=by
    rw[Ar,KAP (by omega),show (10+(c:Int)-10).toNat=c by omega]
   rw[e10];generalize Ar AA (AB AA) b (c:Int)=y at *;obtain⟨f1,-,-⟩:=PZ m2 hc;refine⟨?_,fun c' hc' hk'=>?_⟩
   ·
    rw[<-t1];refine JP _ (fun c' _=>?_);unfold fK;rw[Sz f1];rfl
   . rw[Sz f1] at hk' ⊢;exact t2 c' hc' hk'
 ·
  subst hq;rcases Ln (Mj hs) hl3 with ⟨c,rfl,hc,hcan,_⟩|⟨c,rfl,hc,hne,_⟩
  ·
   have hk:=can c hc hcan;have S:=TW (es:=AB AA) hL h0 hl3 hc hk;exact⟨S.tm hc (ha c hc hk),S.atb ha⟩
  ·
   have e10:Ar AA (AB AA) b (10+(c:Int))=BS b c:=by
    rw[Ar,KAP (by omega),show (10+(c:Int)-10).toNat=c by omega]
   rw[e10];obtain⟨f1,f2,f3⟩:=PZ hL hc;refine⟨Lr (c:=c) ?_ (fun c' h=>?_) _ hc,fun c' hc' hk'=>?_⟩
   ·
    unfold fK;rw[Sz f1];have:=f3 hne;simp only[KBO,KCU];omega
   ·
    unfold fK Hp;rw[Sz f1,f2 c' h]
   . rw[Sz f1] at hk' ⊢;exact ha c' hc' hk'
theorem TH {AA:List (List Dd)}(hb:AL AA=true){quick:Bool}{b:Bd}(h:Br AA quick b):Ri AA b/\∃n:Nat,gL AA quick b=(n:Int)/\n+ER AA b<=24:=by
 induction h with
 |new=>
  have h0:∀c',Am (C5 AA) c'=0:=fun c'=>by
   have:(C5 AA).AK.getD c' 0=0:=by
    show (List.replicate AA.length (0:Int)).getD c' 0=0;rw[IT,KBG];split<;>rfl
   unfold Am;rw[this];rfl
  have h1:∀c',Hp (C5 AA) c'=0:=fun c'=>by
   unfold Hp;show ((List.replicate AA.length ([]:List Nt)).getD c' []).length=0;rw[IT,KBG];split<;>rfl
  refine⟨fun c _ _=>by rw[h0];rfl,0,?_,by have:=(Vg hb).1;omega⟩
  have:∀m,LM (fK AA quick (C5 AA)) m=0:=by
   intro m
   induction m with
   |zero=>rfl
   |succ m ih=>
    rw[LM,ih];unfold fK;rw[h0,h1,R8,ko];simp
  exact this _
 |step hr hx ih=>
  obtain⟨ha,n,hn,hm⟩:=ih;obtain⟨q1,q2⟩:=Vo hb hr ha hx;have:=JH hb hr hx;exact⟨q2,n+1,by rw[q1,hn];omega,by omega⟩
theorem fC {AA:List (List Dd)}{quick:Bool}{b b':Bd}(h:Cj b b'):gL AA quick b=gL AA quick b':=by
 obtain⟨h1,h2,_,_⟩:=Ef h;refine JP _ (fun c _=>?_);unfold fK Hp Am;rw[h1,h2]
def fu (w:World)(v:Value)(Bn:List (List Int)):Prop:=
 ∃(a:Option Addr) (cap:Nat),v = .slice a Bn.length cap /\
  (Bn=[]\/∃b off,a=some ⟨b,off,none⟩/\b<w.heap.size/\∀i,i<Bn.length->∃vi,w.cell? ⟨b,off+i,none⟩=some vi/\Rd w vi (Bn.getD i []))
theorem fu.keep {w w':World}{v:Value}{Bn:List (List Int)}(h:fu w v Bn)(k:AC w w'):fu w' v Bn:=by
 obtain⟨a,cap,hv,h⟩:=h;refine⟨a,cap,hv,?_⟩;rcases h with h|⟨b,off,ha,hb,hc⟩
 . exact .inl h
 ·
  refine .inr ⟨b,off,ha,KAC hb k.size,fun i hi=>?_⟩;obtain⟨vi,h1,h2⟩:=hc i hi;exact⟨vi,(k.cell hb).trans h1,h2.keep k⟩
theorem Tryz.vK:(Tryz.prog.info? 25).map (fun i=>(i.zero,i.size,i.bytes))=some (some (.slice none 0 0),1,24):=by kernel_rfl
section
structure Rw where
 e:TypeId
 size:Nat
 v:Value
 n:Nat
 xs:List Value
def Rw.own (w:World)(m:Nat)(r:Rw):Prop:=w.ownsRow m r.e r.size r.v r.n r.xs
def JR {ι:Type}[DecidableEq ι](R:ι->Rw)(i:ι)(r:Rw):ι->Rw:=fun j=>if j=i then r else R j
theorem Ao {ι:Type}[DecidableEq ι](R:ι->Rw)(i:ι)(r:Rw):JR R i r i=r:=KAP rfl
theorem AV {ι:Type}[DecidableEq ι](R:ι->Rw){i j:ι}(r:Rw)(h:j≠i):JR R i r j=R j:=KAQ h
structure GU {ι:Type}(w:World)(m:Nat)(live:ι->Prop)(R:ι->Rw):Prop where
 own:∀i,live i->(R i).own w m
 apart:∀i j,live i->live j->i≠j->(R i).v.ownBlock=none\/(R i).v.ownBlock≠(R j).v.ownBlock
section
variable {ι:Type} {w w':World} {m:Nat} {live:ι->Prop} {R:ι->Rw}
theorem GU.lt (h:GU w m live R){i:ι}(hi:live i):∀k,(R i).v.ownBlock=some k->m<=k/\k<w.heap.size:=KAY (h.own i hi)
theorem GU.keep (h:GU w m live R)(k:AC w w'):GU w' m live R:=
 ⟨fun i hi=>KAs (h.own i hi) k.grownBy (by cases (R i).v.ownBlock<;>simp),h.apart⟩
theorem GU.far (h:GU w m live R){row:Option Nat}(hg:w.grownBy w' row)(hr:∀i,live i->(R i).v.ownBlock=none\/(R i).v.ownBlock≠row):GU w' m live R:=
 ⟨fun i hi=>KAs (h.own i hi) hg (hr i hi),h.apart⟩
theorem GU.congr (h:GU w m live R){live':ι->Prop}{R':ι->Rw}(hl:∀i,live' i->live i)(hr:∀i,live' i->R' i=R i):GU w m live' R':=
 ⟨fun i hi=>by rw[hr i hi];exact h.own i (hl i hi),fun i j hi hj hij=>by rw[hr i hi,hr j hj];exact h.apart i j (hl i hi) (hl j hj) hij⟩
variable [DecidableEq ι]
theorem GU.set (h:GU w m live R){i:ι}(hi:live i){r:Rw}(hg:w.grownBy w' (R i).v.ownBlock)(hb:r.v.ownBlock=(R i).v.ownBlock\/r.v.ownBlock=some w.heap.size\/r.v.ownBlock=none)(ho:r.own w' m):GU w' m live (JR R i r):=by
 refine⟨fun j hj=>?_,fun j k hj hk hjk=>?_⟩
 ·
  by_cases e:j=i
  . subst e;rw[Ao];exact ho
  ·
   rw[AV R r e];exact KAs (h.own j hj) hg (h.apart j i hj hi e)
 ·
  have new:∀j,live j->j≠i->(R j).v.ownBlock=none\/(R j).v.ownBlock≠some w.heap.size:=fun j hj _=>by
   cases e:(R j).v.ownBlock with
   |none=>exact .inl rfl
   |some b=>exact .inr (fun e'=>by have:=(h.lt hj b e).2;have:=KAI e';omega)
  by_cases ej:j=i
  ·
   subst ej;have ek:k≠j:=fun e=>hjk e.symm
   rw[Ao,AV R r ek];rcases hb with hb|hb|hb
   . rw[hb];exact h.apart j k hj hk hjk
   ·
    rw[hb];right;intro e;rcases new k hk ek with h1|h1
    . rw[h1] at e;cases e
    . exact h1 e.symm
   . exact .inl hb
  ·
   rw[AV R r ej];by_cases ek:k=i
   ·
    subst ek;rw[Ao];rcases hb with hb|hb|hb
    . rw[hb];exact h.apart j k hj hk hjk
    . rw[hb];exact new j hj ej
    ·
     rw[hb]
     cases (R j).v.ownBlock with
     |none=>exact .inl rfl
     |some b=>exact .inr (by simp)
   ·
    rw[AV R r ek];exact h.apart j k hj hk hjk
theorem GU.add (h:GU w m live R){i:ι}(hi:¬live i){r:Rw}{s:Nat}(hs:s=w.heap.size)(k:AC w w')(ho:r.own w' m)(hn:∀b,r.v.ownBlock=some b->s<=b):GU w' m (fun j=>live j\/j=i) (JR R i r):=by
 have hk:=h.keep k
 have new:∀j,live j->(R j).v.ownBlock=none\/(R j).v.ownBlock≠r.v.ownBlock:=fun j hj=>by
  cases e:(R j).v.ownBlock with
  |none=>exact .inl rfl
  |some b=>exact .inr (fun e'=>by have:=(h.lt hj b e).2;have:=hn b e'.symm;omega)
 have ne:∀j,live j->j≠i:=fun j hj e=>hi (e ▸ hj)
 refine⟨fun j hj=>?_,fun j l hj hl hjl=>?_⟩
 ·
  rcases hj with hj|rfl
  . rw[AV R r (ne j hj)];exact hk.own j hj
  . rw[Ao];exact ho
 ·
  rcases hj with hj|rfl
  ·
   rw[AV R r (ne j hj)];rcases hl with hl|rfl
   . rw[AV R r (ne l hl)];exact h.apart j l hj hl hjl
   . rw[Ao];exact new j hj
  ·
   rw[Ao];rcases hl with hl|rfl
   ·
    rw[AV R r (ne l hl)];rcases new l hl with h1|h1
    ·
     rw[h1]
     cases r.v.ownBlock with
     |none=>exact .inl rfl
     |some b=>exact .inr (by simp)
    . exact .inr (fun e=>h1 e.symm)
   . exact absurd rfl hjl
end
theorem Rw.cell {w:World}{m:Nat}{r:Rw}(h:r.own w m){g cap k:Nat}(hv:r.v = .slice (some ⟨g,0,none⟩) r.n cap)(hk:k<r.n*r.size):w.cell? ⟨g,k,none⟩=r.xs[k]?:=by
 unfold Rw.own at h;rw[hv] at h;exact KAp h k hk
theorem Rw.put {w:World}{m:Nat}{r:Rw}(h:r.own w m){g cap k:Nat}(hv:r.v = .slice (some ⟨g,0,none⟩) r.n cap)(x:Value):Rw.own (w.setCell ⟨g,k,none⟩ x) m { r with xs:=r.xs.set k x }/\w.grownBy (w.setCell ⟨g,k,none⟩ x) r.v.ownBlock/\w.frozen? ⟨g,k,none⟩=false:=by
 unfold Rw.own at h ⊢;rcases h.2 with ⟨h1,_⟩|⟨g',cap',cur,h1,hb,hg,hn,hm,hs,ht⟩
 . rw[hv] at h1;simp at h1
 ·
  rw[hv] at h1;simp only[KAT,KAg,KA6,KBX,KA8] at h1;obtain⟨rfl,rfl⟩:=h1;refine⟨⟨by simpa using h.1,.inr ⟨g,cap,cur.setIfInBounds k x,hv,hb,KAt w g k _ _ _ hg,hn,hm,by simpa using hs,?_⟩⟩,?_,KA1 w g k _ _ hg⟩
  . rw[KCL,List.take_set,ht]
  ·
   rw[hv];exact Ad w g k x
end
section
abbrev AF:Value:= .slice none 0 0
abbrev Bk (zs:List Int)(v:Value):Rw:=⟨2,1,v,zs.length,zs.map (Value.int .i64)⟩
abbrev Em (t:TypeId)(vs:List Value)(v:Value):Rw:=⟨t,1,v,vs.length,vs⟩
section
variable {w:World} {m:Nat}
theorem Bu {t:TypeId}{u:Value}{vs:List Value}(o:(Em t vs u).own w m):∃a cap,u = .slice a vs.length cap/\(vs=[]\/∃g,a=some ⟨g,0,none⟩/\g<w.heap.size/\∀i,i<vs.length->w.cell? ⟨g,i,none⟩=some (vs.getD i AF)):=by
 have hlt:=KAY o;have o':=o;rcases o.2 with ⟨h1,h2⟩|⟨g,cap,cur,h1,_⟩
 ·
  have:vs=[]:=KAZ h2;subst this;exact⟨none,0,h1,.inl rfl⟩
 ·
  refine⟨some ⟨g,0,none⟩,cap,h1,.inr ⟨g,rfl,(hlt g (by show u.ownBlock=_;rw[show u=_ from h1];rfl)).2,fun i hi=>?_⟩⟩;have o2:w.ownsRow m t 1 (.slice (some ⟨g,0,none⟩) vs.length cap) vs.length vs:=by rw[<-show u=_ from h1];exact o'
  rw[KAp o2 i (by omega),IT,KAH hi];rfl
end
theorem BR {α:Type}(l:List α)(k:Nat)(x z:α)(hk:k<l.length)(j:Nat):(l.set k x).getD j z=if j=k then x else l.getD j z:=by
 rw[IT,IT,KBt];by_cases e:k=j
 . subst e;simp[hk]
 . rw[KAQ e,KAQ (fun h=>e h.symm)]
end
theorem Tryz.Qk:(Tryz.prog.info? 25).map (fun i=>(i.zero,i.size,i.bytes))=some (some (.slice none 0 0),1,24):=by kernel_rfl
theorem Dp {w:World}{m m':Nat}{e:TypeId}{n:Nat}{v:Value}{k:Nat}{xs:List Value}(o:w.ownsRow m e n v k xs)(hm:m'<=m):w.ownsRow m' e n v k xs:=by
 refine⟨o.1,?_⟩;rcases o.2 with q|⟨g,cap,cur,e,hg,r⟩
 . exact .inl q
 . exact .inr ⟨g,cap,cur,e,KAU hm hg,r⟩
theorem A8.lit {w:World}{base:Nat}{v:Value}{zs:List Int}(h:A8 w base v zs){k:Nat}(hk:k<zs.length):∃g cap,v = .slice (some ⟨g,0,none⟩) zs.length cap/\g<w.heap.size/\(∀i,i<zs.length->w.cell? ⟨g,i,none⟩=some (.int .i64 (zs.getD i 0)))/\∀i,w.frozen? ⟨g,i,none⟩=false:=by
 have h':=h;have hlt:=KAY h;rcases h.2 with ⟨_,hn⟩|⟨g,cap,cur,rfl,_⟩
 . omega
 ·
  refine⟨g,cap,rfl,(hlt g rfl).2,fun i hi=>?_,fun i=>KC5 h' i⟩;rw[KAp h' i (by simpa using hi),KBN,KAH hi,IT,KAH hi];rfl
def Ik (v:Value)(n:Nat)(a:Addr):Prop:=∃b o l c i,v = .slice (some ⟨b,o,none⟩) l c/\i<n/\a=⟨b,o+i,none⟩
def Wb (w:World)(a:Addr):Prop:=∃cur t,w.heap[a.block]? = some (.cells cur t (0,0))/\a.off<cur.size
theorem Wb.lt {w:World}{a:Addr}(h:Wb w a):a.block<w.heap.size:=by
 obtain⟨cur,t,h,_⟩:=h;exact (KAm.1 h).1
def Il (rs:List (Value×Nat))(a:Addr):Prop:=∃r∈rs,Ik r.1 r.2 a
structure lU (w:World)(rs:List (Value×Nat)):Prop where
 wb:∀a,Il rs a->Wb w a
 ap:rs.Pairwise (fun r s=>∀a,Ik r.1 r.2 a->¬Ik s.1 s.2 a)
section
section
variable {α:Type} (t:TypeId) (rowOf:List α->Value->Rw)
def Lk (v:Value)(hs:List Value)(xss:List (List α)):Option Nat->Rw
 |none=>Em t hs v
 |some i=>rowOf (xss.getD i []) (hs.getD i AF)
def FI (j:Nat):Option Nat->Prop
 |none=>True
 |some i=>i<j
variable {t rowOf} {w w2:World} {m:Nat} {v u:Value} {hs:List Value} {xss:List (List α)} {j:Nat}
structure Ch (t:TypeId)(rowOf:List α->Value->Rw)(w:World)(m:Nat)(v:Value)(hs:List Value)(xss:List (List α)):Prop where
 Ag:GU w m (FI hs.length) (Lk t rowOf v hs xss)
 len:hs.length=xss.length
end
end
def NY (l:List Int)(lo hi:Int):Bool:=l.all (fun x=>Co x lo hi)
def Fq (l:List Int)(n lo hi:Int):Bool:=decide ((l.length:Int)=n)&&NY l lo hi
def JW (last:Int)(l:List Int):Bool:=decide (l.length<=20)&&Fq l l.length 0 last
def Vp (last:Int)(x:Nt):Bool:=Co x.1 0 2&&(Co x.2.1 0 9&&Co x.2.2 0 last)
def PA (last:Int)(l:List Nt):Bool:=decide (l.length<=8)&&l.all (Vp last)
def FJ (last:Int)(b:Bd):Bool:=Fq b.AM 3 0 9&&(Fq b.AQ 3 0 last&&(decide (b.rws.length=3)&&b.rws.all (JW last)))
def Wr (last:Int)(AA:List (List Dd))(b:Bd)(i:Nat):Bool:=Co (b.AK.getD i 0) 0 ((AA.getD i []).length:Int)&&PA last (b.AJ.getD i [])
def IP (last:Int)(AA:List (List Dd))(b:Bd):Bool:=decide (b.AJ.length=AA.length)&&(decide (b.AK.length=AA.length)&&(List.range AA.length).all (Wr last AA b))
def GJ (AA:List (List Dd))(b:Bd):Bool:=
 AL AA&&(FJ (((AB AA).length:Int)-1) b&&(IP (((AB AA).length:Int)-1) AA b&&(Fq b.sn (AW Af (AB AA)).length (-1) 9&&Fq b.fr (AW Af (AB AA)).length (-1) (((AB AA).length:Int)-1))))
theorem Km (x lo hi:Int):(decide (lo<=x)&&decide (x<=hi))=Co x lo hi:=by
 rw[KBg];unfold Co;simp
theorem U8 (l:List Int)(lo hi:Int)(m:Nat):JS l lo hi m=(NY l lo hi&&decide (l.length<=m)):=by
 unfold JS NY
 congr 2
 funext x;exact Km x lo hi
theorem qG (n:Int)(x:Nt):rA n x=Vp (n-1) x:=by
 unfold rA Vp;rw[Km,Km,Km]
theorem og (AA:List (List Dd))(n:Int)(b:Bd)(i:Nat):VL AA n b i=Wr (n-1) AA b i:=by
 unfold VL Wr PA bJ;rw[Km]
 congr 3
 funext x;exact qG n x
theorem kF (last:Int)(l:List Int):JW last l=JS l 0 last 20:=by
 rw[U8];unfold JW Fq;simp[Bool.and_comm]
theorem N2 (last:Int)(b:Bd)(h:b.rws.length=3):b.rws.all (JW last)=Jy (last+1) b:=by
 obtain⟨x,y,z,e⟩:∃x y z,b.rws=[x,y,z]:=by
  match hr:b.rws,h with
  | [x,y,z],_=>exact⟨x,y,z,rfl⟩
 unfold Jy;rw[e];have e1:last+1-1=last:=by omega
 rw[e1];simp[List.range,List.range.loop,kF]
theorem SA (AA:List (List Dd))(b:Bd)(hl:(AW Af (AB AA)).length<=12):GJ AA b=Ap AA b:=by
 generalize hr:(AW Af (AB AA)).length=r at hl;generalize hn:((AB AA).length:Int)=n;rw[KBg];unfold GJ Ap Ip NM FJ IP Fq;rw[hr,hn];have ec:(fun i=>VL AA n b i)=Wr (n-1) AA b:=by funext i;exact og AA n b i
 rw[ec];simp only[U8,KAO,KAN];have e1:n-1+1=n:=by omega
 constructor
 ·
  rintro⟨h1,⟨⟨p1,p2⟩,⟨l1,l2⟩,r1,r2⟩,⟨c1,c2,c3⟩,⟨s1,s2⟩,f1,f2⟩;rw[N2 _ _ r1,e1] at r2;exact⟨⟨h1,by omega,by omega,r1,c1,c2⟩,⟨by omega,by omega,⟨p2,by omega⟩,⟨l2,by omega⟩,⟨s2,by omega⟩,f2,by omega⟩,r2,c3⟩
 ·
  rintro⟨⟨h1,p1,l1,r1,c1,c2⟩,⟨s1,f1,⟨p2,_⟩,⟨l2,_⟩,⟨s2,_⟩,f2,_⟩,r2,c3⟩;refine⟨h1,⟨⟨by omega,p2⟩,⟨by omega,l2⟩,r1,?_⟩,⟨c1,c2,c3⟩,⟨by omega,s2⟩,by omega,f2⟩;rw[N2 _ _ r1,e1];exact r2
theorem Sf {l:List Int}{lo hi:Int}{k:Nat}(hk:k<l.length)(h:Co (l.getD k 0) lo hi=false):NY l lo hi=false:=by
 unfold NY;rw[List.all_eq_false];refine⟨l.getD k 0,?_,by rw[h];simp⟩;rw[IT,KAH hk];exact KBI hk
theorem GI {α:Type}{l:List α}{f:α->Bool}(z:α)(h:∀k,k<l.length->f (l.getD k z)=true):l.all f=true:=by
 rw[KAx];intro x hx;obtain⟨i,hi,e⟩:=KBk hx;have:=h i hi;rw[IT,KAH hi] at this;simp only[KBR] at this;rw[e] at this;exact this
theorem IC {α:Type}{l:List α}{f:α->Bool}(z:α){k:Nat}(hk:k<l.length)(h:f (l.getD k z)=false):l.all f=false:=by
 rw[List.all_eq_false];refine⟨l.getD k z,?_,by rw[h];simp⟩;rw[IT,KAH hk];exact KBI hk
def Rg (rs:List Int)(c k:Nat)(pl:Bool)(b:Bd)(n:Nat)(e:Ev):Bd:=
 if e.1=(c:Int)/\e.2.1=(k:Int) then
  if e.2.2.1=true then Fz rs b (n:Int) (C7 b c e.2.2.2.1.toNat).1 (C7 b c e.2.2.2.1.toNat).2
  else if pl=true then { b with AJ:=b.AJ.set c (b.AJ.getD c []++[(e.2.2.2.1,e.2.2.2.2.1,(n:Int))]) }
  else EJ b e.2.2.2.1.toNat e.2.2.2.2.1 (n:Int)
 else b
def DP (es:List Ev)(rs:List Int)(c k:Nat)(pl:Bool)(b:Bd):Nat->Bd
 | 0=>b
 |n+1=>Rg rs c k pl (DP es rs c k pl b n) n (es.getD n zE)
def EW (d:Dd):Bool:=decide (d.2.2.2=0)&&(decide (d.1=1)||decide (d.1=2))
theorem Zf {AA:List (List Dd)}(hb:AL AA=true){c k j:Nat}(hj:j<(AB AA).length)(h:((AB AA).getD j zE).1=(c:Int)/\((AB AA).getD j zE).2.1=(k:Int)):∃i,Ea AA j c k i:=by
 by_cases h3:3<=j
 ·
  obtain⟨c',k',i,E⟩:=Gy hb h3 hj;rw[E.at hb] at h;obtain⟨h1,h2⟩:=h;have h1:(c':Int)=(c:Int):=h1;have h2:(k':Int)=(k:Int):=h2;obtain rfl:c'=c:=by omega
  obtain rfl:k'=k:=by omega
  exact⟨i,E⟩
 ·
  exfalso;obtain⟨t,ht⟩:=Gz AA 0 AA.length (KAb _)
  have e:(AB AA).getD j zE=Ci.getD j zE:=by
   rw[AB,KAP hb,ht];show (Ci++t).getD j zE=_;rw[IT,KAu (by show j<3;omega),<-IT]
  rw[e] at h;have:j=0\/j=1\/j=2:=by omega
  rcases this with rfl|rfl|rfl<;>(have h1:(-1:Int)=(c:Int):=h.1;omega)
theorem KY {AA:List (List Dd)}(hb:AL AA=true){c k:Nat}{rs:List Int}{pl:Bool}{b:Bd}{n:Nat}:∀m:Nat,n+m<=(AB AA).length->(∀j i,n<=j->¬Ea AA j c k i)->DP (AB AA) rs c k pl b (n+m)=DP (AB AA) rs c k pl b n
 | 0,_,_=>rfl
 |m+1,hm,hn=>by
  rw[<-KY hb m (by omega) hn];show Rg rs c k pl (DP (AB AA) rs c k pl b (n+m)) (n+m) ((AB AA).getD (n+m) zE)=_;unfold Rg;rw[KAQ (fun h=>by obtain⟨i,E⟩:=Zf hb (by omega) h;exact hn _ i (by omega) E)]
theorem VR {AA:List (List Dd)}(hb:AL AA=true){c k:Nat}{rs:List Int}{pl:Bool}{b:Bd}:∀m:Nat,m<=(AB AA).length->m<=AZ AA c k->DP (AB AA) rs c k pl b m=b
 | 0,_,_=>rfl
 |m+1,hm,ho=>by
  show Rg rs c k pl (DP (AB AA) rs c k pl b m) m ((AB AA).getD m zE)=_;rw[VR hb m (by omega) (by omega)];unfold Rg;rw[KAQ (fun h=>by obtain⟨i,E⟩:=Zf hb (by omega) h;have:=E.hj;omega)]
theorem ZW {AA:List (List Dd)}(hb:AL AA=true){c k j i:Nat}(E:Ea AA j c k i)(rs:List Int)(pl:Bool)(b:Bd):
  Rg rs c k pl b j ((AB AA).getD j zE) =
   if Mb (Aj AA c k) i=true then Fz rs b (j:Int) (C7 b c (Aj AA c k).2.1.toNat).1 (C7 b c (Aj AA c k).2.1.toNat).2
   else if pl=true then { b with AJ:=b.AJ.set c (b.AJ.getD c []++[((Aj AA c k).2.1,YU (Aj AA c k) i,(j:Int))]) }
   else EJ b (Aj AA c k).2.1.toNat (YU (Aj AA c k) i) (j:Int):=by
 unfold Rg;rw[E.at hb,KAP ⟨rfl,rfl⟩]
theorem iX {AA:List (List Dd)}(hb:AL AA=true){c k:Nat}(hc:c<AA.length)(hk:k<(AA.getD c []).length)(b:Bd)(h3:(Aj AA c k).1=3->b.AJ.getD c []=[]):
  DP (AB AA) (AW Af (AB AA)) c k (EW (Aj AA c k)) b (AB AA).length=BL AA (AB AA) b c k:=by
 have hd:=Cf (CV hb hc k hk);have hg:=(Zn (CV hb hc) hk).1;have e0:∀pl:Bool,AZ AA c k<=(AB AA).length->DP (AB AA) (AW Af (AB AA)) c k pl b (AZ AA c k)=b:=fun pl h=>VR hb _ h (KAM _)
 by_cases h4:(Aj AA c k).1=4
 ·
  have:∀j i,¬Ea AA j c k i:=fun j i E=>E.kind h4
  have e:=KY hb (c:=c) (k:=k) (rs:=AW Af (AB AA)) (pl:=EW (Aj AA c k)) (b:=b) (n:=0) (AB AA).length (by omega) (fun j i _=>this j i);rw[KBC] at e;rw[e];unfold BL;rw[KAQ (by omega),KAQ (by omega),KAQ (by omega),KAQ (by omega)];rfl
 have E:=Cr hc hk h4;have hl:=E.lt hb
 have e1:DP (AB AA) (AW Af (AB AA)) c k (EW (Aj AA c k)) b (AZ AA c k+1)=Rg (AW Af (AB AA)) c k (EW (Aj AA c k)) b (AZ AA c k) ((AB AA).getD (AZ AA c k) zE):=by
  show Rg _ _ _ _ (DP _ _ _ _ _ _ _) _ _=_;rw[e0 _ (by omega)]
 rw[ZW hb E] at e1;have hev:=Jp hb hc hk h4;by_cases k3:(Aj AA c k).1=3
 ·
  have E2:=I3 hc hk k3;have hl2:=E2.lt hb;have e2:DP (AB AA) (AW Af (AB AA)) c k (EW (Aj AA c k)) b (AZ AA c k+1+1)=Rg (AW Af (AB AA)) c k (EW (Aj AA c k)) (DP (AB AA) (AW Af (AB AA)) c k (EW (Aj AA c k)) b (AZ AA c k+1)) (AZ AA c k+1) ((AB AA).getD (AZ AA c k+1) zE):=rfl;rw[ZW hb E2,e1] at e2
  have es:=KY hb (c:=c) (k:=k) (rs:=AW Af (AB AA)) (pl:=EW (Aj AA c k)) (b:=b) (n:=AZ AA c k+1+1) ((AB AA).length-(AZ AA c k+1+1)) (by omega) (fun j i h E=>by
   have:=E.hj;have:=E.hi;unfold Fp at this;rw[KAQ h4,KAP k3] at this
   omega)
  rw[show AZ AA c k+1+1+((AB AA).length-(AZ AA c k+1+1))=(AB AA).length by omega] at es;rw[es,e2];have r0:Mb (Aj AA c k) 0=true:=by unfold Mb;rw[KAl (show (Aj AA c k).1≠2 by omega)];rfl
  have r1:Mb (Aj AA c k) 1=false:=by unfold Mb;simp
  have hp:EW (Aj AA c k)=false:=by unfold EW;rw[KAi (show ¬(Aj AA c k).1=1 by omega),KAi (show ¬(Aj AA c k).1=2 by omega)];simp
  have hv:YU (Aj AA c k) 1=(Aj AA c k).2.2.1:=by unfold YU;rw[r1];rfl
  rw[r0,r1,hp,hv];simp only[KCT,KBO,KCU];unfold BL;rw[KAQ (by omega),KAP k3,hev]
  have hr:C7 b c (Aj AA c k).2.1.toNat=(b.AM.getD (Aj AA c k).2.1.toNat 0,b.AQ.getD (Aj AA c k).2.1.toNat 0):=by
   unfold C7;rw[h3 k3];rfl
  rw[hr];rfl
 ·
  have es:=KY hb (c:=c) (k:=k) (rs:=AW Af (AB AA)) (pl:=EW (Aj AA c k)) (b:=b) (n:=AZ AA c k+1) ((AB AA).length-(AZ AA c k+1)) (by omega) (fun j i h E=>by
   have:=(Mg E k3).1
   omega)
  rw[show AZ AA c k+1+((AB AA).length-(AZ AA c k+1))=(AB AA).length by omega] at es;rw[es,e1];unfold BL;by_cases k1:(Aj AA c k).1=1
  ·
   have r0:Mb (Aj AA c k) 0=true:=by unfold Mb;rw[KAl (show (Aj AA c k).1≠2 by omega)];rfl
   rw[r0,KAP rfl,KAP k1,hev]
  ·
   have k2:(Aj AA c k).1=2:=by omega
   have r0:Mb (Aj AA c k) 0=false:=by unfold Mb;rw[KAi (show ¬(Aj AA c k).1≠2 by omega)];rfl
   have hv:YU (Aj AA c k) 0=(Aj AA c k).2.2.1:=by unfold YU;rw[r0];rfl
   rw[r0,hv,KAQ (by simp),KAQ k1,KAQ k3,hev];by_cases g0:0<BP AA c k
   ·
    have hp:EW (Aj AA c k)=false:=by
     unfold EW;rw[KAi (show ¬(Aj AA c k).2.2.2=0 from fun h=>by have h:BP AA c k=0:=h;omega)];rfl
    rw[KAQ (by rw[hp];simp),KAP ⟨k2,g0⟩]
   ·
    have hp:EW (Aj AA c k)=true:=by
     unfold EW;rw[KAl (show (Aj AA c k).2.2.2=0 by show BP AA c k=0;omega),KAl k2];simp
    rw[KAP hp,KAQ (fun h=>g0 h.2),KAP k2]
theorem TP {rs l:List Int}{i:Nat}{v:Int}(hr:rs.Pairwise (·<·))(hi:i<rs.length)(hl:l.length=rs.length):Hf rs (rs.getD i 0) v l=l.set i v:=by
 unfold Hf;apply KC4;intro j;have hgi:rs.getD i 0=rs[i]:=by rw[IT,KAH hi];rfl
 rw[List.getElem?_zipWith,KBt,hgi];by_cases hj:j<rs.length
 ·
  rw[KAH hj,KAH (by omega:j<l.length)];by_cases e:i=j
  ·
   subst e;rw[KAP rfl,KAP (by omega)];simp
  ·
   rw[KAQ e]
   have hne:rs[j]≠rs[i]:=by
    rw[KCv] at hr;rcases KCQ i j with q|q
    . have:=hr i j hi hj q;omega
    . have:=hr j i hj hi (by omega);omega
   simp[hne]
 ·
  rw[KA9 (by omega:rs.length<=j),KA9 (by omega:l.length<=j)];by_cases e:i=j
  . omega
  . rw[KAQ e]
theorem Sa {AA:List (List Dd)}{es:List Ev}{g:Int}{c m:Nat}{b:Bd}(hlen:Am (Ah AA es b c) c<=(AA.getD c []).length)(hnx:Am (Ah AA es b c) c=Am b c+1)(hg:BP AA c (Am b c)=g):
  FF AA es g c (m+1) b=if Am (Ah AA es b c) c<(AA.getD c []).length/\G2 (AA.getD c []) (Am (Ah AA es b c) c)=true then FF AA es g c m (Ah AA es b c) else Ah AA es b c:=by
 show (if g=0\/Am (Ah AA es b c) c=(AA.getD c []).length\/BP AA c (Am (Ah AA es b c) c)≠g then Ah AA es b c else FF AA es g c m (Ah AA es b c))=_
 have hgo:G2 (AA.getD c []) (Am (Ah AA es b c) c)=true↔BP AA c (Am (Ah AA es b c) c)≠0/\BP AA c (Am (Ah AA es b c) c)=g:=by
  unfold G2;rw[hnx];rw[show Am b c+1-1=Am b c from rfl];have e1:((AA.getD c []).getD (Am b c+1) zD).2.2.2=BP AA c (Am b c+1):=rfl;have e2:((AA.getD c []).getD (Am b c) zD).2.2.2=BP AA c (Am b c):=rfl;rw[e1,e2,hg];simp
 by_cases h1:Am (Ah AA es b c) c<(AA.getD c []).length/\G2 (AA.getD c []) (Am (Ah AA es b c) c)=true
 ·
  rw[KAP h1,KAQ];obtain⟨h2,h3⟩:=hgo.1 h1.2;rintro (h|h|h)
  . omega
  . omega
  . exact h h3
 ·
  rw[KAQ h1,KAP];by_cases h2:Am (Ah AA es b c) c<(AA.getD c []).length
  ·
   have h3:¬(BP AA c (Am (Ah AA es b c) c)≠0/\BP AA c (Am (Ah AA es b c) c)=g):=fun h=>h1 ⟨h2,hgo.2 h⟩
   by_cases hz:g=0
   . exact .inl hz
   ·
    right;right;intro e;exact h3 ⟨by rw[e];exact hz,e⟩
  . right;left;omega
section
section
variable {P:Program} {ops:Array Oper} {Q:Exit->Act->World->Prop} {md:Region.Mode}
def Pn (listed:Array Bool):Nat:=listed.toList.countP (fun b=>!b)
theorem PU:∀(l:List Bool) (i:Nat),l[i]? = some false->(l.set i true).countP (fun b=>!b)+1=l.countP (fun b=>!b)
 | [],i,h=>by simp at h
 |x::r,0,h=>by
  simp at h;subst h;simp
 |x::r,i+1,h=>by
  have ih:=PU r i (by simpa using h);rw[KAc,List.countP_cons,List.countP_cons];omega
theorem Po {listed:Array Bool}{i:Nat}(h:listed[i]? = some false):Pn (listed.setIfInBounds i true)+1=Pn listed:=by
 unfold Pn;rw[KCL];exact PU _ _ (by rw[KCM];exact h)
theorem AE {listed:Array Bool}{i:Nat}(h:i∈Region.ready md ops listed):i<ops.size/\listed[i]? = some false/\∀o,ops[i]? = some o->o.after.all (fun e=>!Region.binds md e||listed.getD e.on false)=true:=by
 unfold Region.ready at h;rw[KBF,KAd] at h;obtain⟨h1,h2⟩:=h;simp only[KAO,Bool.not_eq_true'] at h2;refine⟨h1,?_,fun o ho=>?_⟩
 ·
  have h3:=h2.1;rw[Array.getD_eq_getD_getElem?] at h3
  cases e:listed[i]? with
  |none=>rw[e] at h3;cases h3
  |some b=>rw[e] at h3;simp at h3;rw[h3]
 ·
  have h3:=h2.2;rw[ho] at h3
  simpa using h3
theorem QK (J:Array Bool->Act->World->Prop)
  (step:∀listed a w,J listed a w->∀i,i∈Region.ready md ops listed->wpOp P ops Q i (fun a' w'=>J (listed.setIfInBounds i true) a' w') a w)
  (done:∀listed a w,J listed a w->Region.ready md ops listed=[]->Q .normal a w):
  ∀(fuel:Nat) (listed:Array Bool) (a:Act) (w:World),Pn listed<=fuel->J listed a w->wpAny P md ops Q fuel listed a w
 | 0,listed,a,w,hl,hJ=>by
  have hr:Region.ready md ops listed=[]:=by
   cases h:Region.ready md ops listed with
   |nil=>rfl
   |cons i r=>
    exfalso;have h2:=(AE (md:=md) (ops:=ops) (listed:=listed) (i:=i) (by rw[h];simp)).2.1;have:=Po h2;omega
  exact⟨hr,done listed a w hJ hr⟩
 |fuel+1,listed,a,w,hl,hJ=>by
  refine⟨fun hr=>done listed a w hJ hr,fun i hi=>?_⟩;refine wpOp_mono (fun a' w' hJ'=>QK J step done fuel _ a' w' ?_ hJ') (step listed a w hJ i hi);have:=Po (AE hi).2.1;omega
theorem UZ (n:Nat):Pn (Array.replicate n false)=n:=by
 unfold Pn;rw[Array.toList_replicate];simp[List.countP_replicate]
theorem Bv {id:Nat}{a:Act}{w:World}(hm:P.follows .mixedOrders=true)(J:Array Bool->Act->World->Prop)
  (start:J (Array.replicate ops.size false) a w.drew)
  (step:∀listed a w,J listed a w->∀i,i∈Region.ready .any ops listed->wpOp P ops Q i (fun a' w'=>J (listed.setIfInBounds i true) a' w') a w)
  (done:∀listed a w,J listed a w->Region.ready .any ops listed=[]->Q .normal a w):(Code.region id ops true).wp P Q a w:=
 wp_region_any hm (QK J step done ops.size _ a _ (by rw[UZ];exact KAM _) start)
end
end
theorem Ch.push {α:Type}{t:TypeId}{rowOf:List α->Value->Rw}{w w1 w2:World}{m:Nat}{v v' u:Value}{hs:List Value}{xss:List (List α)}{xs:List α}(h:Ch t rowOf w m v hs xss)(hv:∀xs u,(rowOf xs u).v=u)(k:AC w w1)
  (ou:(rowOf xs u).own w1 m) (hn:∀b,u.ownBlock=some b->w.heap.size<=b) (hg:w1.grownBy w2 v.ownBlock) (hb:v'.ownBlock=v.ownBlock\/v'.ownBlock=some w1.heap.size) (ho:(Em t (hs++[u]) v').own w2 m):Ch t rowOf w2 m v' (hs++[u]) (xss++[xs]):=by
 have F1:=h.Ag.add (i:=some hs.length) (fun q=>Nat.lt_irrefl _ (show hs.length<hs.length from q)) (r:=rowOf xs u) rfl k ou (fun b hb=>hn b (by rw[hv] at hb;exact hb));have F2:=F1.set (i:=none) (.inl trivial) (r:=Em t (hs++[u]) v') (by rw[AV _ _ (by simp)];exact hg) (by rw[AV _ _ (by simp)];rcases hb with e|e;exact .inl e;exact .inr (.inl e)) ho;refine⟨F2.congr (fun o ho'=>?_) (fun o ho'=>?_),by rw[KAJ,KAJ,h.len];rfl⟩
 ·
  cases o with
  |none=>exact .inl trivial
  |some i=>
   have hi:i<(hs++[u]).length:=ho';rw[KAJ] at hi;by_cases e:i=hs.length
   . exact .inr (by rw[e])
   . exact .inl (show i<hs.length by simp at hi;omega)
 ·
  cases o with
  |none=>rw[Ao];rfl
  |some i=>
   have hi:i<(hs++[u]).length:=ho';rw[KAJ] at hi;rw[AV _ _ (by simp)];show rowOf ((xss++[xs]).getD i []) ((hs++[u]).getD i AF)=_;by_cases e:i=hs.length
   ·
    subst e;rw[Ao];have e1:(xss++[xs]).getD hs.length []=xs:=by rw[h.len,IT,KAy (KAM _)];simp
    have e2:(hs++[u]).getD hs.length AF=u:=by rw[IT,KAy (KAM _)];simp
    rw[e1,e2]
   ·
    rw[AV _ _ (by simpa using e)];have hi2:i<hs.length:=by simp at hi;omega
    have e1:(xss++[xs]).getD i []=xss.getD i []:=by rw[IT,KAu (by rw[<-h.len];exact hi2),<-IT]
    have e2:(hs++[u]).getD i AF=hs.getD i AF:=by rw[IT,KAu hi2,<-IT]
    rw[e1,e2];rfl
theorem Iy {AA:List (List Dd)}{b:Bd}(h:Ap AA b=true):AL AA=true/\b.AM.length=3/\b.AQ.length=3/\b.rws.length=3/\b.AJ.length=AA.length/\b.AK.length=AA.length/\b.sn.length<=12/\b.fr.length<=12/\(∀i,i<3->(b.rws.getD i []).length<=20)/\∀i,i<AA.length->(b.AJ.getD i []).length<=8:=by
 unfold Ap Ip NM Jy at h;simp only[KAO,KAN] at h;obtain⟨⟨h1,h2,h3,h4,h5,h6⟩,⟨_,_,_,_,h7,h8⟩,h9,h10⟩:=h;unfold JS at h7 h8;simp only[KAO,KAN] at h7 h8;refine⟨h1,h2,h3,h4,h5,h6,h7.2,h8.2,fun i hi=>?_,fun i hi=>?_⟩
 ·
  have:=KAx.1 h9 i (KAd.2 hi);unfold JS at this;simp only[KAO,KAN] at this;exact this.2
 ·
  have:=KAx.1 h10 i (KAd.2 hi);unfold VL at this;simp only[KAO,KAN] at this;exact this.2.1
theorem OS {AA:List (List Dd)}(h:AL AA=true):AA.length<=3/\∀i,i<AA.length->(AA.getD i []).length<=1048576:=by
 obtain⟨h1,h2⟩:=BM h;refine⟨h1,fun i hi=>?_⟩;have hq:=h2 i hi;unfold GQ at hq;rw[KAO,KAN] at hq;omega
theorem Bf {P:Program}{w:World}{ops:Array Oper}{o:Oper}{a:Act}{K:Act->World->Prop}{Q:Exit->Act->World->Prop}{E:Prop}(hgd:o.guard=none)(s x:Operand)(t:TypeId)
  (ho:o.op = .call { callee:= .builtin .append,args:=#[s,x],argTypes:=#[t,t] })
  (base:Nat) (e:TypeId) (i:TypeInfo) (z:Value) (size bytes:Nat) (ht:P.underlying t=some (.slice e)) (hi:P.info? e=some i) (hz:i.zero=some z)
  (hsize:i.size=size) (hby:i.bytes=bytes) (hzs:z.cells.size=size) (hsz:0<size)
  (v:Value) (n:Nat) (xs:List Value) (hs:a.eval s=v) (hown:w.ownsRow base e size v n xs)
  (ad:Addr) (m c:Nat) (news:List Value) (hx:a.eval x = .slice (some ad) m c) (hl:news.length=m*size) (hnews:∀j u,news[j]? = some u->w.cell? (ad.add j)=some u) (h1:∀u∈news,u.oneCell'=true)
  (h63:n+m<=maxLen) (hbytes:(n+m)*bytes<=140737488355328) (hbase:base<=w.heap.size)
  (h:∀v' w',w'.ownsRow base e size v' (n+m) (xs++news)->w.grownBy w' v.ownBlock->(v'.ownBlock=v.ownBlock\/v'.ownBlock=some w.heap.size)->K (a.put o.dst v') w'):
  if Region.wanted o (yielded ops a.tmps)=true then Oper.wp P o a w K Q else E:=by
 have hw:Region.wanted o (yielded ops a.tmps)=true:=by simp[Region.wanted,hgd]
 rw[KAP hw];obtain⟨v',w',hr,h2,h3,h4,h5⟩:=run_append_own_at (P:=P) w base t o.type e i z size bytes ht hi hz hsize hby hzs hsz v n xs hown ad m c news hl hnews h1 h63 hbytes hbase;unfold Oper.wp execOp;simp only[ho,resolve,invoke,builtin,Sem.run_bind,KDL,KCo,KCs,KBy,KCY,hs,hx,hr];exact h v' w' h2 h3 h5
def ML (ns:List Nt)(p:Int)(y:Nt)(k:Nat):Nt:=((ns.take k).reverse.find? (fun x=>x.1==p)).getD y
theorem Ur (ns:List Nt)(p:Int)(y:Nt)(k:Nat)(h:k<ns.length):ML ns p y (k+1)=if (ns.getD k (0,0,0)).1=p then ns.getD k (0,0,0) else ML ns p y k:=by
 have e:ns.take (k+1)=ns.take k++[ns.getD k (0,0,0)]:=by
  rw[KBQ,IT,KAH h];rfl
 unfold ML;rw[e,List.reverse_append];simp only[List.reverse_cons,List.reverse_nil,KBz,KBr,List.find?_cons];by_cases q:(ns.getD k (0,0,0)).1=p
 ·
  rw[KAP q];have:((ns.getD k (0,0,0)).1==p)=true:=by simpa using q
  rw[this];rfl
 ·
  rw[KAQ q];have:((ns.getD k (0,0,0)).1==p)=false:=by simpa using q
  rw[this]
theorem YK (b:Bd)(c p:Nat):(ML (b.AJ.getD c []) (p:Int) ((p:Int),b.AM.getD p 0,b.AQ.getD p 0) (b.AJ.getD c []).length).2=C7 b c p:=by
 unfold ML C7;rw[KBK];cases (b.AJ.getD c []).reverse.find? (fun x=>x.1==(p:Int))<;>rfl
def NA (AA:List (List Dd))(b:Bd):Bool:=(List.range AA.length).all (fun c=>decide (((AA.getD c []).length:Int)<=b.AK.getD c 0)&&(b.AJ.getD c []).isEmpty)
def Jo (AA:List (List Dd))(b:Bd):Bool:=Ap AA b&&NA AA b
def Lq (AA:List (List Dd))(b:Bd):List Int:=if Ap AA b=true then b.sn++b.AM else []
def Tryz.kR:Go.Shelf.Ren:=⟨fun|6=>81|15=>110|14=>109|28=>145|29=>146|20=>137|21=>138|22=>139|23=>140|24=>141|25=>142|26=>143|27=>144|46=>162|47=>163|48=>164|49=>165|50=>166|57=>173|n=>n,fun|22=>36|24=>25|25=>133|3=>3|39=>136|0=>0|53=>205|55=>207|4=>4|46=>199|45=>198|50=>152|5=>5|9=>9|66=>219|70=>223|76=>228|77=>229|n=>n,fun|n=>n⟩
theorem Tryz.srt:Go.Proofs.SlLaysF.n6 Tryz.prog Tryz.kR:={
 mixed:=by kernel_rfl
 f6:=⟨Tryz.f81.name,by decide,Tryz.func81.trans (KBf some (by kernel_rfl))⟩
 f14:=⟨Tryz.f109.name,by decide,Tryz.func109.trans (KBf some (by kernel_rfl))⟩
 f15:=Tryz.func110.trans (KBf some (by kernel_rfl))
 f20:=⟨Tryz.f137.name,by decide,Tryz.func137.trans (KBf some (by kernel_rfl))⟩
 f21:=⟨Tryz.f138.name,by decide,Tryz.func138.trans (KBf some (by kernel_rfl))⟩
 f22:=⟨Tryz.f139.name,by decide,Tryz.func139.trans (KBf some (by kernel_rfl))⟩
 f23:=⟨Tryz.f140.name,by decide,Tryz.func140.trans (KBf some (by kernel_rfl))⟩
 f24:=⟨Tryz.f141.name,by decide,Tryz.func141.trans (KBf some (by kernel_rfl))⟩
 f25:=⟨Tryz.f142.name,by decide,Tryz.func142.trans (KBf some (by kernel_rfl))⟩
 f26:=⟨Tryz.f143.name,by decide,Tryz.func143.trans (KBf some (by kernel_rfl))⟩
 f27:=⟨Tryz.f144.name,by decide,Tryz.func144.trans (KBf some (by kernel_rfl))⟩
 f28:=Tryz.func145.trans (KBf some (by kernel_rfl))
 f29:=Tryz.func146.trans (KBf some (by kernel_rfl))
 f46:=⟨Tryz.f162.name,by decide,Tryz.func162.trans (KBf some (by kernel_rfl))⟩
 f47:=Tryz.func163.trans (KBf some (by kernel_rfl))
 f48:=Tryz.func164.trans (KBf some (by kernel_rfl))
 f49:=⟨Tryz.f165.name,by decide,Tryz.func165.trans (KBf some (by kernel_rfl))⟩
 f50:=⟨Tryz.f166.name,by decide,Tryz.func166.trans (KBf some (by kernel_rfl))⟩
 f57:=⟨Tryz.f173.name,by decide,Tryz.func173.trans (KBf some (by kernel_rfl))⟩
 t0:=Tryz.underlying0
 a0:=Tryz.isAgg0
 z0:=Tryz.sizeOf0
 v0:=Tryz.zeroValue0
 t3:=Tryz.underlying3
 a3:=Tryz.isAgg3
 z3:=Tryz.sizeOf3
 v3:=Tryz.zeroValue3
 t4:=Tryz.underlying4
 a4:=Tryz.isAgg4
 z4:=Tryz.sizeOf4
 v4:=Tryz.zeroValue4
 t5:=Tryz.underlying5
 a5:=Tryz.isAgg5
 z5:=Tryz.sizeOf5
 v5:=Tryz.zeroValue5
 t9:=Tryz.underlying9
 a9:=Tryz.isAgg9
 z9:=Tryz.sizeOf9
 v9:=Tryz.zeroValue9
 t22:=Tryz.underlying36
 a22:=Tryz.isAgg36
 z22:=Tryz.sizeOf36
 v22:=Tryz.zeroValue36
 a24:=Tryz.isAgg25
 z24:=Tryz.sizeOf25
 t25:=Tryz.underlying133
 a25:=Tryz.isAgg133
 z25:=Tryz.sizeOf133
 v25:=Tryz.zeroValue133
 t39:=Tryz.underlying136
 a39:=Tryz.isAgg136
 z39:=Tryz.sizeOf136
 v39:=Tryz.zeroValue136
 t45:=Tryz.underlying198
 a45:=Tryz.isAgg198
 z45:=Tryz.sizeOf198
 v45:=Tryz.zeroValue198
 t46:=Tryz.underlying199
 a46:=Tryz.isAgg199
 z46:=Tryz.sizeOf199
 v46:=Tryz.zeroValue199
 t50:=Tryz.underlying152
 a50:=Tryz.isAgg152
 z50:=Tryz.sizeOf152
 v50:=Tryz.zeroValue152
 t53:=Tryz.underlying205
 a53:=Tryz.isAgg205
 z53:=Tryz.sizeOf205
 v53:=Tryz.zeroValue205
 t55:=Tryz.underlying207
 a55:=Tryz.isAgg207
 z55:=Tryz.sizeOf207
 v55:=Tryz.zeroValue207
 t66:=Tryz.underlying219
 a66:=Tryz.isAgg219
 z66:=Tryz.sizeOf219
 v66:=Tryz.zeroValue219
 t70:=Tryz.underlying223
 a70:=Tryz.isAgg223
 z70:=Tryz.sizeOf223
 v70:=Tryz.zeroValue223
 t76:=Tryz.underlying228
 a76:=Tryz.isAgg228
 z76:=Tryz.sizeOf228
 v76:=Tryz.zeroValue228
 t77:=Tryz.underlying229
 a77:=Tryz.isAgg229
 z77:=Tryz.sizeOf229
 v77:=Tryz.zeroValue229 }
def Ol (x y:Int):Int:=if x<y then -1 else if y<x then 1 else 0
def Gd:List Int->List Int->Int
 | [],[]=>0
 | [],_::_=>-1
 |_::_,[]=>1
 |x::xs,y::ys=>if Ol x y=0 then Gd xs ys else Ol x y
theorem M7 (x y:Int):(x<y/\Ol x y=-1)\/(y<x/\Ol x y=1)\/(x=y/\Ol x y=0):=by
 unfold Ol;by_cases h1:x<y
 . exact .inl ⟨h1,KAP h1⟩
 ·
  by_cases h2:y<x
  . exact .inr (.inl ⟨h2,by rw[KAQ h1,KAP h2]⟩)
  . exact .inr (.inr ⟨by omega,by rw[KAQ h1,KAQ h2]⟩)
theorem Gx {xs:List Int}{k:Nat}(h:k<xs.length):xs.drop k=xs.getD k 0::xs.drop (k+1):=by
 rw[KCw h,IT,KAH h];rfl
theorem Wu {xs ys:List Int}{k:Nat}(h1:k<xs.length)(h2:k<ys.length):Gd (xs.drop k) (ys.drop k)=if Ol (xs.getD k 0) (ys.getD k 0)=0 then Gd (xs.drop (k+1)) (ys.drop (k+1)) else Ol (xs.getD k 0) (ys.getD k 0):=by
 rw[Gx h1,Gx h2,Gd]
theorem Wt {xs ys:List Int}{k:Nat}(h1:k<xs.length)(h2:ys.length<=k):Gd (xs.drop k) (ys.drop k)=1:=by
 rw[Gx h1,KC6 h2,Gd]
theorem ZS {xs ys:List Int}{k:Nat}(h1:xs.length<=k)(h2:k<=ys.length)(h3:k<=xs.length):Gd (xs.drop k) (ys.drop k)=if xs.length<ys.length then -1 else 0:=by
 rw[KC6 h1];by_cases h:k<ys.length
 . rw[Gx h,Gd,KAP (by omega)]
 . rw[KC6 (by omega),Gd,KAQ (by omega)]
theorem PS:∀xs ys:List Int,decide (Gd xs ys<0)=Bz xs ys
 | [],[]=>rfl
 | [],_::_=>rfl
 |_::_,[]=>rfl
 |x::xs,y::ys=>by
  have ih:=PS xs ys;rw[Gd,Bz];rcases M7 x y with ⟨h,e⟩|⟨h,e⟩|⟨h,e⟩
  ·
   rw[e];have:¬x=y:=by omega
   simp[this,h]
  ·
   rw[e];have h1:¬x=y:=by omega
   have h2:¬x<y:=by omega
   simp[h1,h2]
  ·
   rw[e];subst h
   simpa using ih
theorem ST {AA:List (List Dd)}{b:Bd}(hb:Ap AA b=true):NA AA b=Dl AA b:=by
 unfold NA Dl;rw[List.all_eq,List.all_eq]
 congr 1
 apply propext;constructor
 all_goals
  intro h c hc;have hq:=h c hc
  have hck:VL AA ((AB AA).length:Int) b c=true:=by
   unfold Ap at hb;simp only[KAO] at hb;exact KAx.1 hb.2.2.2 c hc
  unfold VL at hck;simp only[KAO,KAN] at hck;rw[KAO,KAN] at hq ⊢;refine⟨?_,hq.2⟩;unfold Am at *;omega
theorem TE {w:World}{b off:Nat}{zs:List Int}(hc:∀i,i<zs.length->w.cell? ⟨b,off+i,none⟩=some (.int .i64 (zs.getD i 0))):
  ∀j u,(zs.map (Value.int .i64))[j]? = some u->w.cell? ((⟨b,off,none⟩:Addr).add j)=some u:=by
 intro j u hj;rw[KBN] at hj
 have hjl:j<zs.length:=by
  apply KBA;intro hno;rw[KA9 (by omega)] at hj;cases hj
 have e1:(⟨b,off,none⟩:Addr).add j=⟨b,off+j,none⟩:=by unfold Addr.add;split<;>simp_all
 rw[e1,hc j hjl,IT];rw[KAH hjl] at hj ⊢
 simpa using hj
theorem aC (zs:List Int):∀u∈zs.map (Value.int .i64),u.oneCell'=true:=by
 intro u hu;obtain⟨y,_,rfl⟩:=KAv.1 hu;rfl
end Go.Proofs.YtflehmepjhikcaaGreatDoor
