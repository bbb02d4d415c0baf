/- Gathered texts. -/
import Derived.Deep.RegionHeld3
import Derived.Test.YtflehmepjhikcaaGreatDoorMC
import Derived.Maps.AppendAt
import Derived.Laws.OwnMore
import Derived.OwnWalk
import Derived.Laws.Tables
import Derived.Orders
import Derived.RegionTactic
import Derived.Shelf.SlSortCmp.Whole1
import Derived.Shelf.SlGeneric
import Derived.Ground.SlsfProg
import Derived.Test.YtflehmepjhikcaaGreatDoorProg
set_option maxRecDepth 100000
set_option maxHeartbeats 8000000
namespace Go.Proofs.YtflehmepjhikcaaGreatDoor
open Go
open Go.ChangeShapes Go.WideShapes Go.ChangeAt Go.RowKit
open Go.RowKit
open Go.Shelf
abbrev FC:Value:= .slice none 0 0
abbrev Ry (x y:Value):Obj:= .cells #[x,y] 27
def Mr (w1 wr:World)(D:Nat)(x y:Value):Prop:=wr.heap[D]? = some (Ry x y)/\w1.grownBy wr (some D)
theorem Mr.start {w1:World}(x y:Value):Mr w1 (w1.alloc (Ry x y)) w1.heap.size x y:=
 ⟨heap_alloc_new w1 _,World.grownBy_alloc w1 _ (some w1.heap.size)⟩
theorem Mr.size {w1 wr:World}{D:Nat}{x y:Value}(h:Mr w1 wr D x y):D<wr.heap.size:=(Array.getElem?_eq_some_iff.1 h.1).1
theorem Mr.keep {w1 wr wr':World}{D:Nat}{x y:Value}(h:Mr w1 wr D x y)(hk:AC wr wr'):Mr w1 wr' D x y:=
 ⟨(Below.block hk D h.size).trans h.1,Ce h.2 ⟨Below.os hk,Below.tape hk,Below.output hk,Below.size hk,fun i hi _=>Below.block hk i hi⟩⟩
theorem Mr.cells {w1 wr:World}{D:Nat}{x y:Value}(h:Mr w1 wr D x y):
  wr.cell? ⟨D,0,none⟩=some x/\wr.cell? ⟨D,1,none⟩=some y:=
 ⟨cell_of_row wr D 0 _ _ (0,0) h.1,cell_of_row wr D 1 _ _ (0,0) h.1⟩
theorem Mr.free {w1 wr:World}{D:Nat}{x y:Value}(h:Mr w1 wr D x y)(i:Nat):wr.frozen? ⟨D,i,none⟩=false:=frozen_of_row wr D i _ _ h.1
theorem Mr.set0 {w1 wr:World}{D:Nat}{x y:Value}(h:Mr w1 wr D x y)(z:Value):Mr w1 (wr.setCell ⟨D,0,none⟩ z) D z y:=
 ⟨by rw[heap_setCell_same wr D 0 _ _ _ h.1];rfl,Ce h.2 ⟨rfl,rfl,rfl,by simp,fun i _ hi=>heap_setCell_other wr ⟨D,0,none⟩ i _ (fun e=>hi (by simp[e]))⟩⟩
theorem Mr.set1 {w1 wr:World}{D:Nat}{x y:Value}(h:Mr w1 wr D x y)(z:Value):Mr w1 (wr.setCell ⟨D,1,none⟩ z) D x z:=
 ⟨by rw[heap_setCell_same wr D 1 _ _ _ h.1];rfl,Ce h.2 ⟨rfl,rfl,rfl,by simp,fun i _ hi=>heap_setCell_other wr ⟨D,1,none⟩ i _ (fun e=>hi (by simp[e]))⟩⟩
theorem DN (w:World)(g j:Nat)(v:Value):w.grownBy (w.setCell ⟨g,j,none⟩ v) (some g):=
 ⟨rfl,rfl,rfl,by simp,fun i _ hi=>heap_setCell_other w ⟨g,j,none⟩ i _ (fun e=>hi (by simp[e]))⟩
theorem A7.KL {wr wr':World}{base D:Nat}{v:Value}{zs:List Int}(h:A7 wr base v zs)(hb:D<base)(hg:wr.grownBy wr' (some D)):A7 wr' base v zs:=
 h.kept hg (by
  cases hu:v.ownBlock with
  |none=>exact .inl rfl
  |some k=>exact .inr (fun e=>by have:=h.ge k hu;have:=Option.some.inj e;omega))
abbrev Rl (a:Addr):Value:= .iface 234 (.pointer (some a))
abbrev pz (s:ByteArray)(y:Value):Value:= .iface 59 (.agg #[.string s,y])
def JG (w:World)(a:Addr):Prop:=w.cell? ⟨0,0,none⟩=some (Rl a)
theorem JG.out {w:World}{a:Addr}(h:JG w a):w.cell? ⟨0,0,none⟩=some (Rl a):=h
theorem JG.keep {w w':World}{a:Addr}(h:JG w a)(k:AC w w'):JG w' a:=(k.cell (World.block_lt_of_cell? w ⟨0,0,none⟩ h)).trans h
def Mq (a:Addr)(t:Bool)(v:Value):Prop:=(t=true/\v = .nilIface)\/(t=false/\∃s,v=pz s (Rl a))
theorem Mq.no {a:Addr}{v:Value}(h:Mq a false v):∃s,v=pz s (Rl a):=h.elim (fun q=>by cases q.1) (fun q=>q.2)
theorem Mq.yes {a:Addr}{v:Value}(h:Mq a true v):v = .nilIface:=h.elim (fun q=>q.2) (fun q=>by cases q.1)
def Ot (d:Dd):Int:=d.2.2.2
def gK (ds:List Dd):Nat->Int
 | 0=>0
 |k+1=>if Ot (ds.getD k zD)=0 then gK ds k else Ku (gK ds k) (Ot (ds.getD k zD))
def gC (ds:List Dd):Int:=gK ds ds.length
def G7 (ds:List Dd)(k:Nat):Bool:=decide (0<k)&&(Ot (ds.getD k zD) != Ot (ds.getD (k-1) zD))&&Ef (gK ds k) (Ot (ds.getD k zD))
def Et (ds:List Dd):Nat->Bool
 | 0=>true
 |k+1=>Et ds k&&!G7 ds k
def Fl (AA:List (List Dd)):Nat->Int
 | 0=>0
 |i+1=>bits .or .i64 (Fl AA i) (gC (AA.getD i []))
def Cd (ds:List Dd)(t:Int):Bool:=decide (ds.length<=5)&&ds.all Eu&&Et ds ds.length&&(bits .and .i64 (gC ds) t==0)
def Br (AA:List (List Dd)):Nat->Bool
 | 0=>true
 |i+1=>Br AA i&&Cd (AA.getD i []) (Fl AA i)
theorem OO {α:Type}(l:List α)(i k:Nat)(z:α)(h:k<i):(l.take i).getD k z=l.getD k z:=by
 rw[List.getD_eq_getElem?_getD,List.getElem?_take,if_pos h,List.getD_eq_getElem?_getD]
theorem To (ds:List Dd)(i:Nat):∀k:Nat,k<=i->gK (ds.take i) k=gK ds k
 | 0,_=>rfl
 |k+1,h=>by rw[gK,gK,To ds i k (by omega),OO ds i k zD (by omega)]
theorem af (ds:List Dd)(i:Nat)(h:i<=ds.length):gC (ds.take i)=gK ds i:=by
 rw[gC,List.length_take,Nat.min_eq_left h,To ds i i (Nat.le_refl _)]
theorem Mf {ds:List Dd}{k:Nat}(h:Et ds k=false):∀n:Nat,k<=n->Et ds n=false
 | 0,hn=>by
  obtain rfl:k=0:=by omega
  exact h
 |n+1,hn=>by
  by_cases e:k=n+1
  . rw[<-e];exact h
  . rw[Et,Mf h n (by omega)];rfl
theorem FM {AA:List (List Dd)}{k:Nat}(h:Br AA k=false):∀n:Nat,k<=n->Br AA n=false
 | 0,hn=>by
  obtain rfl:k=0:=by omega
  exact h
 |n+1,hn=>by
  by_cases e:k=n+1
  . rw[<-e];exact h
  . rw[Br,FM h n (by omega)];rfl
def rT (a b:Nat):Prop:=∀k,a.testBit k=true->b.testBit k=false
theorem Ti (a b:Nat):rT a b↔a &&& b=0:=by
 constructor
 ·
  intro h;apply Nat.eq_of_testBit_eq;intro k;rw[Nat.testBit_and,Nat.zero_testBit];cases ha:a.testBit k
  . rfl
  . rw[h k ha];rfl
 ·
  intro h k ha;have h1:(a &&& b).testBit k=false:=by rw[h,Nat.zero_testBit]
  rw[Nat.testBit_and,ha] at h1
  simpa using h1
theorem MR (a g k:Nat):(a ||| 2 ^ g).testBit k=(a.testBit k||decide (g=k)):=by
 rw[Nat.testBit_or,Nat.testBit_two_pow]
theorem Y8 (o:List Int)(g:Nat)(x:Int)(j:Nat)(hg:g<o.length):(o.set g x).getD j 0=if g=j then x else o.getD j 0:=by
 rw[List.getD_eq_getElem?_getD,List.getElem?_set];by_cases e:g=j
 . subst e;rw[if_pos rfl,if_pos hg,if_pos rfl];rfl
 . rw[if_neg e,if_neg e,List.getD_eq_getElem?_getD]
theorem dG {d:Dd}(h:Eu d=true):0<=Ot d/\Ot d<=9:=by
 simp[Eu,Dn] at h;unfold Ot;omega
theorem Fr {i:Nat}{own:List Int}{T:Nat}{ds:List Dd}(hl:own.length=10)(hT:∀g,g<10->(own.getD g 0≠0↔T.testBit g=true))(hi:∀g,g<10->own.getD g 0≠(i:Int)+1)(hT0:T.testBit 0=false):
  ∀k:Nat,(∀j,j<k->Eu (ds.getD j zD)=true)->∃G:Nat,G<4096/\gK ds k=(G:Int)/\G.testBit 0=false/\(k=0->G=0) /\
   (Ch i own ds k=none->Et ds k=false\/¬rT G T) /\
   ∀o,Ch i own ds k=some o->Et ds k=true/\rT G T/\o.length=10/\∀g,g<10->o.getD g 0=if G.testBit g=true then (i:Int)+1 else own.getD g 0
 | 0,_=>⟨0,by omega,rfl,by simp,fun _=>rfl,by simp[Ch],by
   intro o ho;simp only[Ch,Option.some.injEq] at ho;subst ho
   exact⟨rfl,fun k hk=>by simp at hk,hl,by simp⟩⟩
 |k+1,hok=>by
  obtain⟨G,hG,gM,hG0,hz,hN,hS⟩:=Fr hl hT hi hT0 k (fun j hj=>hok j (by omega));obtain⟨h0,h9⟩:=dG (hok k (by omega));obtain⟨g,hg⟩:=Int.eq_ofNat_of_zero_le h0;have hgg:(ds.getD k zD).2.2.2=(g:Int):=hg;by_cases hg0:g=0
  ·
   subst hg0;have hz0:(ds.getD k zD).2.2.2=0:=hgg;have e1:gK ds (k+1)=(G:Int):=by rw[gK,hg,if_pos (by simp),gM]
   have e2:G7 ds k=false:=by
    have:Ef (gK ds k) (Ot (ds.getD k zD))=false:=by rw[gM,hg,L9 G 0 hG (by omega),hG0]
    rw[G7,this,Bool.and_false]
   have e3:Et ds (k+1)=Et ds k:=by rw[Et,e2];simp
   have e4:Ch i own ds (k+1)=Ch i own ds k:=by
    rw[Ch]
    cases hq:Ch i own ds k with
    |none=>rfl
    |some o=>simp only;rw[if_pos hz0]
   refine⟨G,hG,e1,hG0,by omega,?_,?_⟩
   . rw[e3,e4];exact hN
   . rw[e3,e4];exact hS
  ·
   have oO:(ds.getD k zD).2.2.2≠0:=by rw[hgg];omega
   have g9:g<=9:=by rw[hg] at h9;omega
   have e1:gK ds (k+1)=((G ||| 2 ^ g:Nat):Int):=by
    rw[gK,hg,if_neg (by omega),gM,Xw G g hG (by omega)]
   have e0:(G ||| 2 ^ g).testBit 0=false:=by rw[MR,hG0];simp[hg0]
   have yO:Ef (gK ds k) (Ot (ds.getD k zD))=G.testBit g:=by rw[gM,hg,L9 G g hG (by omega)]
   refine⟨G ||| 2 ^ g,pV G g hG (by omega),e1,e0,by omega,?_,?_⟩
   ·
    intro hn;rw[Ch] at hn
    cases hq:Ch i own ds k with
    |none=>
     rcases hN hq with h|h
     . left;rw[Et,h];rfl
     ·
      right;intro hd;refine h (fun b hb=>hd b ?_);rw[MR,hb];rfl
    |some o=>
     rw[hq] at hn;simp only at hn;rw[if_neg oO,hgg,Int.toNat_natCast] at hn;obtain⟨ht,hd,hlen,ho⟩:=hS o hq;split at hn
     ·
      rename_i hc
      cases bC:T.testBit g with
      |true=>
       right;intro hd2;have:=hd2 g (by rw[MR];simp);rw[bC] at this;cases this
      |false=>
       left
       have hown:own.getD g 0=0:=by
        apply Classical.byContradiction;intro hne;rw[(hT g (by omega)).1 hne] at bC;cases bC
       cases WJ:G.testBit g with
       |false=>
        exfalso;have:=ho g (by omega);rw[WJ,hown] at this;exact hc.1 (by simpa using this)
       |true=>
        have hk0:k≠0:=by
         intro hk;rw[hz hk] at WJ;simp at WJ
        have hog:=ho g (by omega);rw[WJ,if_pos rfl] at hog
        have hp:(ds.getD (k-1) zD).2.2.2≠(g:Int):=by
         rcases hc.2 with h|h|h
         . exact absurd hog h
         . exact absurd h hk0
         . exact h
        have:G7 ds k=true:=by
         rw[G7,yO,WJ,hg]
         have hp':((g:Int) != Ot (ds.getD (k-1) zD))=true:=by
          rw[bne_iff_ne];exact fun e=>hp e.symm
         rw[hp'];simp;omega
        rw[Et,this];simp
     . cases hn
   ·
    intro o' hn;rw[Ch] at hn
    cases hq:Ch i own ds k with
    |none=>rw[hq] at hn;cases hn
    |some o=>
     rw[hq] at hn;simp only at hn;rw[if_neg oO,hgg,Int.toNat_natCast] at hn;obtain⟨ht,hd,hlen,ho⟩:=hS o hq;split at hn
     . cases hn
     ·
      rename_i hc;simp only[Option.some.injEq] at hn;subst hn;have hog:=ho g (by omega)
      have bC:T.testBit g=false:=by
       cases bC:T.testBit g with
       |false=>rfl
       |true=>
        exfalso
        have WJ:G.testBit g=false:=by
         cases WJ:G.testBit g with
         |false=>rfl
         |true=>rw[hd g WJ] at bC;cases bC
        rw[WJ] at hog;simp only[Bool.false_eq_true,if_false] at hog;exact hc ⟨by rw[hog];exact (hT g (by omega)).2 bC,.inl (by rw[hog];exact hi g (by omega))⟩
      refine⟨?_,?_,by rw[List.length_set];exact hlen,?_⟩
      ·
       have:G7 ds k=false:=by
        cases hp:G7 ds k with
        |false=>rfl
        |true=>
         exfalso;rw[G7,yO,hg,Bool.and_eq_true,Bool.and_eq_true,decide_eq_true_eq,bne_iff_ne] at hp;obtain⟨⟨hk,hne⟩,WJ⟩:=hp;rw[WJ,if_pos rfl] at hog;exact hc ⟨by rw[hog];omega,.inr (.inr (fun e=>hne e.symm))⟩
       rw[Et,ht,this];rfl
      ·
       intro b hb;rw[MR,Bool.or_eq_true,decide_eq_true_eq] at hb;rcases hb with hb|rfl
       . exact hd b hb
       . exact bC
      ·
       intro j hj;rw[Y8 o g _ j (by omega),MR];by_cases e:g=j
       . subst e;simp
       . rw[if_neg e,ho j hj];simp[e]
theorem OT {AA:List (List Dd)}:∀n:Nat,(∀i,i<n->FP (AA.getD i [])=true)->∃T:Nat,T<4096/\Fl AA n=(T:Int)/\T.testBit 0=false /\
   (EF AA n=none->Br AA n=false) /\
   ∀o,EF AA n=some o->Br AA n=true/\o.length=10/\(∀g,g<10->(o.getD g 0≠0↔T.testBit g=true))/\∀g,g<10->0<=o.getD g 0/\o.getD g 0<=(n:Int)
 | 0,_=>⟨0,by omega,rfl,by simp,by simp[EF],by
   intro o ho;simp only[EF,Option.some.injEq] at ho;subst ho;refine⟨rfl,by simp,fun g hg=>?_,fun g hg=>?_⟩
   . rw[List.getD_eq_getElem?_getD,List.getElem?_replicate,if_pos hg];simp
   . rw[List.getD_eq_getElem?_getD,List.getElem?_replicate,if_pos hg];simp⟩
 |n+1,hok=>by
  obtain⟨T,hT,htk,hT0,hN,hS⟩:=OT n (fun i hi=>hok i (by omega));have vK:=hok n (by omega);simp only[FP,Bool.and_eq_true,decide_eq_true_eq] at vK;have hall:=vK.1;have hok2:∀j,j<(AA.getD n []).length->Eu ((AA.getD n []).getD j zD)=true:=fun j hj=>Be zD hall j hj
  obtain⟨G0,hG0,bG,hG00,-⟩:=Fr (i:=0) (own:=List.replicate 10 0) (T:=0) (ds:=AA.getD n []) (by simp) (fun g hg=>by rw[List.getD_eq_getElem?_getD,List.getElem?_replicate,if_pos hg];simp) (fun g hg=>by rw[List.getD_eq_getElem?_getD,List.getElem?_replicate,if_pos hg];simp) (by simp) (AA.getD n []).length hok2
  have hor:Fl AA (n+1)=((T ||| G0:Nat):Int):=by
   rw[Fl,htk,gC,bG,Lz T G0 (by omega) (by omega)]
  have hand:bits .and .i64 (gC (AA.getD n [])) (Fl AA n)=((G0 &&& T:Nat):Int):=by
   rw[gC,bG,htk,Kd G0 T (by omega) (by omega)]
  have hR:Cd (AA.getD n []) (Fl AA n)=(Et (AA.getD n []) (AA.getD n []).length&&decide (G0 &&& T=0)):=by
   rw[Cd,hall,decide_eq_true vK.2,hand];simp only[Bool.true_and]
   congr 1
   rw[Bool.eq_iff_iff,beq_iff_eq,decide_eq_true_eq];omega
  refine⟨T ||| G0,Nat.or_lt_two_pow (n:=12) hT hG0,hor,by rw[Nat.testBit_or,hT0,hG00];rfl,?_,?_⟩
  ·
   intro hn;rw[EF] at hn
   cases hq:EF AA n with
   |none=>rw[Br,hN hq];rfl
   |some o=>
    rw[hq] at hn;simp only at hn;obtain⟨hr,hl,hb,hle⟩:=hS o hq;obtain⟨G,hG,gM,-,-,hN2,-⟩:=Fr (i:=n) (own:=o) (T:=T) (ds:=AA.getD n []) hl hb (fun g hg=>by have:=hle g hg;omega) hT0 (AA.getD n []).length hok2;obtain rfl:G=G0:=by rw[bG] at gM;omega
    rw[Br,hr,hR];rcases hN2 hn with h|h
    . rw[h];rfl
    . rw[decide_eq_false (fun e=>h ((Ti _ _).2 e))];simp
  ·
   intro o' hn;rw[EF] at hn
   cases hq:EF AA n with
   |none=>rw[hq] at hn;cases hn
   |some o=>
    rw[hq] at hn;simp only at hn;obtain⟨hr,hl,hb,hle⟩:=hS o hq;obtain⟨G,hG,gM,-,-,-,hS2⟩:=Fr (i:=n) (own:=o) (T:=T) (ds:=AA.getD n []) hl hb (fun g hg=>by have:=hle g hg;omega) hT0 (AA.getD n []).length hok2;obtain rfl:G=G0:=by rw[bG] at gM;omega
    obtain⟨h1,h2,h3,h4⟩:=hS2 o' hn;refine⟨by rw[Br,hr,hR,h1,decide_eq_true ((Ti _ _).1 h2)];rfl,h3,fun g hg=>?_,fun g hg=>?_⟩
    ·
     rw[h4 g hg,Nat.testBit_or,Bool.or_eq_true];cases WJ:G.testBit g
     . simp only[Bool.false_eq_true,if_false,or_false];exact hb g hg
     . simp only[if_true,or_true,iff_true];omega
    ·
     rw[h4 g hg];have:=hle g hg;split<;>omega
theorem RM {AA:List (List Dd)}(h:AA.all FP=true):Br AA AA.length=JW AA:=by
 obtain⟨T,-,-,-,hN,hS⟩:=OT (AA:=AA) AA.length (fun i hi=>Be [] h i hi);rw[JW]
 cases hq:EF AA AA.length with
 |none=>rw[hN hq];rfl
 |some o=>rw[(hS o hq).1];rfl
theorem St {AA:List (List Dd)}(h:Br AA AA.length=true):AA.all FP=true:=by
 refine iU [] (fun i hi=>?_)
 cases hb:Br AA (i+1) with
 |false=>rw[FM hb _ hi] at h;cases h
 |true=>
  rw[Br,Bool.and_eq_true] at hb;have:=hb.2;simp only[Cd,Bool.and_eq_true] at this;rw[FP,this.1.1.2,Bool.true_and];exact this.1.1.1
theorem Rg (AA:List (List Dd)):AL AA=(decide (1<=AA.length/\AA.length<=3)&&Br AA AA.length&&decide (Bs AA<=12)&&decide (Qb AA AA.length<=6)):=by
 rw[AL]
 cases h:AA.all FP with
 |true=>
  rw[RM h];cases JW AA<;>simp
 |false=>
  cases hr:Br AA AA.length with
  |false=>simp
  |true=>rw[St hr] at h;cases h
section
section
variable {P:Program} {md:Region.Mode} {ops:Array Oper} {Q:Exit->Act->World->Prop} {S:World->Prop}
theorem qD (i d:Nat){oi:Oper}{v:Value}{fuel:Nat}{listed:Array Bool}{a:Act}{w:World}(hi:ops[i]? = some oi)(hd:oi.dst=some d)
  (hs:Region.noSelect ops=true) (hf:Region.free md ops listed i=true) (hr:(Region.ready md ops listed).contains i=true)
  (hQ:∀c a w,Q (.panic c) (a.put (some d) v) w->Q (.panic c) a w) (hw:Region.wanted oi (yielded ops a.tmps)=true) (hy:∀w,S w->(execOp a.eval oi).run P w = .ok (.value v) w) (hS:S w)
  (h:wpAnyH P md ops Q S fuel (listed.setIfInBounds i true) (a.put (some d) v) w):wpAnyH P md ops Q S (fuel+1) listed a w:=by
 rw[<-hd] at hQ h;exact wpAnyH_take hi hs hf hr hQ (Or.inl ⟨hw,hy⟩) hS h
theorem Ar (i d:Nat){oi:Oper}{v:Value}{fuel:Nat}{listed:Array Bool}{a:Act}{w:World}
  (hy:∀w,S w->(execOp a.eval oi).run P w = .ok (.value v) w) (h:wpAnyH P md ops Q S fuel (listed.setIfInBounds i true) (a.put (some d) v) w)
  (hi:ops[i]? = some oi:=by rfl) (hd:oi.dst=some d:=by rfl)
  (hs:Region.noSelect ops=true:=by kernel_rfl) (hf:Region.free md ops listed i=true:=by kernel_rfl) (hr:(Region.ready md ops listed).contains i=true:=by kernel_rfl)
  (hQ:∀c a w,Q (.panic c) (a.put (some d) v) w->Q (.panic c) a w:=by exact fun _ _ _ h=>h) (hw:Region.wanted oi (yielded ops a.tmps)=true:=by rfl) (hS:S w:=by assumption):wpAnyH P md ops Q S (fuel+1) listed a w:=
 qD i d hi hd hs hf hr hQ hw hy hS h
theorem C5 (i d:Nat){oi:Oper}{fuel:Nat}{listed:Array Bool}{a:Act}{w:World}(hi:ops[i]? = some oi)(hd:oi.dst=some d)
  (hs:Region.noSelect ops=true) (hf:Region.free md ops listed i=true) (hr:(Region.ready md ops listed).contains i=true)
  (hQ:∀c a w,Q (.panic c) (a.put (some d) undef) w->Q (.panic c) a w) (hw:Region.wanted oi (yielded ops a.tmps)=false) (hS:S w)
  (h:wpAnyH P md ops Q S fuel (listed.setIfInBounds i true) (a.put (some d) undef) w):wpAnyH P md ops Q S (fuel+1) listed a w:=by
 rw[<-hd] at hQ h;exact wpAnyH_take hi hs hf hr hQ (Or.inr ⟨hw,rfl⟩) hS h
end
end
structure LP (w0 wr:World)(x:Value)(es:List Ev)(P:List (Nat×Obj)):Prop where
 app:IG wr w0.heap.size x es
 keep:AC w0 wr
 held:∀n o,(n,o)∈P->x.ownBlock≠some n/\wr.heap[n]? = some o
theorem LP.more {w0 wr wr':World}{x:Value}{es:List Ev}{P:List (Nat×Obj)}(h:LP w0 wr x es P)(k:AC wr wr'):LP w0 wr' x es P:=
 ⟨h.app.keep k,h.keep.trans k,fun n o hn=>⟨(h.held n o hn).1,(Below.block k n (Array.getElem?_eq_some_iff.1 (h.held n o hn).2).1).trans (h.held n o hn).2⟩⟩
theorem LP.add {w0 wr:World}{x:Value}{es:List Ev}{P:List (Nat×Obj)}(h:LP w0 wr x es P)(n:Nat)(o:Obj)(hx:x.ownBlock≠some n)(ho:wr.heap[n]? = some o):LP w0 wr x es ((n,o)::P):=
 ⟨h.app,h.keep,fun m q hm=>by
  rcases List.mem_cons.1 hm with e|e
  . injection e with e1 e2;subst e1 e2;exact⟨hx,ho⟩
  . exact h.held m q e⟩
theorem LP.new {w0 wr:World}{x:Value}{es:List Ev}{P:List (Nat×Obj)}(h:LP w0 wr x es P)(o:Obj):LP w0 (wr.alloc o) x es ((wr.heap.size,o)::P):=
 (h.more ((AC.refl wr).alloc o)).add _ _ (fun e=>by have:=(h.app.lt _ e).2;omega) (heap_alloc_new wr o)
theorem LP.later {w0 wr wr':World}{x:Value}{es:List Ev}{P:List (Nat×Obj)}(h:LP w0 wr x es P)(k:AC wr wr'){B:Nat}{o:Obj}(hB:wr.heap.size<=B)(ho:wr'.heap[B]? = some o):LP w0 wr' x es ((B,o)::P):=
 (h.more k).add _ _ (fun e=>by have:=(h.app.lt _ e).2;omega) ho
theorem LP.less {w0 wr:World}{x:Value}{es:List Ev}{P Q:List (Nat×Obj)}(h:LP w0 wr x es P)(hs:∀y,y∈Q->y∈P):LP w0 wr x es Q:=
 ⟨h.app,h.keep,fun n o hn=>h.held n o (hs _ hn)⟩
theorem LP.hit {w0 wr w':World}{x v':Value}{es:List Ev}{P:List (Nat×Obj)}(h:LP w0 wr x es P)(e:Ev)
  (ho:w'.ownsRow w0.heap.size 85 6 v' (es.length+1) (es.flatMap cE++cE e)) (hg:wr.grownBy w' x.ownBlock) (hb:v'.ownBlock=x.ownBlock\/v'.ownBlock=some wr.heap.size):LP w0 w' v' (es++[e]) P:=by
 refine⟨JJ ho,h.keep.grown hg h.app.ge,fun n o hn=>?_⟩;obtain⟨h1,h2⟩:=h.held n o hn;have hlt:=(Array.getElem?_eq_some_iff.1 h2).1;refine⟨fun e=>?_,(hg.block n hlt (fun e=>h1 e.symm)).trans h2⟩;rcases hb with hb|hb
 . exact h1 (hb ▸ e)
 . rw[hb] at e;have:=Option.some.inj e;omega
theorem LP.lt {w0 wr:World}{x:Value}{es:List Ev}{P:List (Nat×Obj)}(h:LP w0 wr x es P){n:Nat}{o:Obj}(hn:(n,o)∈P):n<wr.heap.size:=(Array.getElem?_eq_some_iff.1 (h.held n o hn).2).1
theorem LP.cell {w0 wr:World}{x:Value}{es:List Ev}{P:List (Nat×Obj)}(h:LP w0 wr x es P){n:Nat}{cs:Array Value}{t:TypeId}(hn:(n,.cells cs t)∈P)(i:Nat):wr.cell? ⟨n,i,none⟩=cs[i]?:=
 cell_of_row wr n i cs t (0,0) (h.held n _ hn).2
theorem Wn {w:World}{base base':Nat}{v:Value}{es:List Ev}(h:IG w base v es)(hb:base'<=base):IG w base' v es:=by
 refine⟨h.1,?_⟩;rcases h.2 with h|⟨g,cap,cur,hv,hg,rest⟩
 . exact .inl h
 . exact .inr ⟨g,cap,cur,hv,Nat.le_trans hb hg,rest⟩
abbrev eO (i k:Int)(r:Bool)(p v c:Int):Obj:= .cells #[.int .i64 i,.int .i64 k,.bool r,.int .i64 p,.int .i64 v,.int .i64 c] 85
theorem JN (e:Ev):∀u∈cE e,u.oneCell'=true:=by
 intro u hu;simp only[cE,List.mem_cons,List.not_mem_nil,or_false] at hu;rcases hu with rfl|rfl|rfl|rfl|rfl|rfl<;>rfl
theorem JM (w:World)(n:Nat)(hn:w.heap.size=n)(i q:Int)(r:Bool)(pl vl c:Int):∀j u,(cE (i,q,r,pl,vl,c))[j]? = some u->(w.alloc (eO i q r pl vl c)).cell? ((⟨n,0,none⟩:Addr).add j)=some u:=by
 subst hn;intro j u hj
 match j,hj with
 | 0,hj=>simp[cE] at hj;subst hj;simp[Addr.add]
 | 1,hj=>simp[cE] at hj;subst hj;simp[Addr.add]
 | 2,hj=>simp[cE] at hj;subst hj;simp[Addr.add]
 | 3,hj=>simp[cE] at hj;subst hj;simp[Addr.add]
 | 4,hj=>simp[cE] at hj;subst hj;simp[Addr.add]
 | 5,hj=>simp[cE] at hj;subst hj;simp[Addr.add]
def Pv (f:Ev->Bool)(es:List Ev)(k:Nat):Bool:=decide (k<es.length)&&f (es.getD k zE)
def Tc (f:Ev->Bool)(es:List Ev):Nat->List Int
 | 0=>[]
 |k+1=>if Pv f es k=true then Tc f es k++[(k:Int)] else Tc f es k
theorem Ok (f:Ev->Bool)(es:List Ev):∀k,Tc f es k=BR f es (min k es.length)
 | 0=>by simp[Tc,BR]
 |k+1=>by
  rw[Tc,Ok f es k];by_cases h:k<es.length
  ·
   rw[show min (k+1) es.length=k+1 by omega,show min k es.length=k by omega,BR];simp[Pv,h]
  ·
   rw[show min (k+1) es.length=min k es.length by omega];simp[Pv,h]
theorem Z3 (f:Ev->Bool)(es:List Ev)(k:Nat)(h:es.length<=k):Tc f es k=BR f es es.length:=by
 rw[Ok,Nat.min_eq_right h]
theorem Z4 (f:Ev->Bool)(es:List Ev)(k:Nat):(Tc f es k).length<=k:=by
 rw[Ok];have:=D4 f es (min k es.length);omega
structure Ro (w:World)(a b c:Addr):Prop where
 no:JG w a
 nx:w.cell? ⟨2,0,none⟩=some (Rl b)
 un:w.cell? ⟨3,0,none⟩=some (Rl c)
theorem FW {w w':World}{b o:Nat}{v:Value}(h:w.cell? ⟨b,o,none⟩=some v)(k:AC w w'):w'.cell? ⟨b,o,none⟩=some v:=(k.cell (World.block_lt_of_cell? w ⟨b,o,none⟩ h)).trans h
theorem Ro.keep {w w':World}{a b c:Addr}(h:Ro w a b c)(k:AC w w'):Ro w' a b c:=⟨h.no.keep k,FW h.nx k,FW h.un k⟩
def Rs (t:Bool)(v:Value):Prop:=(t=true/\v = .nilIface)\/(t=false/\∃s b,v=pz s (Rl b))
theorem Rs.no {v:Value}(h:Rs false v):∃s b,v=pz s (Rl b):=h.elim (fun q=>by cases q.1) (fun q=>q.2)
theorem Rs.yes {v:Value}(h:Rs true v):v = .nilIface:=h.elim (fun q=>q.2) (fun q=>by cases q.1)
def Ea (b:Bd):Bd:={ b with AO:=[],fr:=[],rws:=[] }
def B6 (b b':Bd):Prop:=Ea b=Ea b'
theorem Yx (b:Bd)(c p:Nat):(Ck (Ea b) c p).1=(Ck b c p).1:=by
 unfold Ck;show (match (b.AJ.getD c []).reverse.find? (fun x:Nt=>x.1==(p:Int)) with|some x=>x.2|none=>(b.AM.getD p 0,(([]:List Int).getD p 0:Int))).1=_;cases (b.AJ.getD c []).reverse.find? (fun x:Nt=>x.1==(p:Int))<;>rfl
theorem Rz (AA:List (List Dd))(es:List Ev)(b:Bd)(c k:Nat):Ea (BA AA es (Ea b) c k)=Ea (BA AA es b c k):=by
 unfold BA;split
 ·
  have h:=Yx b c (Ai AA c k).2.1.toNat;unfold Ew;show ({ AM:=b.AM,AO:=[],AJ:=b.AJ,AK:=b.AK,sn:=GI _ _ (Ck (Ea b) c _).1 b.sn,fr:=[],rws:=[] }:Bd)=_;rw[h];rfl
 ·
  split
  . rfl
  ·
   split
   . rfl
   . split<;>rfl
theorem NQ (AA:List (List Dd))(es:List Ev)(b:Bd)(c:Nat):Ea (Ag AA es (Ea b) c)=Ea (Ag AA es b c):=by
 have h:=Rz AA es b c (Aj b c);have e:Aj (Ea b) c=Aj b c:=rfl;unfold Ag;rw[e];simp only[Ea] at h ⊢;injection h with h1 h2 h3 h4 h5;rw[h1,h3,h5]
theorem Ru {AA:List (List Dd)}{es:List Ev}{b b':Bd}(h:B6 b b')(c:Nat):B6 (Ag AA es b c) (Ag AA es b' c):=by
 unfold B6 at h ⊢;rw[<-NQ,h,NQ]
theorem Dr {b b':Bd}(h:B6 b b'):b.AK=b'.AK/\b.AJ=b'.AJ/\b.sn=b'.sn/\b.AM=b'.AM:=by
 unfold B6 Ea at h;injection h with h1 h2 h3 h4 h5;exact⟨h4,h3,h5,h1⟩
theorem Uj {b b':Bd}(h1:b.AK=b'.AK)(h2:b.AJ=b'.AJ)(h3:b.sn=b'.sn)(h4:b.AM=b'.AM):B6 b b':=by
 unfold B6 Ea;rw[h1,h2,h3,h4]
theorem NO {AA:List (List Dd)}{es:List Ev}(g:Int)(c:Nat):∀(m:Nat) (b b':Bd),B6 b b'->B6 (EE AA es g c m b) (EE AA es g c m b')
 | 0,_,_,h=>h
 |m+1,b,b',h=>by
  have h1:=Ru (AA:=AA) (es:=es) h c;have e:Aj (Ag AA es b c) c=Aj (Ag AA es b' c) c:=by unfold Aj;rw[(Dr h1).1]
  rw[EE,EE,e];split
  . exact h1
  . exact NO g c m _ _ h1
theorem Oe {b b':Bd}(h:B6 b b')(c:Nat):B6 (BG b c) (BG b' c):=by
 obtain⟨h1,h2,h3,h4⟩:=Dr h;unfold BG;rw[h2];split
 . exact h
 ·
  unfold B6 Ea Db;simp only;rw[h1,h3,h4]
theorem Gf {AA:List (List Dd)}{es:List Ev}{b b':Bd}(h:B6 b b')(s:Int):B6 (Ao AA es b s) (Ao AA es b' s):=by
 unfold Ao;have e:Aj b s.toNat=Aj b' s.toNat:=by unfold Aj;rw[(Dr h).1]
 split
 . exact Oe h _
 . rw[e];exact NO _ _ _ _ _ h
theorem Og {AA:List (List Dd)}{es:List Ev}{b b':Bd}(h:B6 b b')(c:Nat):B6 (Bv AA es b c) (Bv AA es b' c):=by
 have h1:=Gf (AA:=AA) (es:=es) h (c:Int);unfold Bv;rw[(Dr h1).2.1];split
 . exact h1
 . exact Gf h1 _
theorem Gd {AA:List (List Dd)}{b b':Bd}(h:B6 b b'):An AA b=An AA b'/\Bx AA b=Bx AA b'/\DF AA b=DF AA b'/\Ak b=Ak b':=by
 obtain⟨h1,h2,h3,h4⟩:=Dr h;have hn:∀c,Aj b c=Aj b' c:=fun c=>by unfold Aj;rw[h1]
 have hc:Bx AA b=Bx AA b':=by funext c;unfold Bx;rw[hn,h2]
 refine⟨?_,hc,?_,?_⟩
 ·
  unfold An;rw[hc,h2]
 ·
  unfold DF;rw[h2]
  congr 1
  funext c;rw[hn]
 . unfold Ak;rw[h3,h4]
theorem GJ:∀ {l' l:List Nat},l'.Pairwise (·<·)->l.Pairwise (·<·)->(∀x∈l',x∈l)->l'.Sublist l
 | [],_,_,_,_=>List.nil_sublist _
 |y::r',[],_,_,h=>by cases h y (by simp)
 |y::r',x::r,h',h,hs=>by
  obtain⟨a1,a2⟩:=List.pairwise_cons.1 h';obtain⟨b1,b2⟩:=List.pairwise_cons.1 h;by_cases e:y=x
  ·
   subst e;refine (GJ a2 b2 (fun z hz=>?_)).cons_cons y;rcases List.mem_cons.1 (hs z (List.mem_cons_of_mem _ hz)) with q|q
   . have:=a1 z hz;omega
   . exact q
  ·
   have hy:y∈r:=by
    rcases List.mem_cons.1 (hs y (by simp)) with q|q
    . exact absurd q e
    . exact q
   have hxy:=b1 y hy;refine (GJ h' b2 (fun z hz=>?_)).cons x;rcases List.mem_cons.1 (hs z hz) with q|q
   ·
    rcases List.mem_cons.1 hz with q2|q2
    . exact q2 ▸ hy
    . have:=a1 z q2;omega
   . exact q
theorem Q5 {AA:List (List Dd)}{b b':Bd}{a a':Ab}{τ τ':Nat->Nat}{T T':Nat}{z z':Int}(M:MI AA b a τ T z)(M':MI AA b' a' τ' T' z'){c:Nat}(hn:a.nx c=a'.nx c){x y:Nat}(hx:x∈a.N c)(hy:y∈a'.N c)(hxy:x<=y):y∈a.N c:=by
 rcases Nat.lt_or_ge x y with h|h
 ·
  have hy':=M'.inv.note (c:Int) y (by rw[IP];exact hy);obtain⟨⟨q1,q2⟩,q3,q4,q5⟩:=hy';have hck:((AB AA).getD y zE).1=(c:Int):=q4
  have hX:(Cr AA a τ).X y:=by
   refine⟨q1,?_⟩;unfold D2 at q2 ⊢;rw[hck,Int.toNat_natCast] at q2 ⊢;rw[hn];exact q2
  have hx':x∈(Cr AA a τ).N (c:Int):=by rw[IP];exact hx
  rcases M.inv.pend (c:Int) x y hx' hX h q4 with q|q
  . rw[q5] at q;cases q.1
  . rwa [IP] at q
 ·
  have:x=y:=by omega
  exact this ▸ hx
theorem VY {AA:List (List Dd)}{b b':Bd}{a a':Ab}{τ τ':Nat->Nat}{T T':Nat}{z z':Int}(M:MI AA b a τ T z)(M':MI AA b' a' τ' T' z'){c:Nat}(hn:a.nx c=a'.nx c)(hl:(a.N c).length=(a'.N c).length):a.N c=a'.N c:=by
 have s:=M.inv.Kz (c:Int);have s':=M'.inv.Kz (c:Int);rw[IP] at s s';have up:=fun {x y}=>@Q5 AA b b' a a' τ τ' T T' z z' M M' c hn x y
 have up':=fun {x y}=>@Q5 AA b' b a' a τ' τ T' T z' z M' M c hn.symm x y
 generalize a.N c=l at *;generalize a'.N c=l' at *
 cases l with
 |nil=>exact (List.eq_nil_of_length_eq_zero hl.symm).symm
 |cons x r=>
  cases l' with
  |nil=>cases hl
  |cons y r'=>
   obtain⟨a1,a2⟩:=List.pairwise_cons.1 s;obtain⟨b1,b2⟩:=List.pairwise_cons.1 s';rcases Nat.le_total x y with h|h
   ·
    refine ((GJ s' s (fun v hv=>up (List.mem_cons_self) hv ?_)).eq_of_length hl.symm).symm;rcases List.mem_cons.1 hv with q|q
    . omega
    . have:=b1 v q;omega
   ·
    refine (GJ s s' (fun v hv=>up' (List.mem_cons_self) hv ?_)).eq_of_length hl;rcases List.mem_cons.1 hv with q|q
    . omega
    . have:=a1 v q;omega
def BW (b b':Bd):Prop:=b.AM=b'.AM/\b.AK=b'.AK/\b.AJ.map List.length=b'.AJ.map List.length/\b.sn=b'.sn
theorem B6.stand {b b':Bd}(h:B6 b b'):BW b b':=by
 obtain⟨h1,h2,h3,h4⟩:=Dr h;exact⟨h4,h1,by rw[h2],h3⟩
theorem RU {AA:List (List Dd)}(hb:AL AA=true){quick quick':Bool}{b b':Bd}(h:Bi AA quick b)(h':Bi AA quick' b')(hs:BW b b'):B6 b b':=by
 obtain⟨a,τ,T,z,M,-⟩:=Ay hb h;obtain⟨a',τ',T',z',M',-⟩:=Ay hb h';obtain⟨s1,s2,s3,s4⟩:=hs;refine Uj s2 ?_ s4 s1
 have hn:∀c,c<AA.length->a.nx c=a'.nx c:=fun c hc=>by
  have e:b.AK.getD c 0=b'.AK.getD c 0:=by rw[s2]
  rw[(Dp M.Bo hc).1,(Dp M'.Bo hc).1] at e;omega
 rw[M.Bo.AJ,M'.Bo.AJ] at s3 ⊢;refine List.map_congr_left (fun c hc=>?_);have hc':=List.mem_range.1 hc;rw[List.map_map,List.map_map] at s3;have e:=congrArg (fun l:List Nat=>l.getD c 0) s3;have e1:=Cw (List.length ∘ fun c=>(a.N c).map (Va AA)) 0 hc';have e2:=Cw (List.length ∘ fun c=>(a'.N c).map (Va AA)) 0 hc';have e:=e1.symm.trans (e.trans e2);simp only[Function.comp_apply,List.length_map] at e;rw[VY M M' (hn c hc') e]
def Uu (AA:List (List Dd))(c:Nat):Nat->Bool
 | 0=>true
 |k+1=>decide (BE AA c (k+1)=0) || !decide (BE AA c k=BE AA c (k+1))
theorem NT (AA:List (List Dd))(c k:Nat):Uu AA c (k+1)=(decide (BE AA c (k+1)=0) || !decide (BE AA c k=BE AA c (k+1))):=rfl
def QO (AA:List (List Dd))(c:Nat):Nat->Nat
 | 0=>0
 |k+1=>QO AA c k+if Uu AA c k=true then 1 else 0
def fK (AA:List (List Dd))(c:Nat):Nat->Nat
 | 0=>0
 |k+1=>fK AA c k+if (Ai AA c k).1=2/\¬ 0<BE AA c k then 1 else 0
def GS (b:Bd)(c:Nat):Nat:=(b.AJ.getD c []).length
def ZH (AA:List (List Dd))(quick:Bool)(b:Bd)(c:Nat):Int:=(QO AA c (Aj b c):Int)+if quick=true then 0 else (fK AA c (Aj b c):Int)-(GS b c:Int)
def Js (f:Nat->Int):Nat->Int
 | 0=>0
 |m+1=>Js f m+f m
theorem IB {f g:Nat->Int}:∀m:Nat,(∀c,c<m->f c=g c)->Js f m=Js g m
 | 0,_=>rfl
 |m+1,h=>by rw[Js,Js,IB m (fun c hc=>h c (by omega)),h m (by omega)]
theorem KR {f g:Nat->Int}{c:Nat}(h1:f c=g c+1)(h2:∀c',c'≠c->f c'=g c'):∀m:Nat,c<m->Js f m=Js g m+1
 | 0,h=>by omega
 |m+1,h=>by
  rw[Js,Js];by_cases e:c=m
  ·
   subst e;rw[IB c (fun c' hc=>h2 c' (by omega)),h1];omega
  ·
   have:=KR h1 h2 m (by omega);rw[h2 m (fun h=>e h.symm),this];omega
def Zc (AA:List (List Dd))(quick:Bool)(b:Bd):Int:=Js (ZH AA quick b) AA.length
def P6 (AA:List (List Dd))(b:Bd):Prop:=∀c,c<AA.length->Aj b c<(AA.getD c []).length->Uu AA c (Aj b c)=true
theorem Yh {AA:List (List Dd)}{es:List Ev}{b:Bd}(hL:LN AA b){c:Nat}(hc:c<AA.length):(∀c',c'≠c->(Ag AA es b c).AJ.getD c' []=b.AJ.getD c' [])/\GS (Ag AA es b c) c=GS b c+if (Ai AA c (Aj b c)).1=2/\¬ 0<BE AA c (Aj b c) then 1 else 0:=by
 have e:(Ag AA es b c).AJ=(BA AA es b c (Aj b c)).AJ:=rfl;unfold GS;rw[e];unfold BA;by_cases h1:(Ai AA c (Aj b c)).1=1
 . rw[if_pos h1,if_neg (by omega)];exact⟨fun _ _=>rfl,rfl⟩
 ·
  rw[if_neg h1];by_cases h3:(Ai AA c (Aj b c)).1=3
  . rw[if_pos h3,if_neg (by omega)];exact⟨fun _ _=>rfl,rfl⟩
  ·
   rw[if_neg h3];by_cases h2:(Ai AA c (Aj b c)).1=2/\0<BE AA c (Aj b c)
   . rw[if_pos h2,if_neg (fun h=>h.2 h2.2)];exact⟨fun _ _=>rfl,rfl⟩
   ·
    rw[if_neg h2];by_cases h4:(Ai AA c (Aj b c)).1=2
    ·
     rw[if_pos h4,if_pos ⟨h4,fun h=>h2 ⟨h4,h⟩⟩];refine⟨fun c' h=>?_,?_⟩
     . rw[show ({ b with AJ:=b.AJ.set c _ }:Bd).AJ=b.AJ.set c _ from rfl,Cn _ _ _ _ _ (by rw[hL.2];exact hc),if_neg (fun h2=>h h2.symm)]
     . rw[show ({ b with AJ:=b.AJ.set c _ }:Bd).AJ=b.AJ.set c _ from rfl,Cn _ _ _ _ _ (by rw[hL.2];exact hc),if_pos rfl,List.length_append];rfl
    . rw[if_neg h4,if_neg (fun h=>h4 h.1)];exact⟨fun _ _=>rfl,rfl⟩
structure Uf (AA:List (List Dd))(c:Nat)(b b':Bd):Prop where
 WQ:∀c',c'≠c->Aj b' c'=Aj b c'/\b'.AJ.getD c' []=b.AJ.getD c' []
 wr:(fK AA c (Aj b' c):Int)-(GS b' c:Int)=(fK AA c (Aj b c):Int)-(GS b c:Int)
 bl:QO AA c (Aj b' c)=QO AA c (Aj b c+1)
 lt:Aj b c<Aj b' c
 ES:Aj b' c<(AA.getD c []).length->Uu AA c (Aj b' c)=true
theorem US {AA:List (List Dd)}{es:List Ev}(g:Int){c:Nat}(hc:c<AA.length):∀(m:Nat) (b:Bd),LN AA b->(∀c,0<=b.AK.getD c 0)->1<=m->Aj b c<(AA.getD c []).length->(AA.getD c []).length<=Aj b c+m->BE AA c (Aj b c)=g ->
  Uf AA c b (EE AA es g c m b)
 | 0,_,_,_,h,_,_,_=>by omega
 |m+1,b,hL,h0,_,hk,hm,hg=>by
  obtain⟨-,q1,q2⟩:=Tx (es:=es) hL h0 hc hk;have hn:=(Sm (es:=es) hL h0 hc).1;have hnc:=hn c;rw[if_pos rfl] at hnc;obtain⟨n1,n2⟩:=Yh (es:=es) hL hc
  have wr1:(fK AA c (Aj (Ag AA es b c) c):Int)-(GS (Ag AA es b c) c:Int)=(fK AA c (Aj b c):Int)-(GS b c:Int):=by
   rw[hnc,fK,n2];split<;>omega
  have jc:∀c',c'≠c->Aj (Ag AA es b c) c'=Aj b c'/\(Ag AA es b c).AJ.getD c' []=b.AJ.getD c' []:=fun c' h=>⟨by rw[hn,if_neg (fun e=>h e.symm)],n1 c' h⟩
  rw[EE];split
  ·
   rename_i hs;refine⟨jc,wr1,by rw[hnc],by omega,fun hlt=>?_⟩;rw[hnc] at hlt hs ⊢;rw[NT];rcases hs with hs|hs|hs
   ·
    by_cases e:BE AA c (Aj b c+1)=0
    . simp[e]
    ·
     rw[hg,hs];have:¬(0:Int)=BE AA c (Aj b c+1):=fun h=>e h.symm
     simp[this]
   . omega
   ·
    rw[hg];have:¬g=BE AA c (Aj b c+1):=fun h=>hs h.symm
    simp[this]
  ·
   rename_i hs;have hs0:¬g=0:=fun h=>hs (.inl h)
   have hs1:¬Aj (Ag AA es b c) c=(AA.getD c []).length:=fun h=>hs (.inr (.inl h))
   have hs2:BE AA c (Aj (Ag AA es b c) c)=g:=by
    by_cases e:BE AA c (Aj (Ag AA es b c) c)=g
    . exact e
    . exact absurd (.inr (.inr e)) hs
   have S:=US (es:=es) g hc m (Ag AA es b c) q1 q2 (by omega) (by omega) (by omega) hs2;refine⟨fun c' h=>⟨(S.WQ c' h).1.trans (jc c' h).1,(S.WQ c' h).2.trans (jc c' h).2⟩,S.wr.trans wr1,?_,by have:=S.lt;omega,S.ES⟩;rw[S.bl,hnc,QO]
   have hnb:Uu AA c (Aj b c+1)=false:=by
    rw[NT];rw[hnc] at hs2;rw[hg,hs2];simp[hs0]
   rw[hnb];simp
theorem RY {AA:List (List Dd)}{es:List Ev}{b:Bd}(hL:LN AA b)(h0:∀c,0<=b.AK.getD c 0){c:Nat}(hl3:AA.length<=3)(hc:c<AA.length)(hk:Aj b c<(AA.getD c []).length):Uf AA c b (Ao AA es b (c:Int)):=by
 unfold Ao;rw[if_neg (by omega),show (c:Int).toNat=c from Int.toNat_natCast c];exact US _ hc _ b hL h0 (by omega) hk (by omega) rfl
theorem Nh {AA:List (List Dd)}{b:Bd}(hL:LN AA b){c:Nat}(hc:c<AA.length):(BG b c).AK=b.AK/\(∀c',c'≠c->(BG b c).AJ.getD c' []=b.AJ.getD c' [])/\(b.AJ.getD c []≠[]->GS b c=GS (BG b c) c+1):=by
 unfold BG GS
 cases hq:b.AJ.getD c [] with
 |nil=>exact⟨rfl,fun _ _=>rfl,fun h=>absurd rfl h⟩
 |cons x r=>
  have e:∀c',(b.AJ.set c r).getD c' []=if c=c' then r else b.AJ.getD c' []:=fun c'=>Cn _ _ _ _ _ (by rw[hL.2];exact hc)
  refine⟨rfl,fun c' h=>?_,fun _=>?_⟩
  ·
   show (b.AJ.set c r).getD c' []=_;rw[e,if_neg (fun h2=>h h2.symm)]
  ·
   show (x::r).length=((b.AJ.set c r).getD c []).length+1;rw[e,if_pos rfl];rfl
theorem Q6 {b b':Bd}(h:b'.AK=b.AK)(c:Nat):Aj b' c=Aj b c:=by unfold Aj;rw[h]
theorem Uf.tm {AA:List (List Dd)}{quick:Bool}{c:Nat}{b b':Bd}(S:Uf AA c b b')(hc:c<AA.length)(hb:Uu AA c (Aj b c)=true):Zc AA quick b'=Zc AA quick b+1:=by
 refine KR (c:=c) ?_ (fun c' h=>?_) _ hc
 ·
  unfold ZH;rw[S.bl,QO,hb,if_pos rfl];have:=S.wr;cases quick
  . simp only[Bool.false_eq_true,if_false];omega
  . simp only[if_true];omega
 ·
  unfold ZH GS;rw[(S.WQ c' h).1,(S.WQ c' h).2]
theorem Uf.xU {AA:List (List Dd)}{c:Nat}{b b':Bd}(S:Uf AA c b b')(h:P6 AA b):P6 AA b':=by
 intro c' hc' hk;by_cases e:c'=c
 . subst e;exact S.ES hk
 . rw[(S.WQ c' e).1] at hk ⊢;exact h c' hc' hk
theorem UA {AA:List (List Dd)}(hb:AL AA=true){quick:Bool}{b x:Bd}(hr:Bi AA quick b)(ha:P6 AA b)(hx:x∈Bh AA (AB AA) quick b):Zc AA quick x=Zc AA quick b+1/\P6 AA x:=by
 obtain⟨a,_,_,_,M,_⟩:=Ay hb hr;obtain⟨hL,h0⟩:=Yz M.Bo;have hl3:=C6 hb
 have can:∀c,c<AA.length->Bx AA b c=true->Aj b c<(AA.getD c []).length:=fun c _ h=>by
  unfold Bx at h;simp only[Bool.and_eq_true,decide_eq_true_eq] at h;exact h.1
 rcases Gz hb hx with ⟨hq,c,hc,hcan,rfl⟩|⟨hq,s,hs,rfl⟩
 ·
  have hk:=can c hc hcan;have S:=RY (es:=AB AA) hL h0 hl3 hc hk;obtain⟨-,m2,-⟩:=Jf hb (es:=AB AA) hL h0 (Q9 hc hcan);subst hq;have t1:=S.tm (quick:=true) hc (ha c hc hk);have t2:=S.xU ha;unfold Bv;split
  . exact⟨t1,t2⟩
  ·
   have e10:Ao AA (AB AA) (Ao AA (AB AA) b (c:Int)) (10+(c:Int))=BG (Ao AA (AB AA) b (c:Int)) c:=by
    rw[Ao,if_pos (by omega),show (10+(c:Int)-10).toNat=c by omega]
   rw[e10];generalize Ao AA (AB AA) b (c:Int)=y at *;obtain⟨f1,-,-⟩:=Nh m2 hc;refine⟨?_,fun c' hc' hk'=>?_⟩
   ·
    rw[<-t1];refine IB _ (fun c' _=>?_);unfold ZH;rw[Q6 f1];rfl
   . rw[Q6 f1] at hk' ⊢;exact t2 c' hc' hk'
 ·
  subst hq;rcases KM (LM hs) hl3 with ⟨c,rfl,hc,hcan,_⟩|⟨c,rfl,hc,hne,_⟩
  ·
   have hk:=can c hc hcan;have S:=RY (es:=AB AA) hL h0 hl3 hc hk;exact⟨S.tm hc (ha c hc hk),S.xU ha⟩
  ·
   have e10:Ao AA (AB AA) b (10+(c:Int))=BG b c:=by
    rw[Ao,if_pos (by omega),show (10+(c:Int)-10).toNat=c by omega]
   rw[e10];obtain⟨f1,f2,f3⟩:=Nh hL hc;refine⟨KR (c:=c) ?_ (fun c' h=>?_) _ hc,fun c' hc' hk'=>?_⟩
   ·
    unfold ZH;rw[Q6 f1];have:=f3 hne;simp only[Bool.false_eq_true,if_false];omega
   ·
    unfold ZH GS;rw[Q6 f1,f2 c' h]
   . rw[Q6 f1] at hk' ⊢;exact ha c' hc' hk'
theorem RK {AA:List (List Dd)}(hb:AL AA=true){quick:Bool}{b:Bd}(h:Bi AA quick b):P6 AA b/\∃n:Nat,Zc AA quick b=(n:Int)/\n+Df AA b<=24:=by
 induction h with
 |new=>
  have h0:∀c',Aj (Ci AA) c'=0:=fun c'=>by
   have:(Ci AA).AK.getD c' 0=0:=by
    show (List.replicate AA.length (0:Int)).getD c' 0=0;rw[List.getD_eq_getElem?_getD,List.getElem?_replicate];split<;>rfl
   unfold Aj;rw[this];rfl
  have h1:∀c',GS (Ci AA) c'=0:=fun c'=>by
   unfold GS;show ((List.replicate AA.length ([]:List Nt)).getD c' []).length=0;rw[List.getD_eq_getElem?_getD,List.getElem?_replicate];split<;>rfl
  refine⟨fun c _ _=>by rw[h0];rfl,0,?_,by have:=(Tw hb).1;omega⟩
  have:∀m,Js (ZH AA quick (Ci AA)) m=0:=by
   intro m
   induction m with
   |zero=>rfl
   |succ m ih=>
    rw[Js,ih];unfold ZH;rw[h0,h1,QO,fK];simp
  exact this _
 |step hr hx ih=>
  obtain⟨ha,n,hn,hm⟩:=ih;obtain⟨q1,q2⟩:=UA hb hr ha hx;have:=Hu hb hr hx;exact⟨q2,n+1,by rw[q1,hn];omega,by omega⟩
theorem ZB {AA:List (List Dd)}{quick:Bool}{b b':Bd}(h:B6 b b'):Zc AA quick b=Zc AA quick b':=by
 obtain⟨h1,h2,_,_⟩:=Dr h;refine IB _ (fun c _=>?_);unfold ZH GS Aj;rw[h1,h2]
def ZS (w:World)(v:Value)(BZ:List (List Int)):Prop:=
 ∃(a:Option Addr) (cap:Nat),v = .slice a BZ.length cap /\
  (BZ=[]\/∃b off,a=some ⟨b,off,none⟩/\b<w.heap.size/\∀i,i<BZ.length->∃vi,w.cell? ⟨b,off+i,none⟩=some vi/\Rd w vi (BZ.getD i []))
theorem ZS.keep {w w':World}{v:Value}{BZ:List (List Int)}(h:ZS w v BZ)(k:AC w w'):ZS w' v BZ:=by
 obtain⟨a,cap,hv,h⟩:=h;refine⟨a,cap,hv,?_⟩;rcases h with h|⟨b,off,ha,hb,hc⟩
 . exact .inl h
 ·
  refine .inr ⟨b,off,ha,Nat.lt_of_lt_of_le hb k.size,fun i hi=>?_⟩;obtain⟨vi,h1,h2⟩:=hc i hi;exact⟨vi,(k.cell hb).trans h1,h2.keep k⟩
theorem Tryz.pG:(Tryz.prog.info? 25).map (fun i=>(i.zero,i.size,i.bytes))=some (some (.slice none 0 0),1,24):=by kernel_rfl
section
structure Rw where
 e:TypeId
 size:Nat
 v:Value
 n:Nat
 xs:List Value
def Rw.own (w:World)(m:Nat)(r:Rw):Prop:=w.ownsRow m r.e r.size r.v r.n r.xs
def IE {ι:Type}[DecidableEq ι](R:ι->Rw)(i:ι)(r:Rw):ι->Rw:=fun j=>if j=i then r else R j
theorem Al {ι:Type}[DecidableEq ι](R:ι->Rw)(i:ι)(r:Rw):IE R i r i=r:=if_pos rfl
theorem AV {ι:Type}[DecidableEq ι](R:ι->Rw){i j:ι}(r:Rw)(h:j≠i):IE R i r j=R j:=if_neg h
structure FO {ι:Type}(w:World)(m:Nat)(live:ι->Prop)(R:ι->Rw):Prop where
 own:∀i,live i->(R i).own w m
 apart:∀i j,live i->live j->i≠j->(R i).v.ownBlock=none\/(R i).v.ownBlock≠(R j).v.ownBlock
section
variable {ι:Type} {w w':World} {m:Nat} {live:ι->Prop} {R:ι->Rw}
theorem FO.lt (h:FO w m live R){i:ι}(hi:live i):∀k,(R i).v.ownBlock=some k->m<=k/\k<w.heap.size:=World.ownsRow.lt (h.own i hi)
theorem FO.keep (h:FO w m live R)(k:AC w w'):FO w' m live R:=
 ⟨fun i hi=>World.ownsRow.kept (h.own i hi) k.grownBy (by cases (R i).v.ownBlock<;>simp),h.apart⟩
theorem FO.far (h:FO w m live R){row:Option Nat}(hg:w.grownBy w' row)(hr:∀i,live i->(R i).v.ownBlock=none\/(R i).v.ownBlock≠row):FO w' m live R:=
 ⟨fun i hi=>World.ownsRow.kept (h.own i hi) hg (hr i hi),h.apart⟩
theorem FO.congr (h:FO w m live R){live':ι->Prop}{R':ι->Rw}(hl:∀i,live' i->live i)(hr:∀i,live' i->R' i=R i):FO w m live' R':=
 ⟨fun i hi=>by rw[hr i hi];exact h.own i (hl i hi),fun i j hi hj hij=>by rw[hr i hi,hr j hj];exact h.apart i j (hl i hi) (hl j hj) hij⟩
variable [DecidableEq ι]
theorem FO.set (h:FO w m live R){i:ι}(hi:live i){r:Rw}(hg:w.grownBy w' (R i).v.ownBlock)(hb:r.v.ownBlock=(R i).v.ownBlock\/r.v.ownBlock=some w.heap.size\/r.v.ownBlock=none)(ho:r.own w' m):FO w' m live (IE R i r):=by
 refine⟨fun j hj=>?_,fun j k hj hk hjk=>?_⟩
 ·
  by_cases e:j=i
  . subst e;rw[Al];exact ho
  ·
   rw[AV R r e];exact World.ownsRow.kept (h.own j hj) hg (h.apart j i hj hi e)
 ·
  have new:∀j,live j->j≠i->(R j).v.ownBlock=none\/(R j).v.ownBlock≠some w.heap.size:=fun j hj _=>by
   cases e:(R j).v.ownBlock with
   |none=>exact .inl rfl
   |some b=>exact .inr (fun e'=>by have:=(h.lt hj b e).2;have:=Option.some.inj e';omega)
  by_cases ej:j=i
  ·
   subst ej;have ek:k≠j:=fun e=>hjk e.symm
   rw[Al,AV R r ek];rcases hb with hb|hb|hb
   . rw[hb];exact h.apart j k hj hk hjk
   ·
    rw[hb];right;intro e;rcases new k hk ek with h1|h1
    . rw[h1] at e;cases e
    . exact h1 e.symm
   . exact .inl hb
  ·
   rw[AV R r ej];by_cases ek:k=i
   ·
    subst ek;rw[Al];rcases hb with hb|hb|hb
    . rw[hb];exact h.apart j k hj hk hjk
    . rw[hb];exact new j hj ej
    ·
     rw[hb]
     cases (R j).v.ownBlock with
     |none=>exact .inl rfl
     |some b=>exact .inr (by simp)
   ·
    rw[AV R r ek];exact h.apart j k hj hk hjk
theorem FO.add (h:FO w m live R){i:ι}(hi:¬live i){r:Rw}{s:Nat}(hs:s=w.heap.size)(k:AC w w')(ho:r.own w' m)(hn:∀b,r.v.ownBlock=some b->s<=b):FO w' m (fun j=>live j\/j=i) (IE R i r):=by
 have hk:=h.keep k
 have new:∀j,live j->(R j).v.ownBlock=none\/(R j).v.ownBlock≠r.v.ownBlock:=fun j hj=>by
  cases e:(R j).v.ownBlock with
  |none=>exact .inl rfl
  |some b=>exact .inr (fun e'=>by have:=(h.lt hj b e).2;have:=hn b e'.symm;omega)
 have ne:∀j,live j->j≠i:=fun j hj e=>hi (e ▸ hj)
 refine⟨fun j hj=>?_,fun j l hj hl hjl=>?_⟩
 ·
  rcases hj with hj|rfl
  . rw[AV R r (ne j hj)];exact hk.own j hj
  . rw[Al];exact ho
 ·
  rcases hj with hj|rfl
  ·
   rw[AV R r (ne j hj)];rcases hl with hl|rfl
   . rw[AV R r (ne l hl)];exact h.apart j l hj hl hjl
   . rw[Al];exact new j hj
  ·
   rw[Al];rcases hl with hl|rfl
   ·
    rw[AV R r (ne l hl)];rcases new l hl with h1|h1
    ·
     rw[h1]
     cases r.v.ownBlock with
     |none=>exact .inl rfl
     |some b=>exact .inr (by simp)
    . exact .inr (fun e=>h1 e.symm)
   . exact absurd rfl hjl
end
theorem Rw.cell {w:World}{m:Nat}{r:Rw}(h:r.own w m){g cap k:Nat}(hv:r.v = .slice (some ⟨g,0,none⟩) r.n cap)(hk:k<r.n*r.size):w.cell? ⟨g,k,none⟩=r.xs[k]?:=by
 unfold Rw.own at h;rw[hv] at h;exact World.ownsRow.cellAt h k hk
theorem Rw.put {w:World}{m:Nat}{r:Rw}(h:r.own w m){g cap k:Nat}(hv:r.v = .slice (some ⟨g,0,none⟩) r.n cap)(x:Value):Rw.own (w.setCell ⟨g,k,none⟩ x) m { r with xs:=r.xs.set k x }/\w.grownBy (w.setCell ⟨g,k,none⟩ x) r.v.ownBlock/\w.frozen? ⟨g,k,none⟩=false:=by
 unfold Rw.own at h ⊢;rcases h.2 with ⟨h1,_⟩|⟨g',cap',cur,h1,hb,hg,hn,hm,hs,ht⟩
 . rw[hv] at h1;simp at h1
 ·
  rw[hv] at h1;simp only[Value.slice.injEq,Option.some.injEq,Addr.mk.injEq,and_true,true_and] at h1;obtain⟨rfl,rfl⟩:=h1;refine⟨⟨by simpa using h.1,.inr ⟨g,cap,cur.setIfInBounds k x,hv,hb,heap_setCell_same w g k _ _ _ hg,hn,hm,by simpa using hs,?_⟩⟩,?_,frozen_of_row w g k _ _ hg⟩
  . rw[Array.toList_setIfInBounds,List.take_set,ht]
  ·
   rw[hv];exact Ac w g k x
end
section
abbrev AF:Value:= .slice none 0 0
abbrev BU (zs:List Int)(v:Value):Rw:=⟨2,1,v,zs.length,zs.map (Value.int .i64)⟩
abbrev Dx (t:TypeId)(vs:List Value)(v:Value):Rw:=⟨t,1,v,vs.length,vs⟩
section
variable {w:World} {m:Nat}
theorem Bj {t:TypeId}{u:Value}{vs:List Value}(o:(Dx t vs u).own w m):∃a cap,u = .slice a vs.length cap/\(vs=[]\/∃g,a=some ⟨g,0,none⟩/\g<w.heap.size/\∀i,i<vs.length->w.cell? ⟨g,i,none⟩=some (vs.getD i AF)):=by
 have hlt:=World.ownsRow.lt o;have o':=o;rcases o.2 with ⟨h1,h2⟩|⟨g,cap,cur,h1,_⟩
 ·
  have:vs=[]:=List.eq_nil_of_length_eq_zero h2;subst this;exact⟨none,0,h1,.inl rfl⟩
 ·
  refine⟨some ⟨g,0,none⟩,cap,h1,.inr ⟨g,rfl,(hlt g (by show u.ownBlock=_;rw[show u=_ from h1];rfl)).2,fun i hi=>?_⟩⟩;have o2:w.ownsRow m t 1 (.slice (some ⟨g,0,none⟩) vs.length cap) vs.length vs:=by rw[<-show u=_ from h1];exact o'
  rw[World.ownsRow.cellAt o2 i (by omega),List.getD_eq_getElem?_getD,List.getElem?_eq_getElem hi];rfl
end
theorem BF {α:Type}(l:List α)(k:Nat)(x z:α)(hk:k<l.length)(j:Nat):(l.set k x).getD j z=if j=k then x else l.getD j z:=by
 rw[List.getD_eq_getElem?_getD,List.getD_eq_getElem?_getD,List.getElem?_set];by_cases e:k=j
 . subst e;simp[hk]
 . rw[if_neg e,if_neg (fun h=>e h.symm)]
end
theorem Tryz.PA:(Tryz.prog.info? 25).map (fun i=>(i.zero,i.size,i.bytes))=some (some (.slice none 0 0),1,24):=by kernel_rfl
theorem DI {w:World}{m m':Nat}{e:TypeId}{n:Nat}{v:Value}{k:Nat}{xs:List Value}(o:w.ownsRow m e n v k xs)(hm:m'<=m):w.ownsRow m' e n v k xs:=by
 refine⟨o.1,?_⟩;rcases o.2 with q|⟨g,cap,cur,e,hg,r⟩
 . exact .inl q
 . exact .inr ⟨g,cap,cur,e,Nat.le_trans hm hg,r⟩
theorem A7.lit {w:World}{base:Nat}{v:Value}{zs:List Int}(h:A7 w base v zs){k:Nat}(hk:k<zs.length):∃g cap,v = .slice (some ⟨g,0,none⟩) zs.length cap/\g<w.heap.size/\(∀i,i<zs.length->w.cell? ⟨g,i,none⟩=some (.int .i64 (zs.getD i 0)))/\∀i,w.frozen? ⟨g,i,none⟩=false:=by
 have h':=h;have hlt:=World.ownsRow.lt h;rcases h.2 with ⟨_,hn⟩|⟨g,cap,cur,rfl,_⟩
 . omega
 ·
  refine⟨g,cap,rfl,(hlt g rfl).2,fun i hi=>?_,fun i=>World.ownsRow.frozenAt h' i⟩;rw[World.ownsRow.cellAt h' i (by simpa using hi),List.getElem?_map,List.getElem?_eq_getElem hi,List.getD_eq_getElem?_getD,List.getElem?_eq_getElem hi];rfl
def Hb (v:Value)(n:Nat)(a:Addr):Prop:=∃b o l c i,v = .slice (some ⟨b,o,none⟩) l c/\i<n/\a=⟨b,o+i,none⟩
def Wb (w:World)(a:Addr):Prop:=∃cur t,w.heap[a.block]? = some (.cells cur t (0,0))/\a.off<cur.size
theorem Wb.lt {w:World}{a:Addr}(h:Wb w a):a.block<w.heap.size:=by
 obtain⟨cur,t,h,_⟩:=h;exact (Array.getElem?_eq_some_iff.1 h).1
def Hc (rs:List (Value×Nat))(a:Addr):Prop:=∃r∈rs,Hb r.1 r.2 a
structure fV (w:World)(rs:List (Value×Nat)):Prop where
 wb:∀a,Hc rs a->Wb w a
 ap:rs.Pairwise (fun r s=>∀a,Hb r.1 r.2 a->¬Hb s.1 s.2 a)
section
section
variable {α:Type} (t:TypeId) (rowOf:List α->Value->Rw)
def KF (v:Value)(hs:List Value)(xss:List (List α)):Option Nat->Rw
 |none=>Dx t hs v
 |some i=>rowOf (xss.getD i []) (hs.getD i AF)
def EG (j:Nat):Option Nat->Prop
 |none=>True
 |some i=>i<j
variable {t rowOf} {w w2:World} {m:Nat} {v u:Value} {hs:List Value} {xss:List (List α)} {j:Nat}
structure B0 (t:TypeId)(rowOf:List α->Value->Rw)(w:World)(m:Nat)(v:Value)(hs:List Value)(xss:List (List α)):Prop where
 Af:FO w m (EG hs.length) (KF t rowOf v hs xss)
 len:hs.length=xss.length
end
end
def L8 (l:List Int)(lo hi:Int):Bool:=l.all (fun x=>CJ x lo hi)
def Em (l:List Int)(n lo hi:Int):Bool:=decide ((l.length:Int)=n)&&L8 l lo hi
def IM (last:Int)(l:List Int):Bool:=decide (l.length<=20)&&Em l l.length 0 last
def UB (last:Int)(x:Nt):Bool:=CJ x.1 0 2&&(CJ x.2.1 0 9&&CJ x.2.2 0 last)
def M8 (last:Int)(l:List Nt):Bool:=decide (l.length<=8)&&l.all (UB last)
def EJ (last:Int)(b:Bd):Bool:=Em b.AM 3 0 9&&(Em b.AO 3 0 last&&(decide (b.rws.length=3)&&b.rws.all (IM last)))
def U0 (last:Int)(AA:List (List Dd))(b:Bd)(i:Nat):Bool:=CJ (b.AK.getD i 0) 0 ((AA.getD i []).length:Int)&&M8 last (b.AJ.getD i [])
def Gp (last:Int)(AA:List (List Dd))(b:Bd):Bool:=decide (b.AJ.length=AA.length)&&(decide (b.AK.length=AA.length)&&(List.range AA.length).all (U0 last AA b))
def FI (AA:List (List Dd))(b:Bd):Bool:=
 AL AA&&(EJ (((AB AA).length:Int)-1) b&&(Gp (((AB AA).length:Int)-1) AA b&&(Em b.sn (AX Ae (AB AA)).length (-1) 9&&Em b.fr (AX Ae (AB AA)).length (-1) (((AB AA).length:Int)-1))))
theorem Ja (x lo hi:Int):(decide (lo<=x)&&decide (x<=hi))=CJ x lo hi:=by
 rw[Bool.eq_iff_iff];unfold CJ;simp
theorem TN (l:List Int)(lo hi:Int)(m:Nat):II l lo hi m=(L8 l lo hi&&decide (l.length<=m)):=by
 unfold II L8
 congr 2
 funext x;exact Ja x lo hi
theorem jZ (n:Int)(x:Nt):kZ n x=UB (n-1) x:=by
 unfold kZ UB;rw[Ja,Ja,Ja]
theorem ig (AA:List (List Dd))(n:Int)(b:Bd)(i:Nat):Td AA n b i=U0 (n-1) AA b i:=by
 unfold Td U0 M8 Yg;rw[Ja]
 congr 3
 funext x;exact jZ n x
theorem di (last:Int)(l:List Int):IM last l=II l 0 last 20:=by
 rw[TN];unfold IM Em;simp[Bool.and_comm]
theorem MW (last:Int)(b:Bd)(h:b.rws.length=3):b.rws.all (IM last)=Iw (last+1) b:=by
 obtain⟨x,y,z,e⟩:∃x y z,b.rws=[x,y,z]:=by
  match hr:b.rws,h with
  | [x,y,z],_=>exact⟨x,y,z,rfl⟩
 unfold Iw;rw[e];have e1:last+1-1=last:=by omega
 rw[e1];simp[List.range,List.range.loop,di]
theorem QQ (AA:List (List Dd))(b:Bd)(hl:(AX Ae (AB AA)).length<=12):FI AA b=Am AA b:=by
 generalize hr:(AX Ae (AB AA)).length=r at hl;generalize hn:((AB AA).length:Int)=n;rw[Bool.eq_iff_iff];unfold FI Am He Lu EJ Gp Em;rw[hr,hn];have ec:(fun i=>Td AA n b i)=U0 (n-1) AA b:=by funext i;exact ig AA n b i
 rw[ec];simp only[TN,Bool.and_eq_true,decide_eq_true_eq];have e1:n-1+1=n:=by omega
 constructor
 ·
  rintro⟨h1,⟨⟨p1,p2⟩,⟨l1,l2⟩,r1,r2⟩,⟨c1,c2,c3⟩,⟨s1,s2⟩,f1,f2⟩;rw[MW _ _ r1,e1] at r2;exact⟨⟨h1,by omega,by omega,r1,c1,c2⟩,⟨by omega,by omega,⟨p2,by omega⟩,⟨l2,by omega⟩,⟨s2,by omega⟩,f2,by omega⟩,r2,c3⟩
 ·
  rintro⟨⟨h1,p1,l1,r1,c1,c2⟩,⟨s1,f1,⟨p2,_⟩,⟨l2,_⟩,⟨s2,_⟩,f2,_⟩,r2,c3⟩;refine⟨h1,⟨⟨by omega,p2⟩,⟨by omega,l2⟩,r1,?_⟩,⟨c1,c2,c3⟩,⟨by omega,s2⟩,by omega,f2⟩;rw[MW _ _ r1,e1];exact r2
theorem Ql {l:List Int}{lo hi:Int}{k:Nat}(hk:k<l.length)(h:CJ (l.getD k 0) lo hi=false):L8 l lo hi=false:=by
 unfold L8;rw[List.all_eq_false];refine⟨l.getD k 0,?_,by rw[h];simp⟩;rw[List.getD_eq_getElem?_getD,List.getElem?_eq_getElem hk];exact List.getElem_mem hk
theorem FH {α:Type}{l:List α}{f:α->Bool}(z:α)(h:∀k,k<l.length->f (l.getD k z)=true):l.all f=true:=by
 rw[List.all_eq_true];intro x hx;obtain⟨i,hi,e⟩:=List.getElem_of_mem hx;have:=h i hi;rw[List.getD_eq_getElem?_getD,List.getElem?_eq_getElem hi] at this;simp only[Option.getD_some] at this;rw[e] at this;exact this
theorem Gi {α:Type}{l:List α}{f:α->Bool}(z:α){k:Nat}(hk:k<l.length)(h:f (l.getD k z)=false):l.all f=false:=by
 rw[List.all_eq_false];refine⟨l.getD k z,?_,by rw[h];simp⟩;rw[List.getD_eq_getElem?_getD,List.getElem?_eq_getElem hk];exact List.getElem_mem hk
def Px (rs:List Int)(c k:Nat)(pl:Bool)(b:Bd)(n:Nat)(e:Ev):Bd:=
 if e.1=(c:Int)/\e.2.1=(k:Int) then
  if e.2.2.1=true then Ew rs b (n:Int) (Ck b c e.2.2.2.1.toNat).1 (Ck b c e.2.2.2.1.toNat).2
  else if pl=true then { b with AJ:=b.AJ.set c (b.AJ.getD c []++[(e.2.2.2.1,e.2.2.2.2.1,(n:Int))]) }
  else Db b e.2.2.2.1.toNat e.2.2.2.2.1 (n:Int)
 else b
def Cu (es:List Ev)(rs:List Int)(c k:Nat)(pl:Bool)(b:Bd):Nat->Bd
 | 0=>b
 |n+1=>Px rs c k pl (Cu es rs c k pl b n) n (es.getD n zE)
def Di (d:Dd):Bool:=decide (d.2.2.2=0)&&(decide (d.1=1)||decide (d.1=2))
theorem Xs {AA:List (List Dd)}(hb:AL AA=true){c k j:Nat}(hj:j<(AB AA).length)(h:((AB AA).getD j zE).1=(c:Int)/\((AB AA).getD j zE).2.1=(k:Int)):∃i,Dm AA j c k i:=by
 by_cases h3:3<=j
 ·
  obtain⟨c',k',i,E⟩:=Fu hb h3 hj;rw[E.at hb] at h;obtain⟨h1,h2⟩:=h;have h1:(c':Int)=(c:Int):=h1;have h2:(k':Int)=(k:Int):=h2;obtain rfl:c'=c:=by omega
  obtain rfl:k'=k:=by omega
  exact⟨i,E⟩
 ·
  exfalso;obtain⟨t,ht⟩:=Fv AA 0 AA.length (Nat.zero_le _)
  have e:(AB AA).getD j zE=B5.getD j zE:=by
   rw[AB,if_pos hb,ht];show (B5++t).getD j zE=_;rw[List.getD_eq_getElem?_getD,List.getElem?_append_left (by show j<3;omega),<-List.getD_eq_getElem?_getD]
  rw[e] at h;have:j=0\/j=1\/j=2:=by omega
  rcases this with rfl|rfl|rfl<;>(have h1:(-1:Int)=(c:Int):=h.1;omega)
theorem JR {AA:List (List Dd)}(hb:AL AA=true){c k:Nat}{rs:List Int}{pl:Bool}{b:Bd}{n:Nat}:∀m:Nat,n+m<=(AB AA).length->(∀j i,n<=j->¬Dm AA j c k i)->Cu (AB AA) rs c k pl b (n+m)=Cu (AB AA) rs c k pl b n
 | 0,_,_=>rfl
 |m+1,hm,hn=>by
  rw[<-JR hb m (by omega) hn];show Px rs c k pl (Cu (AB AA) rs c k pl b (n+m)) (n+m) ((AB AA).getD (n+m) zE)=_;unfold Px;rw[if_neg (fun h=>by obtain⟨i,E⟩:=Xs hb (by omega) h;exact hn _ i (by omega) E)]
theorem Tj {AA:List (List Dd)}(hb:AL AA=true){c k:Nat}{rs:List Int}{pl:Bool}{b:Bd}:∀m:Nat,m<=(AB AA).length->m<=AZ AA c k->Cu (AB AA) rs c k pl b m=b
 | 0,_,_=>rfl
 |m+1,hm,ho=>by
  show Px rs c k pl (Cu (AB AA) rs c k pl b m) m ((AB AA).getD m zE)=_;rw[Tj hb m (by omega) (by omega)];unfold Px;rw[if_neg (fun h=>by obtain⟨i,E⟩:=Xs hb (by omega) h;have:=E.hj;omega)]
theorem Xk {AA:List (List Dd)}(hb:AL AA=true){c k j i:Nat}(E:Dm AA j c k i)(rs:List Int)(pl:Bool)(b:Bd):
  Px rs c k pl b j ((AB AA).getD j zE) =
   if LB (Ai AA c k) i=true then Ew rs b (j:Int) (Ck b c (Ai AA c k).2.1.toNat).1 (Ck b c (Ai AA c k).2.1.toNat).2
   else if pl=true then { b with AJ:=b.AJ.set c (b.AJ.getD c []++[((Ai AA c k).2.1,WE (Ai AA c k) i,(j:Int))]) }
   else Db b (Ai AA c k).2.1.toNat (WE (Ai AA c k) i) (j:Int):=by
 unfold Px;rw[E.at hb,if_pos ⟨rfl,rfl⟩]
theorem Z9 {AA:List (List Dd)}(hb:AL AA=true){c k:Nat}(hc:c<AA.length)(hk:k<(AA.getD c []).length)(b:Bd)(h3:(Ai AA c k).1=3->b.AJ.getD c []=[]):
  Cu (AB AA) (AX Ae (AB AA)) c k (Di (Ai AA c k)) b (AB AA).length=BA AA (AB AA) b c k:=by
 have hd:=Bz (Bu hb hc k hk);have hg:=(Xx (Bu hb hc) hk).1;have e0:∀pl:Bool,AZ AA c k<=(AB AA).length->Cu (AB AA) (AX Ae (AB AA)) c k pl b (AZ AA c k)=b:=fun pl h=>Tj hb _ h (Nat.le_refl _)
 by_cases h4:(Ai AA c k).1=4
 ·
  have:∀j i,¬Dm AA j c k i:=fun j i E=>E.kind h4
  have e:=JR hb (c:=c) (k:=k) (rs:=AX Ae (AB AA)) (pl:=Di (Ai AA c k)) (b:=b) (n:=0) (AB AA).length (by omega) (fun j i _=>this j i);rw[Nat.zero_add] at e;rw[e];unfold BA;rw[if_neg (by omega),if_neg (by omega),if_neg (by omega),if_neg (by omega)];rfl
 have E:=CU hc hk h4;have hl:=E.lt hb
 have e1:Cu (AB AA) (AX Ae (AB AA)) c k (Di (Ai AA c k)) b (AZ AA c k+1)=Px (AX Ae (AB AA)) c k (Di (Ai AA c k)) b (AZ AA c k) ((AB AA).getD (AZ AA c k) zE):=by
  show Px _ _ _ _ (Cu _ _ _ _ _ _ _) _ _=_;rw[e0 _ (by omega)]
 rw[Xk hb E] at e1;have hev:=Ij hb hc hk h4;by_cases k3:(Ai AA c k).1=3
 ·
  have E2:=Hm hc hk k3;have hl2:=E2.lt hb;have e2:Cu (AB AA) (AX Ae (AB AA)) c k (Di (Ai AA c k)) b (AZ AA c k+1+1)=Px (AX Ae (AB AA)) c k (Di (Ai AA c k)) (Cu (AB AA) (AX Ae (AB AA)) c k (Di (Ai AA c k)) b (AZ AA c k+1)) (AZ AA c k+1) ((AB AA).getD (AZ AA c k+1) zE):=rfl;rw[Xk hb E2,e1] at e2
  have es:=JR hb (c:=c) (k:=k) (rs:=AX Ae (AB AA)) (pl:=Di (Ai AA c k)) (b:=b) (n:=AZ AA c k+1+1) ((AB AA).length-(AZ AA c k+1+1)) (by omega) (fun j i h E=>by
   have:=E.hj;have:=E.hi;unfold El at this;rw[if_neg h4,if_pos k3] at this
   omega)
  rw[show AZ AA c k+1+1+((AB AA).length-(AZ AA c k+1+1))=(AB AA).length by omega] at es;rw[es,e2];have r0:LB (Ai AA c k) 0=true:=by unfold LB;rw[decide_eq_true (show (Ai AA c k).1≠2 by omega)];rfl
  have r1:LB (Ai AA c k) 1=false:=by unfold LB;simp
  have hp:Di (Ai AA c k)=false:=by unfold Di;rw[decide_eq_false (show ¬(Ai AA c k).1=1 by omega),decide_eq_false (show ¬(Ai AA c k).1=2 by omega)];simp
  have hv:WE (Ai AA c k) 1=(Ai AA c k).2.2.1:=by unfold WE;rw[r1];rfl
  rw[r0,r1,hp,hv];simp only[if_true,Bool.false_eq_true,if_false];unfold BA;rw[if_neg (by omega),if_pos k3,hev]
  have hr:Ck b c (Ai AA c k).2.1.toNat=(b.AM.getD (Ai AA c k).2.1.toNat 0,b.AO.getD (Ai AA c k).2.1.toNat 0):=by
   unfold Ck;rw[h3 k3];rfl
  rw[hr];rfl
 ·
  have es:=JR hb (c:=c) (k:=k) (rs:=AX Ae (AB AA)) (pl:=Di (Ai AA c k)) (b:=b) (n:=AZ AA c k+1) ((AB AA).length-(AZ AA c k+1)) (by omega) (fun j i h E=>by
   have:=(LH E k3).1
   omega)
  rw[show AZ AA c k+1+((AB AA).length-(AZ AA c k+1))=(AB AA).length by omega] at es;rw[es,e1];unfold BA;by_cases k1:(Ai AA c k).1=1
  ·
   have r0:LB (Ai AA c k) 0=true:=by unfold LB;rw[decide_eq_true (show (Ai AA c k).1≠2 by omega)];rfl
   rw[r0,if_pos rfl,if_pos k1,hev]
  ·
   have k2:(Ai AA c k).1=2:=by omega
   have r0:LB (Ai AA c k) 0=false:=by unfold LB;rw[decide_eq_false (show ¬(Ai AA c k).1≠2 by omega)];rfl
   have hv:WE (Ai AA c k) 0=(Ai AA c k).2.2.1:=by unfold WE;rw[r0];rfl
   rw[r0,hv,if_neg (by simp),if_neg k1,if_neg k3,hev];by_cases g0:0<BE AA c k
   ·
    have hp:Di (Ai AA c k)=false:=by
     unfold Di;rw[decide_eq_false (show ¬(Ai AA c k).2.2.2=0 from fun h=>by have h:BE AA c k=0:=h;omega)];rfl
    rw[if_neg (by rw[hp];simp),if_pos ⟨k2,g0⟩]
   ·
    have hp:Di (Ai AA c k)=true:=by
     unfold Di;rw[decide_eq_true (show (Ai AA c k).2.2.2=0 by show BE AA c k=0;omega),decide_eq_true k2];simp
    rw[if_pos hp,if_neg (fun h=>g0 h.2),if_pos k2]
theorem RQ {rs l:List Int}{i:Nat}{v:Int}(hr:rs.Pairwise (·<·))(hi:i<rs.length)(hl:l.length=rs.length):GI rs (rs.getD i 0) v l=l.set i v:=by
 unfold GI;apply List.ext_getElem?;intro j;have hgi:rs.getD i 0=rs[i]:=by rw[List.getD_eq_getElem?_getD,List.getElem?_eq_getElem hi];rfl
 rw[List.getElem?_zipWith,List.getElem?_set,hgi];by_cases hj:j<rs.length
 ·
  rw[List.getElem?_eq_getElem hj,List.getElem?_eq_getElem (by omega:j<l.length)];by_cases e:i=j
  ·
   subst e;rw[if_pos rfl,if_pos (by omega)];simp
  ·
   rw[if_neg e]
   have hne:rs[j]≠rs[i]:=by
    rw[List.pairwise_iff_getElem] at hr;rcases Nat.lt_or_ge i j with q|q
    . have:=hr i j hi hj q;omega
    . have:=hr j i hj hi (by omega);omega
   simp[hne]
 ·
  rw[List.getElem?_eq_none (by omega:rs.length<=j),List.getElem?_eq_none (by omega:l.length<=j)];by_cases e:i=j
  . omega
  . rw[if_neg e]
theorem Qh {AA:List (List Dd)}{es:List Ev}{g:Int}{c m:Nat}{b:Bd}(hlen:Aj (Ag AA es b c) c<=(AA.getD c []).length)(hnx:Aj (Ag AA es b c) c=Aj b c+1)(hg:BE AA c (Aj b c)=g):
  EE AA es g c (m+1) b=if Aj (Ag AA es b c) c<(AA.getD c []).length/\Fw (AA.getD c []) (Aj (Ag AA es b c) c)=true then EE AA es g c m (Ag AA es b c) else Ag AA es b c:=by
 show (if g=0\/Aj (Ag AA es b c) c=(AA.getD c []).length\/BE AA c (Aj (Ag AA es b c) c)≠g then Ag AA es b c else EE AA es g c m (Ag AA es b c))=_
 have hgo:Fw (AA.getD c []) (Aj (Ag AA es b c) c)=true↔BE AA c (Aj (Ag AA es b c) c)≠0/\BE AA c (Aj (Ag AA es b c) c)=g:=by
  unfold Fw;rw[hnx];rw[show Aj b c+1-1=Aj b c from rfl];have e1:((AA.getD c []).getD (Aj b c+1) zD).2.2.2=BE AA c (Aj b c+1):=rfl;have e2:((AA.getD c []).getD (Aj b c) zD).2.2.2=BE AA c (Aj b c):=rfl;rw[e1,e2,hg];simp
 by_cases h1:Aj (Ag AA es b c) c<(AA.getD c []).length/\Fw (AA.getD c []) (Aj (Ag AA es b c) c)=true
 ·
  rw[if_pos h1,if_neg];obtain⟨h2,h3⟩:=hgo.1 h1.2;rintro (h|h|h)
  . omega
  . omega
  . exact h h3
 ·
  rw[if_neg h1,if_pos];by_cases h2:Aj (Ag AA es b c) c<(AA.getD c []).length
  ·
   have h3:¬(BE AA c (Aj (Ag AA es b c) c)≠0/\BE AA c (Aj (Ag AA es b c) c)=g):=fun h=>h1 ⟨h2,hgo.2 h⟩
   by_cases hz:g=0
   . exact .inl hz
   ·
    right;right;intro e;exact h3 ⟨by rw[e];exact hz,e⟩
  . right;left;omega
section
section
variable {P:Program} {ops:Array Oper} {Q:Exit->Act->World->Prop} {md:Region.Mode}
def Np (listed:Array Bool):Nat:=listed.toList.countP (fun b=>!b)
theorem NY:∀(l:List Bool) (i:Nat),l[i]? = some false->(l.set i true).countP (fun b=>!b)+1=l.countP (fun b=>!b)
 | [],i,h=>by simp at h
 |x::r,0,h=>by
  simp at h;subst h;simp
 |x::r,i+1,h=>by
  have ih:=NY r i (by simpa using h);rw[List.set_cons_succ,List.countP_cons,List.countP_cons];omega
theorem Nq {listed:Array Bool}{i:Nat}(h:listed[i]? = some false):Np (listed.setIfInBounds i true)+1=Np listed:=by
 unfold Np;rw[Array.toList_setIfInBounds];exact NY _ _ (by rw[Array.getElem?_toList];exact h)
theorem AE {listed:Array Bool}{i:Nat}(h:i∈Region.ready md ops listed):i<ops.size/\listed[i]? = some false/\∀o,ops[i]? = some o->o.after.all (fun e=>!Region.binds md e||listed.getD e.on false)=true:=by
 unfold Region.ready at h;rw[List.mem_filter,List.mem_range] at h;obtain⟨h1,h2⟩:=h;simp only[Bool.and_eq_true,Bool.not_eq_true'] at h2;refine⟨h1,?_,fun o ho=>?_⟩
 ·
  have h3:=h2.1;rw[Array.getD_eq_getD_getElem?] at h3
  cases e:listed[i]? with
  |none=>rw[e] at h3;cases h3
  |some b=>rw[e] at h3;simp at h3;rw[h3]
 ·
  have h3:=h2.2;rw[ho] at h3
  simpa using h3
theorem OW (J:Array Bool->Act->World->Prop)
  (step:∀listed a w,J listed a w->∀i,i∈Region.ready md ops listed->wpOp P ops Q i (fun a' w'=>J (listed.setIfInBounds i true) a' w') a w)
  (done:∀listed a w,J listed a w->Region.ready md ops listed=[]->Q .normal a w):
  ∀(fuel:Nat) (listed:Array Bool) (a:Act) (w:World),Np listed<=fuel->J listed a w->wpAny P md ops Q fuel listed a w
 | 0,listed,a,w,hl,hJ=>by
  have hr:Region.ready md ops listed=[]:=by
   cases h:Region.ready md ops listed with
   |nil=>rfl
   |cons i r=>
    exfalso;have h2:=(AE (md:=md) (ops:=ops) (listed:=listed) (i:=i) (by rw[h];simp)).2.1;have:=Nq h2;omega
  exact⟨hr,done listed a w hJ hr⟩
 |fuel+1,listed,a,w,hl,hJ=>by
  refine⟨fun hr=>done listed a w hJ hr,fun i hi=>?_⟩;refine wpOp_mono (fun a' w' hJ'=>OW J step done fuel _ a' w' ?_ hJ') (step listed a w hJ i hi);have:=Nq (AE hi).2.1;omega
theorem Sf (n:Nat):Np (Array.replicate n false)=n:=by
 unfold Np;rw[Array.toList_replicate];simp[List.countP_replicate]
theorem Bk {id:Nat}{a:Act}{w:World}(hm:P.follows .mixedOrders=true)(J:Array Bool->Act->World->Prop)
  (start:J (Array.replicate ops.size false) a w.drew)
  (step:∀listed a w,J listed a w->∀i,i∈Region.ready .any ops listed->wpOp P ops Q i (fun a' w'=>J (listed.setIfInBounds i true) a' w') a w)
  (done:∀listed a w,J listed a w->Region.ready .any ops listed=[]->Q .normal a w):(Code.region id ops true).wp P Q a w:=
 wp_region_any hm (OW J step done ops.size _ a _ (by rw[Sf];exact Nat.le_refl _) start)
end
end
theorem B0.push {α:Type}{t:TypeId}{rowOf:List α->Value->Rw}{w w1 w2:World}{m:Nat}{v v' u:Value}{hs:List Value}{xss:List (List α)}{xs:List α}(h:B0 t rowOf w m v hs xss)(hv:∀xs u,(rowOf xs u).v=u)(k:AC w w1)
  (ou:(rowOf xs u).own w1 m) (hn:∀b,u.ownBlock=some b->w.heap.size<=b) (hg:w1.grownBy w2 v.ownBlock) (hb:v'.ownBlock=v.ownBlock\/v'.ownBlock=some w1.heap.size) (ho:(Dx t (hs++[u]) v').own w2 m):B0 t rowOf w2 m v' (hs++[u]) (xss++[xs]):=by
 have F1:=h.Af.add (i:=some hs.length) (fun q=>Nat.lt_irrefl _ (show hs.length<hs.length from q)) (r:=rowOf xs u) rfl k ou (fun b hb=>hn b (by rw[hv] at hb;exact hb));have F2:=F1.set (i:=none) (.inl trivial) (r:=Dx t (hs++[u]) v') (by rw[AV _ _ (by simp)];exact hg) (by rw[AV _ _ (by simp)];rcases hb with e|e;exact .inl e;exact .inr (.inl e)) ho;refine⟨F2.congr (fun o ho'=>?_) (fun o ho'=>?_),by rw[List.length_append,List.length_append,h.len];rfl⟩
 ·
  cases o with
  |none=>exact .inl trivial
  |some i=>
   have hi:i<(hs++[u]).length:=ho';rw[List.length_append] at hi;by_cases e:i=hs.length
   . exact .inr (by rw[e])
   . exact .inl (show i<hs.length by simp at hi;omega)
 ·
  cases o with
  |none=>rw[Al];rfl
  |some i=>
   have hi:i<(hs++[u]).length:=ho';rw[List.length_append] at hi;rw[AV _ _ (by simp)];show rowOf ((xss++[xs]).getD i []) ((hs++[u]).getD i AF)=_;by_cases e:i=hs.length
   ·
    subst e;rw[Al];have e1:(xss++[xs]).getD hs.length []=xs:=by rw[h.len,List.getD_eq_getElem?_getD,List.getElem?_append_right (Nat.le_refl _)];simp
    have e2:(hs++[u]).getD hs.length AF=u:=by rw[List.getD_eq_getElem?_getD,List.getElem?_append_right (Nat.le_refl _)];simp
    rw[e1,e2]
   ·
    rw[AV _ _ (by simpa using e)];have hi2:i<hs.length:=by simp at hi;omega
    have e1:(xss++[xs]).getD i []=xss.getD i []:=by rw[List.getD_eq_getElem?_getD,List.getElem?_append_left (by rw[<-h.len];exact hi2),<-List.getD_eq_getElem?_getD]
    have e2:(hs++[u]).getD i AF=hs.getD i AF:=by rw[List.getD_eq_getElem?_getD,List.getElem?_append_left hi2,<-List.getD_eq_getElem?_getD]
    rw[e1,e2];rfl
theorem Hk {AA:List (List Dd)}{b:Bd}(h:Am AA b=true):AL AA=true/\b.AM.length=3/\b.AO.length=3/\b.rws.length=3/\b.AJ.length=AA.length/\b.AK.length=AA.length/\b.sn.length<=12/\b.fr.length<=12/\(∀i,i<3->(b.rws.getD i []).length<=20)/\∀i,i<AA.length->(b.AJ.getD i []).length<=8:=by
 unfold Am He Lu Iw at h;simp only[Bool.and_eq_true,decide_eq_true_eq] at h;obtain⟨⟨h1,h2,h3,h4,h5,h6⟩,⟨_,_,_,_,h7,h8⟩,h9,h10⟩:=h;unfold II at h7 h8;simp only[Bool.and_eq_true,decide_eq_true_eq] at h7 h8;refine⟨h1,h2,h3,h4,h5,h6,h7.2,h8.2,fun i hi=>?_,fun i hi=>?_⟩
 ·
  have:=List.all_eq_true.1 h9 i (List.mem_range.2 hi);unfold II at this;simp only[Bool.and_eq_true,decide_eq_true_eq] at this;exact this.2
 ·
  have:=List.all_eq_true.1 h10 i (List.mem_range.2 hi);unfold Td at this;simp only[Bool.and_eq_true,decide_eq_true_eq] at this;exact this.2.1
theorem Mh {AA:List (List Dd)}(h:AL AA=true):AA.length<=3/\∀i,i<AA.length->(AA.getD i []).length<=1048576:=by
 obtain⟨h1,h2⟩:=BH h;refine⟨h1,fun i hi=>?_⟩;have hq:=h2 i hi;unfold FP at hq;rw[Bool.and_eq_true,decide_eq_true_eq] at hq;omega
theorem Dj {P:Program}{w:World}{ops:Array Oper}{o:Oper}{a:Act}{K:Act->World->Prop}{Q:Exit->Act->World->Prop}{E:Prop}(hgd:o.guard=none)(s x:Operand)(t:TypeId)
  (ho:o.op = .call { callee:= .builtin .append,args:=#[s,x],argTypes:=#[t,t] })
  (base:Nat) (e:TypeId) (i:TypeInfo) (z:Value) (size bytes:Nat) (ht:P.underlying t=some (.slice e)) (hi:P.info? e=some i) (hz:i.zero=some z)
  (hsize:i.size=size) (hby:i.bytes=bytes) (hzs:z.cells.size=size) (hsz:0<size)
  (v:Value) (n:Nat) (xs:List Value) (hs:a.eval s=v) (hown:w.ownsRow base e size v n xs)
  (ad:Addr) (m c:Nat) (news:List Value) (hx:a.eval x = .slice (some ad) m c) (hl:news.length=m*size) (hnews:∀j u,news[j]? = some u->w.cell? (ad.add j)=some u) (h1:∀u∈news,u.oneCell'=true)
  (h63:n+m<=maxLen) (hbytes:(n+m)*bytes<=140737488355328) (hbase:base<=w.heap.size)
  (h:∀v' w',w'.ownsRow base e size v' (n+m) (xs++news)->w.grownBy w' v.ownBlock->(v'.ownBlock=v.ownBlock\/v'.ownBlock=some w.heap.size)->K (a.put o.dst v') w'):
  if Region.wanted o (yielded ops a.tmps)=true then Oper.wp P o a w K Q else E:=by
 have hw:Region.wanted o (yielded ops a.tmps)=true:=by simp[Region.wanted,hgd]
 rw[if_pos hw];obtain⟨v',w',hr,h2,h3,h4,h5⟩:=run_append_own_at (P:=P) w base t o.type e i z size bytes ht hi hz hsize hby hzs hsz v n xs hown ad m c news hl hnews h1 h63 hbytes hbase;unfold Oper.wp execOp;simp only[ho,resolve,invoke,builtin,Sem.run_bind,Sem.run_pure,Result.andThen_ok,List.map_toArray,List.map_cons,List.map_nil,hs,hx,hr];exact h v' w' h2 h3 h5
def Kl (ns:List Nt)(p:Int)(y:Nt)(k:Nat):Nt:=((ns.take k).reverse.find? (fun x=>x.1==p)).getD y
theorem Sz (ns:List Nt)(p:Int)(y:Nt)(k:Nat)(h:k<ns.length):Kl ns p y (k+1)=if (ns.getD k (0,0,0)).1=p then ns.getD k (0,0,0) else Kl ns p y k:=by
 have e:ns.take (k+1)=ns.take k++[ns.getD k (0,0,0)]:=by
  rw[List.take_add_one,List.getD_eq_getElem?_getD,List.getElem?_eq_getElem h];rfl
 unfold Kl;rw[e,List.reverse_append];simp only[List.reverse_cons,List.reverse_nil,List.nil_append,List.cons_append,List.find?_cons];by_cases q:(ns.getD k (0,0,0)).1=p
 ·
  rw[if_pos q];have:((ns.getD k (0,0,0)).1==p)=true:=by simpa using q
  rw[this];rfl
 ·
  rw[if_neg q];have:((ns.getD k (0,0,0)).1==p)=false:=by simpa using q
  rw[this]
theorem Vx (b:Bd)(c p:Nat):(Kl (b.AJ.getD c []) (p:Int) ((p:Int),b.AM.getD p 0,b.AO.getD p 0) (b.AJ.getD c []).length).2=Ck b c p:=by
 unfold Kl Ck;rw[List.take_length];cases (b.AJ.getD c []).reverse.find? (fun x=>x.1==(p:Int))<;>rfl
def Ln (AA:List (List Dd))(b:Bd):Bool:=(List.range AA.length).all (fun c=>decide (((AA.getD c []).length:Int)<=b.AK.getD c 0)&&(b.AJ.getD c []).isEmpty)
def Ii (AA:List (List Dd))(b:Bd):Bool:=Am AA b&&Ln AA b
def KP (AA:List (List Dd))(b:Bd):List Int:=if Am AA b=true then b.sn++b.AM else []
def Tryz.eu:Go.Shelf.Ren:=⟨fun|6=>81|15=>110|14=>109|28=>145|29=>146|20=>137|21=>138|22=>139|23=>140|24=>141|25=>142|26=>143|27=>144|46=>162|47=>163|48=>164|49=>165|50=>166|57=>173|n=>n,fun|22=>36|24=>25|25=>133|3=>3|39=>136|0=>0|53=>205|55=>207|4=>4|46=>199|45=>198|50=>152|5=>5|9=>9|66=>219|70=>223|76=>228|77=>229|n=>n,fun|n=>n⟩
theorem Tryz.srt:Go.Proofs.SlLaysF.n6 Tryz.prog Tryz.eu:={
 mixed:=by kernel_rfl
 f6:=⟨Tryz.f81.name,by decide,Tryz.func81.trans (congrArg some (by kernel_rfl))⟩
 f14:=⟨Tryz.f109.name,by decide,Tryz.func109.trans (congrArg some (by kernel_rfl))⟩
 f15:=Tryz.func110.trans (congrArg some (by kernel_rfl))
 f20:=⟨Tryz.f137.name,by decide,Tryz.func137.trans (congrArg some (by kernel_rfl))⟩
 f21:=⟨Tryz.f138.name,by decide,Tryz.func138.trans (congrArg some (by kernel_rfl))⟩
 f22:=⟨Tryz.f139.name,by decide,Tryz.func139.trans (congrArg some (by kernel_rfl))⟩
 f23:=⟨Tryz.f140.name,by decide,Tryz.func140.trans (congrArg some (by kernel_rfl))⟩
 f24:=⟨Tryz.f141.name,by decide,Tryz.func141.trans (congrArg some (by kernel_rfl))⟩
 f25:=⟨Tryz.f142.name,by decide,Tryz.func142.trans (congrArg some (by kernel_rfl))⟩
 f26:=⟨Tryz.f143.name,by decide,Tryz.func143.trans (congrArg some (by kernel_rfl))⟩
 f27:=⟨Tryz.f144.name,by decide,Tryz.func144.trans (congrArg some (by kernel_rfl))⟩
 f28:=Tryz.func145.trans (congrArg some (by kernel_rfl))
 f29:=Tryz.func146.trans (congrArg some (by kernel_rfl))
 f46:=⟨Tryz.f162.name,by decide,Tryz.func162.trans (congrArg some (by kernel_rfl))⟩
 f47:=Tryz.func163.trans (congrArg some (by kernel_rfl))
 f48:=Tryz.func164.trans (congrArg some (by kernel_rfl))
 f49:=⟨Tryz.f165.name,by decide,Tryz.func165.trans (congrArg some (by kernel_rfl))⟩
 f50:=⟨Tryz.f166.name,by decide,Tryz.func166.trans (congrArg some (by kernel_rfl))⟩
 f57:=⟨Tryz.f173.name,by decide,Tryz.func173.trans (congrArg some (by kernel_rfl))⟩
 t0:=Tryz.underlying0
 a0:=Tryz.isAgg0
 z0:=Tryz.sizeOf0
 v0:=Tryz.zeroValue0
 t3:=Tryz.underlying3
 a3:=Tryz.isAgg3
 z3:=Tryz.sizeOf3
 v3:=Tryz.zeroValue3
 t4:=Tryz.underlying4
 a4:=Tryz.isAgg4
 z4:=Tryz.sizeOf4
 v4:=Tryz.zeroValue4
 t5:=Tryz.underlying5
 a5:=Tryz.isAgg5
 z5:=Tryz.sizeOf5
 v5:=Tryz.zeroValue5
 t9:=Tryz.underlying9
 a9:=Tryz.isAgg9
 z9:=Tryz.sizeOf9
 v9:=Tryz.zeroValue9
 t22:=Tryz.underlying36
 a22:=Tryz.isAgg36
 z22:=Tryz.sizeOf36
 v22:=Tryz.zeroValue36
 a24:=Tryz.isAgg25
 z24:=Tryz.sizeOf25
 t25:=Tryz.underlying133
 a25:=Tryz.isAgg133
 z25:=Tryz.sizeOf133
 v25:=Tryz.zeroValue133
 t39:=Tryz.underlying136
 a39:=Tryz.isAgg136
 z39:=Tryz.sizeOf136
 v39:=Tryz.zeroValue136
 t45:=Tryz.underlying198
 a45:=Tryz.isAgg198
 z45:=Tryz.sizeOf198
 v45:=Tryz.zeroValue198
 t46:=Tryz.underlying199
 a46:=Tryz.isAgg199
 z46:=Tryz.sizeOf199
 v46:=Tryz.zeroValue199
 t50:=Tryz.underlying152
 a50:=Tryz.isAgg152
 z50:=Tryz.sizeOf152
 v50:=Tryz.zeroValue152
 t53:=Tryz.underlying205
 a53:=Tryz.isAgg205
 z53:=Tryz.sizeOf205
 v53:=Tryz.zeroValue205
 t55:=Tryz.underlying207
 a55:=Tryz.isAgg207
 z55:=Tryz.sizeOf207
 v55:=Tryz.zeroValue207
 t66:=Tryz.underlying219
 a66:=Tryz.isAgg219
 z66:=Tryz.sizeOf219
 v66:=Tryz.zeroValue219
 t70:=Tryz.underlying223
 a70:=Tryz.isAgg223
 z70:=Tryz.sizeOf223
 v70:=Tryz.zeroValue223
 t76:=Tryz.underlying228
 a76:=Tryz.isAgg228
 z76:=Tryz.sizeOf228
 v76:=Tryz.zeroValue228
 t77:=Tryz.underlying229
 a77:=Tryz.isAgg229
 z77:=Tryz.sizeOf229
 v77:=Tryz.zeroValue229 }
def Mt (x y:Int):Int:=if x<y then -1 else if y<x then 1 else 0
def FY:List Int->List Int->Int
 | [],[]=>0
 | [],_::_=>-1
 |_::_,[]=>1
 |x::xs,y::ys=>if Mt x y=0 then FY xs ys else Mt x y
theorem Ll (x y:Int):(x<y/\Mt x y=-1)\/(y<x/\Mt x y=1)\/(x=y/\Mt x y=0):=by
 unfold Mt;by_cases h1:x<y
 . exact .inl ⟨h1,if_pos h1⟩
 ·
  by_cases h2:y<x
  . exact .inr (.inl ⟨h2,by rw[if_neg h1,if_pos h2]⟩)
  . exact .inr (.inr ⟨by omega,by rw[if_neg h1,if_neg h2]⟩)
theorem Ft {xs:List Int}{k:Nat}(h:k<xs.length):xs.drop k=xs.getD k 0::xs.drop (k+1):=by
 rw[List.drop_eq_getElem_cons h,List.getD_eq_getElem?_getD,List.getElem?_eq_getElem h];rfl
theorem U6 {xs ys:List Int}{k:Nat}(h1:k<xs.length)(h2:k<ys.length):FY (xs.drop k) (ys.drop k)=if Mt (xs.getD k 0) (ys.getD k 0)=0 then FY (xs.drop (k+1)) (ys.drop (k+1)) else Mt (xs.getD k 0) (ys.getD k 0):=by
 rw[Ft h1,Ft h2,FY]
theorem U5 {xs ys:List Int}{k:Nat}(h1:k<xs.length)(h2:ys.length<=k):FY (xs.drop k) (ys.drop k)=1:=by
 rw[Ft h1,List.drop_eq_nil_of_le h2,FY]
theorem Xg {xs ys:List Int}{k:Nat}(h1:xs.length<=k)(h2:k<=ys.length)(h3:k<=xs.length):FY (xs.drop k) (ys.drop k)=if xs.length<ys.length then -1 else 0:=by
 rw[List.drop_eq_nil_of_le h1];by_cases h:k<ys.length
 . rw[Ft h,FY,if_pos (by omega)]
 . rw[List.drop_eq_nil_of_le (by omega),FY,if_neg (by omega)]
theorem NV:∀xs ys:List Int,decide (FY xs ys<0)=Bm xs ys
 | [],[]=>rfl
 | [],_::_=>rfl
 |_::_,[]=>rfl
 |x::xs,y::ys=>by
  have ih:=NV xs ys;rw[FY,Bm];rcases Ll x y with ⟨h,e⟩|⟨h,e⟩|⟨h,e⟩
  ·
   rw[e];have:¬x=y:=by omega
   simp[this,h]
  ·
   rw[e];have h1:¬x=y:=by omega
   have h2:¬x<y:=by omega
   simp[h1,h2]
  ·
   rw[e];subst h
   simpa using ih
theorem QZ {AA:List (List Dd)}{b:Bd}(hb:Am AA b=true):Ln AA b=DF AA b:=by
 unfold Ln DF;rw[List.all_eq,List.all_eq]
 congr 1
 apply propext;constructor
 all_goals
  intro h c hc;have hq:=h c hc
  have hck:Td AA ((AB AA).length:Int) b c=true:=by
   unfold Am at hb;simp only[Bool.and_eq_true] at hb;exact List.all_eq_true.1 hb.2.2.2 c hc
  unfold Td at hck;simp only[Bool.and_eq_true,decide_eq_true_eq] at hck;rw[Bool.and_eq_true,decide_eq_true_eq] at hq ⊢;refine⟨?_,hq.2⟩;unfold Aj at *;omega
theorem RI {w:World}{b off:Nat}{zs:List Int}(hc:∀i,i<zs.length->w.cell? ⟨b,off+i,none⟩=some (.int .i64 (zs.getD i 0))):
  ∀j u,(zs.map (Value.int .i64))[j]? = some u->w.cell? ((⟨b,off,none⟩:Addr).add j)=some u:=by
 intro j u hj;rw[List.getElem?_map] at hj
 have hjl:j<zs.length:=by
  apply Classical.byContradiction;intro hno;rw[List.getElem?_eq_none (by omega)] at hj;cases hj
 have e1:(⟨b,off,none⟩:Addr).add j=⟨b,off+j,none⟩:=by unfold Addr.add;split<;>simp_all
 rw[e1,hc j hjl,List.getD_eq_getElem?_getD];rw[List.getElem?_eq_getElem hjl] at hj ⊢
 simpa using hj
theorem YL (zs:List Int):∀u∈zs.map (Value.int .i64),u.oneCell'=true:=by
 intro u hu;obtain⟨y,_,rfl⟩:=List.mem_map.1 hu;rfl
end Go.Proofs.YtflehmepjhikcaaGreatDoor
