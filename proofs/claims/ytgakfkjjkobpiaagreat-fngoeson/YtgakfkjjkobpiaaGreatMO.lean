/- Gathered texts. -/
import Derived.Test.YtgakfkjjkobpiaaGreatMN
import Derived.Deep.Cut
import Derived.BigRegion
import Derived.Deep.RegionLaw
import Derived.RegionTactic
import Derived.Test.YtgakfkjjkobpiaaGreatMM
import Derived.Laws.Tables
set_option maxRecDepth 100000
set_option maxHeartbeats 8000000
namespace Go.Proofs.YtgakfkjjkobpiaaGreat
open Go.ChangeShapes Go.WideShapes Go.ChangeAt Go.RowKit
theorem Bf (w:World)(cs:Array Value)(t:TypeId)(n i:Nat)(hn:n=w.heap.size):(w.alloc (.cells cs t)).cell? ⟨n,0+i,none⟩=cs[i]?:=by
 subst hn;rw[Nat.zero_add,cell_of_row _ w.heap.size i _ _ (0,0) (heap_alloc_new w _)]
theorem Dr.grow {w wr w':World}{B c:Nat}{row:Option Nat}(h:Dr w wr B c)(hg:wr.grownBy w' row)(hr:∀k,row=some k->w.heap.size<=k)(hc:c<w.heap.size)(hB:B<=c):Dr w w' B c:=by
 refine⟨h.1.kept hg (fun e=>by have:=hr c e;omega) (fun k hk=>by have:=hr k hk;omega),?_⟩;exact⟨hg.os.trans h.2.os,hg.tape.trans h.2.tape,hg.output.trans h.2.output,Nat.le_trans h.2.size hg.size,fun i hi hne=>(hg.block i (Nat.lt_of_lt_of_le hi h.2.size) (fun e=>by have:=hr i e.symm;omega)).trans (h.2.block i hi hne)⟩
theorem Dr.trans {a b d:World}{B c:Nat}(h:Dr a b B c)(k:Dr b d B c):Dr a d B c:=⟨k.1,A6 h.2 k.2⟩
theorem BZ.at {w:World}{base:Nat}{v:Value}{ds:List Dd}(h:BZ w base v ds)(hn:0<ds.length):
  ∃g c,v = .slice (some ⟨g,0,none⟩) ds.length c/\base<=g/\g<w.heap.size/\(∀i,i<ds.length->Tj w g (i*4) (ds.getD i zD))/\∀i,w.frozen? ⟨g,i,none⟩=false:=by
 obtain⟨a,c,rfl,r⟩:=h.QZ;rcases r with r|⟨g,rfl,hb,hB,hA⟩
 . rw[r] at hn;simp at hn
 . exact⟨g,_,rfl,hb,hB.lt,hA,hB.free⟩
theorem BZ.cells {w:World}{base g n c:Nat}{ds:List Dd}(h:BZ w base (.slice (some ⟨g,0,none⟩) n c) ds){i:Nat}(hi:i<ds.length):Tj w g (i*4) (ds.getD i zD)/\w.frozen? ⟨g,i*4+3,none⟩=false/\g<w.heap.size:=by
 obtain⟨g',c',e,_,hg,hA,hF⟩:=h.at (by omega);simp only[Value.slice.injEq,Option.some.injEq,Addr.mk.injEq,and_true] at e;obtain⟨rfl,_,_⟩:=e;exact⟨hA i hi,hF _,hg⟩
theorem Bz.cellAt {w:World}{base N g n c:Nat}{V:Nat->Value}{AA:List (List Dd)}(h:Bz w base N (.slice (some ⟨g,0,none⟩) n c) V AA){i:Nat}(hi:i<AA.length):w.cell? ⟨g,i,none⟩=some (V i)/\g<w.heap.size:=by
 obtain⟨g',c',e,_,_,hg,_,hC,_⟩:=h.at (by omega);simp only[Value.slice.injEq,Option.some.injEq,Addr.mk.injEq,and_true] at e;obtain⟨rfl,_,_⟩:=e;exact⟨hC i hi,hg⟩
theorem WY {AA:List (List Dd)}{L:List Dd}(h:∀i,i<AA.length->(AA.getD i []).length<=4)(hL:L.length<=4):∀i,i<(AA++[L]).length->((AA++[L]).getD i []).length<=4:=by
 intro i hi;by_cases e:i<AA.length
 . rw[B8 AA [L] i [] e];exact h i e
 ·
  have:i=AA.length:=by simp at hi;omega
  subst this;rw[DU];exact hL
theorem Y5 {n k:Nat}{NQ:List (List Dd)}{ds:List Dd}(hk:k<NQ.length)(h:∀i,i<n->(NQ.getD i []).length<=4)(hd:ds.length<=4):∀i,i<n->((NQ.set k ds).getD i []).length<=4:=by
 intro i hi;rw[GA NQ k i ds [] hk];split
 . exact hd
 . exact h i hi
theorem Rb (w:World):Bz (w.alloc (.cells #[] 52)) w.heap.size (w.alloc (.cells #[] 52)).heap.size (.slice (some ⟨w.heap.size,0,none⟩) 0 0) (fun _=>vZ) []:=
 ⟨World.ownsRow_lit w #[] 0 (Nat.le_refl _) (by decide) rfl,fun k hk=>by simp[Value.ownBlock] at hk;rw[AD];omega,by simp,by simp,by simp,by simp⟩
theorem Pk (w:World):BZ (w.alloc (.cells #[] 51)) w.heap.size (.slice (some ⟨w.heap.size,0,none⟩) 0 0) []:=
 World.ownsRow_lit w #[] 0 (Nat.le_refl _) (by decide) rfl
theorem R9 (w:World)(B c:Nat)(hc:IU w B c):
  Calls Tryz.prog 96 #[.pointer (some ⟨c,0,none⟩)] w fun e w'=>∃v V AA,e = .returned v/\Bz w' w.heap.size w'.heap.size v V AA/\1<=AA.length/\AA.length<=3/\(∀i,i<AA.length->(AA.getD i []).length<=4)/\Dr w w' B c:=by
 have hcl:=hc.lt;have hB:=hc.1;obtain⟨i0,hi,hz0,hz1,hz2⟩:=info_parts Tryz.Zz;obtain⟨j0,hj,hy0,hy1,hy2⟩:=info_parts Tryz.WO;have a0:=Rb w;have D0:=(Dr.refl hc).alloc (.cells #[] 52);go_enter Tryz.func96,Tryz.ntmps96
 go_wp2_with fail
 refine (Ao _ B c _ D0.1 (by omega)).mono ?_;rintro e w1 ⟨x,rfl,x0,x1,c1,g1⟩;have a1:=(a0.kept g1 hcl).up g1.size;have D1:=D0.step c1 g1;obtain⟨n0,rfl⟩:=Int.eq_ofNat_of_zero_le x0;clear a0 D0 c1 g1 x0;go_wp2;go_loopw [3,4,5,6] (fun x e4 e5 i wr=>∃(r de:Nat) (ev:Int) (V:Nat->Value) (AA:List (List Dd)),i = .int .i64 r/\e4 = .int .i64 ev/\e5 = .int .i64 de/\0<=ev/\ev<=6/\de<=12/\1<=AA.length+r/\AA.length+r<=3/\Bz wr w.heap.size wr.heap.size x V AA/\Hid (∀i,i<AA.length->(AA.getD i []).length<=4)/\Dr w wr B c) (fun _ _ _ i _=>(intOf i).toNat)
 case atStart=>exact⟨1+n0,0,0,_,[],by go_num,rfl,rfl,by omega,by omega,by omega,by simp,by simp;omega,a1,Lib.hid (by simp),D1⟩
 case round=>
  obtain⟨r,de,ev,V,AA,rfl,rfl,rfl,e0,e6,d12,r1,r3,hX,hL4,hD⟩:=hrel;clear a1 D1;by_cases hr0:r=0
  ·
   have hr:(r:Int)<=0:=by omega
   have hrd:decide (0<r)=false:=by simp[hr0]
   have n1:1<=AA.length:=by omega
   have n3:AA.length<=3:=by omega
   clear hr0 r1 r3;obtain⟨g,cx,rfl,hgb,hgN,hgw,hcx,hcell,-⟩:=hX.at (by omega);go_wp2;obtain⟨wo,hwo⟩:∃wo:World,wo=wr:=⟨_,rfl⟩;subst hwo;clear hcell;go_loopw [11] (fun i wr=>∃(k:Nat),k<=AA.length/\i = .int .i64 k/\Hid (∃ess:List (List Dd),ess.length<=AA.length/\AA.length<=ess.length/\Hid (∀i,i<AA.length->(ess.getD i []).length<=4)/\Bz wr w.heap.size wo.heap.size (.slice (some ⟨g,0,none⟩) AA.length cx) V ess/\wo.heap.size<=wr.heap.size/\Dr w wr B c)) (fun i _=>AA.length-(intOf i).toNat)
   case atStart=>exact⟨0,Nat.zero_le _,rfl,Lib.hid ⟨AA,Nat.le_refl _,Nat.le_refl _,hL4,hX,Nat.le_refl _,hD⟩⟩
   case round=>
    obtain⟨k,hk,rfl,hH⟩:=hrel;clear hD;obtain⟨ess,el1,el2,hE4,hY,hsz,hD⟩:=hH.out;clear hH;by_cases hlt:k<AA.length
    ·
     have hEk:=hE4.out k hlt;have hAk:=hY.each k (by omega);obtain⟨d1,hgw2⟩:=hY.cellAt (i:=k) (by omega);obtain⟨a5,c5,lK⟩:=hAk.shape;have zo:Hid (∀q,q=(ess.getD k []).length->(ess.getD k []).length=q):=Lib.hid (fun q h=>h.symm);obtain⟨lk,hlk⟩:∃lk,lk=(ess.getD k []).length:=⟨_,rfl⟩;have HL2:=Lib.hid hlk;rw[<-hlk] at lK hEk;rw[lK] at d1;clear hlk zo;have i1:(0:Int)<=(k:Int):=Int.natCast_nonneg _;have i2:(k:Int)<(AA.length:Int):=by omega
     by_cases h1:1<lk
     ·
      obtain⟨gk,ck,e1,hgk,-⟩:=hAk.at (by rw[<-HL2.out];omega);rw[lK] at e1;simp only[Value.slice.injEq] at e1;obtain⟨rfl,-,-⟩:=e1;have HV:=Lib.hid lK;clear lK hAk;have h1i:(1:Int)<(lk:Int):=by omega
      go_wp2_with fail
      refine (C2 _ B c _ hD.1 (by omega)).mono ?_;rintro e w2 ⟨b,rfl,c2,g2⟩;have hY2:=hY.kept g2 hcl;have hD2:=hD.step c2 g2;have hsz2:=Nat.le_trans hsz g2.size;clear hY hD hsz c2 g2 d1 hgw2;cases b
      ·
       go_wp2;go_roundw;case rel=>exact⟨k+1,by omega,by go_num,Lib.hid ⟨ess,el1,el2,hE4,hY2,hsz2,hD2⟩⟩
       case measure=>simp[intOf];omega
      ·
       have hw1:IntKind.i64.wrap ((lk:Int)-1)=(lk:Int)-1:=by rw[IntKind.wrap_i64];omega
       go_wp2_with fail
       refine (Ao _ B c _ hD2.1 (by omega)).mono ?_;rintro e w3 ⟨x,rfl,x0,x2,c3,g3⟩;have hY3:=hY2.kept g3 hcl;have hD3:=hD2.step c3 g3;have hsz3:=Nat.le_trans hsz2 g3.size;obtain⟨f,rfl⟩:=Int.eq_ofNat_of_zero_le x0;clear hY2 hD2 hsz2 c3 g3 x0;go_wp2;go_loopw [14] (fun i wq=>∃(q:Nat),q<=lk/\i = .int .i64 q/\Hid (∃NQ:List (List Dd),NQ.length<=AA.length/\AA.length<=NQ.length/\Hid (∀i,i<AA.length->(NQ.getD i []).length<=4)/\Hid ((NQ.getD k []).length=lk)/\Bz wq w.heap.size wo.heap.size (.slice (some ⟨g,0,none⟩) AA.length cx) V NQ/\wo.heap.size<=wq.heap.size/\Dr w wq B c)) (fun i _=>lk-(intOf i).toNat)
       case atStart=>exact⟨f,by omega,rfl,Lib.hid ⟨ess,el1,el2,hE4,Lib.hid HL2.out.symm,hY3,hsz3,hD3⟩⟩
       case round=>
        obtain⟨q,hq,rfl,hH⟩:=hrel;obtain⟨NQ,l1,l2,h4,hlk,hY,hsz,hD⟩:=hH.out;clear hY3 hD3 hsz3 hH;by_cases fM:q<lk
        ·
         go_wp2_with fail
         refine (Ao _ B c _ hD.1 (by omega)).mono ?_;rintro e w4 ⟨z,rfl,z0,z2,c4,g4⟩;have hY:=hY.kept g4 hcl;have hD:=hD.step c4 g4;have hsz:=Nat.le_trans hsz g4.size;clear c4 g4;by_cases hz:(q:Int)<(f:Int)+2+z
         ·
          obtain⟨d1,hgw2⟩:=hY.cellAt (i:=k) (by omega);have hAk:=hY.each k (by omega);rw[HV.out] at d1 hAk;obtain⟨AT,fr,hgk2⟩:=hAk.cells (i:=q) (by rw[hlk.out];exact fM);obtain⟨A0,-,-,A3⟩:=AT;generalize ((NQ.getD k []).getD q zD).1=x0 at A0;generalize ((NQ.getD k []).getD q zD).2.2.2=x3 at A3;have j1:(0:Int)<=(q:Int):=Int.natCast_nonneg _;have j2:(q:Int)<(lk:Int):=by omega
          by_cases hx:2<x0
          ·
           go_wp2;go_roundw;case rel=>exact⟨k+1,by omega,by go_num,Lib.hid ⟨NQ,l1,l2,h4,hY,hsz,hD⟩⟩
           case measure=>simp[intOf];omega
          ·
           have hx':x0<=2:=by omega
           obtain⟨es,he,hY5⟩:=hY.put (i:=k) (k:=q) (by omega) HV.out (by rw[hlk.out];exact fM) ((k:Int)+1);have hD5:=hD.set hgk hcl hB (q*4+3) (.int .i64 ((k:Int)+1));have H4:Hid (∀i,i<AA.length->((NQ.set k es).getD i []).length<=4):=Lib.hid (Y5 (by omega) h4.out (by rw[he];exact h4.out k hlt));have HK:Hid (((NQ.set k es).getD k []).length=lk):=Lib.hid (by rw[GA NQ k k es [] (by omega),if_pos rfl,he,hlk.out]);clear hx hAk;go_wp2;go_roundw;case rel=>exact⟨q+1,by omega,by go_num,Lib.hid ⟨NQ.set k es,by rw[List.length_set];exact l1,by rw[List.length_set];exact l2,H4,HK,hY5,by simpa using hsz,hD5⟩⟩
           case measure=>simp[intOf];omega
         ·
          have hz':(f:Int)+2+z<=(q:Int):=by omega
          go_wp2;go_roundw;case rel=>exact⟨k+1,by omega,by go_num,Lib.hid ⟨NQ,l1,l2,h4,hY,hsz,hD⟩⟩
          case measure=>simp[intOf];omega
        ·
         have hql':(lk:Int)<=(q:Int):=by omega
         go_wp2;go_roundw;case rel=>exact⟨k+1,by omega,by go_num,Lib.hid ⟨NQ,l1,l2,h4,hY,hsz,hD⟩⟩
         case measure=>simp[intOf];omega
     ·
      have h1i:(lk:Int)<=1:=by omega
      go_wp2;go_roundw;case rel=>exact⟨k+1,by omega,by go_num,Lib.hid ⟨ess,el1,el2,hE4,hY,hsz,hD⟩⟩
      case measure=>simp[intOf];omega
    ·
     obtain rfl:k=AA.length:=by omega
     go_wp2;go_ret;exact⟨_,_,ess,rfl,hY.up hsz,by omega,by omega,fun i hi=>hE4.out i (by omega),hD⟩
  ·
   obtain⟨r',rfl⟩:∃r':Nat,r=r'+1:=⟨r-1,by omega⟩;clear hr0;have ad0:=Pk wr;have hcw:c<wr.heap.size:=Nat.lt_of_lt_of_le hcl hD.2.size;have D2:=(Dr.refl hD.1).alloc (.cells #[] 51);go_wp2_with fail
   refine (Ao _ B c _ D2.1 (by omega)).mono ?_;rintro e w2 ⟨y,rfl,y0,y1,c2,g2⟩;have ad2:=ad0.kept g2 (CU ad0.ge hcw);have D3:=D2.step c2 g2;obtain⟨m0,rfl⟩:=Int.eq_ofNat_of_zero_le y0;clear ad0 D2 c2 g2 y0;go_wp2;obtain⟨wo,hwo⟩:∃wo:World,wo=wr:=⟨_,rfl⟩;subst hwo;go_loopw [4,5,7,8] (fun e4 e5 y i wq=>∃(m de:Nat) (ev:Int) (L:List Dd),i = .int .i64 m/\e4 = .int .i64 ev/\e5 = .int .i64 de/\0<=ev/\ev<=6/\de<=12/\L.length+m<=4/\BZ wq wo.heap.size y L/\Dr wo wq B c) (fun _ _ _ i _=>(intOf i).toNat)
   case atStart=>exact⟨m0,de,ev,[],rfl,rfl,rfl,e0,e6,d12,by simp;omega,ad2,D3⟩
   case round=>
    clear e0 e6 d12;obtain⟨m,de,ev,L,rfl,rfl,rfl,e0,e6,d12,lm,hA,hQ⟩:=hrel;clear ad2 D3;by_cases hm0:m=0
    ·
     have hm:(m:Int)<=0:=by omega
     have hmd:decide (0<m)=false:=by simp[hm0]
     clear hm0;have hX2:=hX.kept hQ.2 hcl;have yJ:=hL4.out;have hsz1:=hD.2.size;have hsz2:=hQ.2.size;have hL4':L.length<=4:=by omega
     obtain⟨a5,c5,rfl⟩:=hA.shape;have hX3:=hX2.keep ((AC.refl wr).alloc (.cells #[.slice a5 L.length c5] 52));have hA3:=hA.keep ((AC.refl wr).alloc (.cells #[.slice a5 L.length c5] 52));have hge:=fun k hk=>(World.ownsRow.lt hX.row k hk).1
     have HP:=Lib.hid (WY yJ hL4');clear hX2 yJ hA;go_wp2_with (at_builtin;refine wpList_append_own_at _ rfl _ _ 24 rfl w.heap.size 52 j0 (.slice none 0 0) 1 24 Tryz.underlying24 hj hy0 hy1 hy2 rfl (by decide) _ _ _ rfl hX3.row ⟨_,0,none⟩ 1 1 [.slice a5 L.length c5] rfl rfl ?b1 ?b2 ?b3 ?b4 ?b5 ?_)
     case b1=>
      intro j u hj
      match j,hj with
      | 0,hj=>simp at hj;subst hj;simp[Addr.add]
     case b2=>intro u hu;simp at hu;subst hu;rfl
     case b3=>unfold maxLen;first|omega|(simp;omega)
     case b4=>first|omega|(simp;omega)
     case b5=>first|omega|(simp;omega)
     intro v' w5 hown' hgrow _ hblk;have hP:=Bz.push hX3 hA3 hsz1 hown' hgrow (by rw[AD];exact hblk) (by rw[AD];omega);have D5:=((hD.trans hQ).alloc _).grow hgrow hge hcl hB;clear hgrow hown' hblk;go_wp2;go_roundw;case rel=>exact⟨r',de,ev,_,AA++[L],by go_num,rfl,rfl,e0,e6,d12,by simp;omega,by simp;omega,hP,HP,D5⟩
     case measure=>simp[intOf]
    ·
     obtain⟨m,rfl⟩:∃m':Nat,m=m'+1:=⟨m-1,by omega⟩;clear hm0;go_wp2_with fail
     refine (MA _ B c hQ.1).mono ?_;rintro e w4 ⟨kk,p,v,g,rfl,D4',k1,k4⟩;have D4:=hQ.trans D4';have hA4:=hA.kept D4'.2 (CU hA.ge hcw);have hge:=hA.ge;have hsz4:=D4.2.size;obtain⟨a5,c5,rfl⟩:=hA.shape;clear hA hQ D4';have hk:kk=1\/kk=2\/kk=3\/kk=4:=by omega
     clear k1 k4;rcases hk with rfl|rfl|rfl|rfl
     ·
      by_cases hx:6<ev+1
      ·
       go_wp2;go_roundw;case rel=>exact⟨m,de,ev,L,by go_num,rfl,rfl,by omega,by omega,by omega,by omega,hA4.keep (((AC.refl w4).alloc _).alloc _),(D4.alloc _).alloc _⟩
       case measure=>simp[intOf]
      ·
       have hx':ev+1<=6:=by omega
       by_cases hd:de=12
       ·
        have ed:((de:Int)==12)=true:=by simp;omega
        clear hd;go_wp2;go_roundw;case rel=>exact⟨m,de,ev,L,by go_num,rfl,rfl,by omega,by omega,by omega,by omega,hA4.keep (((AC.refl w4).alloc _).alloc _),(D4.alloc _).alloc _⟩
        case measure=>simp[intOf]
       ·
        have ed:((de:Int)==12)=false:=by simp;omega
        have de12:de<12:=by omega
        clear hd;go_wp2_with (at_builtin;refine wpList_append_own_at _ rfl _ _ 52 rfl wo.heap.size 51 i0 (.agg #[.int .i64 0,.int .i64 0,.int .i64 0,.int .i64 0]) 4 32 Tryz.underlying52 hi hz0 hz1 hz2 rfl (by decide) _ _ _ rfl (hA4.keep ((((AC.refl w4).alloc _).alloc _).alloc _)) ⟨_,0,none⟩ 1 1 (cD (1,p,v,g)) rfl rfl ?c1 ?c2 ?c3 ?c4 ?c5 ?_)
        case c1=>
         intro j u hj
         match j,hj with
         | 0,hj=>simp[cD] at hj;subst hj;rw[BH];exact Bf _ _ _ _ 0 (by rw[AD,AD])
         | 1,hj=>simp[cD] at hj;subst hj;rw[BH];exact Bf _ _ _ _ 1 (by rw[AD,AD])
         | 2,hj=>simp[cD] at hj;subst hj;rw[BH];exact Bf _ _ _ _ 2 (by rw[AD,AD])
         | 3,hj=>simp[cD] at hj;subst hj;rw[BH];exact Bf _ _ _ _ 3 (by rw[AD,AD])
         |n+4,hj=>simp[cD] at hj
        case c2=>intro u hu;simp[cD] at hu;rcases hu with rfl|rfl|rfl|rfl<;>rfl
        case c3=>unfold maxLen;first|(simp;done)|omega|(simp;omega)
        case c4=>first|(simp;done)|omega|(simp;omega)
        case c5=>first|(simp;done)|omega|(simp;omega)
        intro v' w5 hown' hgrow _ _;have hA5:BZ w5 wo.heap.size v' (L++[(1,p,v,g)]):=G8 hown';have D5:=(((D4.alloc _).alloc _).alloc _).grow hgrow hge hcw hB;clear hgrow hown' hA4;go_wp2;go_roundw;case rel=>exact⟨m,de+1,ev+1,_,by go_num,by go_num,by go_num,by omega,by omega,by omega,by simp;omega,hA5,D5⟩
        case measure=>simp[intOf]
     ·
      by_cases hx:6<ev+1
      ·
       go_wp2;go_roundw;case rel=>exact⟨m,de,ev,L,by go_num,rfl,rfl,by omega,by omega,by omega,by omega,hA4.keep (((AC.refl w4).alloc _).alloc _),(D4.alloc _).alloc _⟩
       case measure=>simp[intOf]
      ·
       have hx':ev+1<=6:=by omega
       by_cases hd:de=12
       ·
        have ed:((de:Int)==12)=true:=by simp;omega
        clear hd;go_wp2;go_roundw;case rel=>exact⟨m,de,ev,L,by go_num,rfl,rfl,by omega,by omega,by omega,by omega,hA4.keep (((AC.refl w4).alloc _).alloc _),(D4.alloc _).alloc _⟩
        case measure=>simp[intOf]
       ·
        have ed:((de:Int)==12)=false:=by simp;omega
        have de12:de<12:=by omega
        clear hd;go_wp2_with (at_builtin;refine wpList_append_own_at _ rfl _ _ 52 rfl wo.heap.size 51 i0 (.agg #[.int .i64 0,.int .i64 0,.int .i64 0,.int .i64 0]) 4 32 Tryz.underlying52 hi hz0 hz1 hz2 rfl (by decide) _ _ _ rfl (hA4.keep ((((AC.refl w4).alloc _).alloc _).alloc _)) ⟨_,0,none⟩ 1 1 (cD (2,p,v,g)) rfl rfl ?c1 ?c2 ?c3 ?c4 ?c5 ?_)
        case c1=>
         intro j u hj
         match j,hj with
         | 0,hj=>simp[cD] at hj;subst hj;rw[BH];exact Bf _ _ _ _ 0 (by rw[AD,AD])
         | 1,hj=>simp[cD] at hj;subst hj;rw[BH];exact Bf _ _ _ _ 1 (by rw[AD,AD])
         | 2,hj=>simp[cD] at hj;subst hj;rw[BH];exact Bf _ _ _ _ 2 (by rw[AD,AD])
         | 3,hj=>simp[cD] at hj;subst hj;rw[BH];exact Bf _ _ _ _ 3 (by rw[AD,AD])
         |n+4,hj=>simp[cD] at hj
        case c2=>intro u hu;simp[cD] at hu;rcases hu with rfl|rfl|rfl|rfl<;>rfl
        case c3=>unfold maxLen;first|(simp;done)|omega|(simp;omega)
        case c4=>first|(simp;done)|omega|(simp;omega)
        case c5=>first|(simp;done)|omega|(simp;omega)
        intro v' w5 hown' hgrow _ _;have hA5:BZ w5 wo.heap.size v' (L++[(2,p,v,g)]):=G8 hown';have D5:=(((D4.alloc _).alloc _).alloc _).grow hgrow hge hcw hB;clear hgrow hown' hA4;go_wp2;go_roundw;case rel=>exact⟨m,de+1,ev+1,_,by go_num,by go_num,by go_num,by omega,by omega,by omega,by simp;omega,hA5,D5⟩
        case measure=>simp[intOf]
     ·
      by_cases hx:6<ev+2
      ·
       go_wp2;go_roundw;case rel=>exact⟨m,de,ev,L,by go_num,rfl,rfl,by omega,by omega,by omega,by omega,hA4.keep (((AC.refl w4).alloc _).alloc _),(D4.alloc _).alloc _⟩
       case measure=>simp[intOf]
      ·
       have hx':ev+2<=6:=by omega
       by_cases hd:de=12
       ·
        have ed:((de:Int)==12)=true:=by simp;omega
        clear hd;go_wp2;go_roundw;case rel=>exact⟨m,de,ev,L,by go_num,rfl,rfl,by omega,by omega,by omega,by omega,hA4.keep (((AC.refl w4).alloc _).alloc _),(D4.alloc _).alloc _⟩
        case measure=>simp[intOf]
       ·
        have ed:((de:Int)==12)=false:=by simp;omega
        have de12:de<12:=by omega
        clear hd;go_wp2_with (at_builtin;refine wpList_append_own_at _ rfl _ _ 52 rfl wo.heap.size 51 i0 (.agg #[.int .i64 0,.int .i64 0,.int .i64 0,.int .i64 0]) 4 32 Tryz.underlying52 hi hz0 hz1 hz2 rfl (by decide) _ _ _ rfl (hA4.keep ((((AC.refl w4).alloc _).alloc _).alloc _)) ⟨_,0,none⟩ 1 1 (cD (3,p,v,g)) rfl rfl ?c1 ?c2 ?c3 ?c4 ?c5 ?_)
        case c1=>
         intro j u hj
         match j,hj with
         | 0,hj=>simp[cD] at hj;subst hj;rw[BH];exact Bf _ _ _ _ 0 (by rw[AD,AD])
         | 1,hj=>simp[cD] at hj;subst hj;rw[BH];exact Bf _ _ _ _ 1 (by rw[AD,AD])
         | 2,hj=>simp[cD] at hj;subst hj;rw[BH];exact Bf _ _ _ _ 2 (by rw[AD,AD])
         | 3,hj=>simp[cD] at hj;subst hj;rw[BH];exact Bf _ _ _ _ 3 (by rw[AD,AD])
         |n+4,hj=>simp[cD] at hj
        case c2=>intro u hu;simp[cD] at hu;rcases hu with rfl|rfl|rfl|rfl<;>rfl
        case c3=>unfold maxLen;first|(simp;done)|omega|(simp;omega)
        case c4=>first|(simp;done)|omega|(simp;omega)
        case c5=>first|(simp;done)|omega|(simp;omega)
        intro v' w5 hown' hgrow _ _;have hA5:BZ w5 wo.heap.size v' (L++[(3,p,v,g)]):=G8 hown';have D5:=(((D4.alloc _).alloc _).alloc _).grow hgrow hge hcw hB;clear hgrow hown' hA4;go_wp2;go_roundw;case rel=>exact⟨m,de+1,ev+2,_,by go_num,by go_num,by go_num,by omega,by omega,by omega,by simp;omega,hA5,D5⟩
        case measure=>simp[intOf]
     ·
      by_cases hd:de=12
      ·
       have ed:((de:Int)==12)=true:=by simp;omega
       clear hd;go_wp2;go_roundw;case rel=>exact⟨m,de,ev,L,by go_num,rfl,rfl,by omega,by omega,by omega,by omega,hA4.keep (((AC.refl w4).alloc _).alloc _),(D4.alloc _).alloc _⟩
       case measure=>simp[intOf]
      ·
       have ed:((de:Int)==12)=false:=by simp;omega
       have de12:de<12:=by omega
       clear hd;go_wp2_with (at_builtin;refine wpList_append_own_at _ rfl _ _ 52 rfl wo.heap.size 51 i0 (.agg #[.int .i64 0,.int .i64 0,.int .i64 0,.int .i64 0]) 4 32 Tryz.underlying52 hi hz0 hz1 hz2 rfl (by decide) _ _ _ rfl (hA4.keep ((((AC.refl w4).alloc _).alloc _).alloc _)) ⟨_,0,none⟩ 1 1 (cD (4,p,v,g)) rfl rfl ?c1 ?c2 ?c3 ?c4 ?c5 ?_)
       case c1=>
        intro j u hj
        match j,hj with
        | 0,hj=>simp[cD] at hj;subst hj;rw[BH];exact Bf _ _ _ _ 0 (by rw[AD,AD])
        | 1,hj=>simp[cD] at hj;subst hj;rw[BH];exact Bf _ _ _ _ 1 (by rw[AD,AD])
        | 2,hj=>simp[cD] at hj;subst hj;rw[BH];exact Bf _ _ _ _ 2 (by rw[AD,AD])
        | 3,hj=>simp[cD] at hj;subst hj;rw[BH];exact Bf _ _ _ _ 3 (by rw[AD,AD])
        |n+4,hj=>simp[cD] at hj
       case c2=>intro u hu;simp[cD] at hu;rcases hu with rfl|rfl|rfl|rfl<;>rfl
       case c3=>unfold maxLen;first|(simp;done)|omega|(simp;omega)
       case c4=>first|(simp;done)|omega|(simp;omega)
       case c5=>first|(simp;done)|omega|(simp;omega)
       intro v' w5 hown' hgrow _ _;have hA5:BZ w5 wo.heap.size v' (L++[(4,p,v,g)]):=G8 hown';have D5:=(((D4.alloc _).alloc _).alloc _).grow hgrow hge hcw hB;clear hgrow hown' hA4;go_wp2;go_roundw;case rel=>exact⟨m,de+1,ev,_,by go_num,by go_num,by go_num,by omega,by omega,by omega,by simp;omega,hA5,D5⟩
       case measure=>simp[intOf]
theorem Td {a:Option Nat}{k:Nat}(h:a≠some k):a=none\/a≠some k:= .inr h
theorem Bz.first {w w2:World}{base N g n cx:Nat}{V:Nat->Value}{AA:List (List Dd)}{v':Value}{es:List Dd}(h:Bz w base N (.slice (some ⟨g,0,none⟩) n cx) V AA)(h1:0<AA.length)(hn:n=AA.length)(hA:BZ w2 base v' es)
  (hgrow:w.grownBy w2 (V 0).ownBlock) (hblk:v'.ownBlock=(V 0).ownBlock\/v'.ownBlock=some w.heap.size):
  OM (w2.setCell ⟨g,0,none⟩ v') base (.slice (some ⟨g,0,none⟩) n cx) (AA.set 0 es):=by
 subst hn;have hgw:=(h.cellAt h1).2;have hgb:base<=g:=(World.ownsRow.lt h.row g rfl).1;have hgv:(V 0).ownBlock≠some g:=fun e=>h.out 0 h1 g e rfl
 have tY:v'.ownBlock≠some g:=by
  rcases hblk with e|e
  . rw[e];exact hgv
  . rw[e];simp only[ne_eq,Option.some.injEq];omega
 have hb:w2.heap[g]? = w.heap[g]?:=hgrow.block g hgw (fun e=>hgv e.symm);have hp:=NY w2 g 0 v';refine⟨_,cx,by rw[List.length_set],.inr ⟨g,0,rfl,hgb,Nat.lt_of_lt_of_le (Nat.lt_of_lt_of_le hgw hgrow.size) hp.size,fun i hi=>?_⟩⟩;rw[List.length_set] at hi;rw[GA AA 0 i es [] h1,Nat.zero_add];by_cases e:0=i
 ·
  subst e;rw[if_pos rfl];exact⟨v',World.cell?_setCell_same _ _ _ ((Cr hb 0).trans (h.cellAt h1).1),hA.kept hp (Td tY)⟩
 ·
  rw[if_neg e];refine⟨V i,?_,?_⟩
  ·
   rw[World.cell?_setCell_other _ _ _ _ (by intro q;injection q with q1 q2;exact e q2)];exact (Cr hb i).trans (h.cellAt hi).1
  ·
   have k1:BZ w2 base (V i) (AA.getD i []):=(h.each i hi).kept hgrow (by
    cases hv:(V i).ownBlock with
    |none=>exact .inl rfl
    |some q=>exact .inr (fun e2=>h.apart 0 i (by omega) hi q e2.symm hv))
   exact k1.kept hp (Td (fun e2=>h.out i hi g e2 rfl))
theorem Bz.twice {w w2:World}{base N:Nat}{v v':Value}{V:Nat->Value}{AA:List (List Dd)}(h:Bz w base N v V AA)(h1:0<AA.length)
  (hown:w2.ownsRow base 52 1 v' (AA.length+AA.length) ((List.range AA.length).map V++(List.range AA.length).map V)) (hgrow:w.grownBy w2 v.ownBlock):OM w2 base v' (AA++AA):=by
 have hd:∀i,i<AA.length->BZ w2 base (V i) (AA.getD i []):=fun i hi=>(h.each i hi).kept hgrow (by
  cases hv:(V i).ownBlock with
  |none=>exact .inl rfl
  |some q=>exact .inr (fun e2=>h.out i hi q hv e2.symm))
 have hlt:=World.ownsRow.lt hown;have h2:=hown;rcases hown.2 with ⟨_,hz⟩|⟨g,cap,cur,rfl,hb,hg,_⟩
 . omega
 ·
  refine⟨_,cap,by rw[List.length_append],.inr ⟨g,0,rfl,hb,(hlt g rfl).2,fun i hi=>?_⟩⟩;rw[List.length_append] at hi;rw[Nat.zero_add];by_cases e:i<AA.length
  ·
   refine⟨V i,?_,by rw[B8 AA AA i [] e];exact hd i e⟩;rw[World.ownsRow.cellAt h2 i (by simp;omega),List.getElem?_append_left (by simpa using e),FQ V _ i e]
  ·
   have e2:i-AA.length<AA.length:=by omega
   refine⟨V (i-AA.length),?_,?_⟩
   . rw[World.ownsRow.cellAt h2 i (by simp;omega),List.getElem?_append_right (by simp;omega),List.length_map,List.length_range,FQ V _ _ e2]
   ·
    have:(AA++AA).getD i []=AA.getD (i-AA.length) []:=by
     rw[List.getD_eq_getElem?_getD,List.getElem?_append_right (by omega),List.getD_eq_getElem?_getD]
    rw[this];exact hd _ e2
theorem Bz.low {w:World}{base base' N:Nat}{v:Value}{V:Nat->Value}{AA:List (List Dd)}(h:Bz w base N v V AA)(hb:base'<=base):Bz w base' N v V AA:=by
 refine⟨⟨h.row.1,?_⟩,h.lt,fun i hi=>(h.each i hi).BE hb,h.Y6,h.out,h.apart⟩;rcases h.row.2 with q|⟨g,cap,cur,e,hg,r⟩
 . exact .inl q
 . exact .inr ⟨g,cap,cur,e,Nat.le_trans hb hg,r⟩
theorem Hg {w w':World}{b:Nat}(h:w'.heap[b]? = w.heap[b]?)(o:Nat):w'.frozen? ⟨b,o,none⟩=w.frozen? ⟨b,o,none⟩:=by
 simp only[World.frozen?,h]
theorem NP (xs:List Dd):(xs.flatMap cD).toArray.size=xs.length*4:=by
 induction xs with
 |nil=>rfl
 |cons d r ih=>simp[cD] at ih ⊢;omega
theorem G9 (w:World)(base:Nat)(xs ys:List Dd)(hb:base<=w.heap.size)(hx:xs.length<=9)(hy:ys.length<=9):
  Bz (((w.alloc (.cells (xs.flatMap cD).toArray 51)).alloc (.cells (ys.flatMap cD).toArray 51)).alloc (.cells #[.slice (some ⟨w.heap.size,0,none⟩) xs.length xs.length,.slice (some ⟨w.heap.size+1,0,none⟩) ys.length ys.length] 52)) base (w.heap.size+3)
   (.slice (some ⟨w.heap.size+2,0,none⟩) 2 2) (fun i=>if i=0 then .slice (some ⟨w.heap.size,0,none⟩) xs.length xs.length else .slice (some ⟨w.heap.size+1,0,none⟩) ys.length ys.length) [xs,ys]:=by
 have a1:BZ (w.alloc (.cells (xs.flatMap cD).toArray 51)) base (.slice (some ⟨w.heap.size,0,none⟩) xs.length xs.length) xs:=
  World.ownsRow_lit w (xs.flatMap cD).toArray xs.length hb (by unfold maxLen;omega) (NP xs)
 have a2:BZ ((w.alloc (.cells (xs.flatMap cD).toArray 51)).alloc (.cells (ys.flatMap cD).toArray 51)) base (.slice (some ⟨w.heap.size+1,0,none⟩) ys.length ys.length) ys:=by
  have:=World.ownsRow_lit (base:=base) (e:=51) (size:=4) (w.alloc (.cells (xs.flatMap cD).toArray 51)) (ys.flatMap cD).toArray ys.length (by rw[AD];omega) (by unfold maxLen;omega) (NP ys);rw[AD] at this;exact this
 have a3:(((w.alloc (.cells (xs.flatMap cD).toArray 51)).alloc (.cells (ys.flatMap cD).toArray 51)).alloc (.cells #[.slice (some ⟨w.heap.size,0,none⟩) xs.length xs.length,.slice (some ⟨w.heap.size+1,0,none⟩) ys.length ys.length] 52)).ownsRow base 52 1 (.slice (some ⟨w.heap.size+2,0,none⟩) 2 2) 2 [.slice (some ⟨w.heap.size,0,none⟩) xs.length xs.length,.slice (some ⟨w.heap.size+1,0,none⟩) ys.length ys.length]:=by
  have:=World.ownsRow_lit (base:=base) (e:=52) (size:=1) ((w.alloc (.cells (xs.flatMap cD).toArray 51)).alloc (.cells (ys.flatMap cD).toArray 51)) #[.slice (some ⟨w.heap.size,0,none⟩) xs.length xs.length,.slice (some ⟨w.heap.size+1,0,none⟩) ys.length ys.length] 2 (by rw[AD,AD];omega) (by unfold maxLen;omega) rfl;rw[AD,AD] at this;exact this
 have two:∀i,i<([xs,ys]:List (List Dd)).length->i=0\/i=1:=fun i hi=>by simp at hi;omega
 refine⟨a3,fun k hk=>by simp[Value.ownBlock] at hk;omega,fun i hi=>?_,fun i hi k hk=>?_,fun i hi k hk=>?_,fun i j hij hj k hk=>?_⟩
 ·
  rcases two i hi with rfl|rfl
  . exact (a1.keep ((AC.refl _).alloc _)).keep ((AC.refl _).alloc _)
  . exact a2.keep ((AC.refl _).alloc _)
 ·
  rcases two i hi with rfl|rfl
  . simp[Value.ownBlock] at hk;omega
  . simp[Value.ownBlock] at hk;omega
 ·
  rcases two i hi with rfl|rfl
  . simp[Value.ownBlock] at hk ⊢;omega
  . simp[Value.ownBlock] at hk ⊢;omega
 ·
  rcases two j hj with rfl|rfl
  . omega
  ·
   obtain rfl:i=0:=by omega
   simp[Value.ownBlock] at hk ⊢;omega
theorem Ve (w:World)(a0 a1 a2 a3 b0 b1 b2 b3 c0 c1 c2 c3 d0 d1 d2 d3 e0 e1 e2 e3:Int){W:World}(hW:W=((((w.alloc (DG a0 a1 a2 a3)).alloc (DG b0 b1 b2 b3)).alloc (DG c0 c1 c2 c3)).alloc (DG d0 d1 d2 d3)).alloc (DG e0 e1 e2 e3)):
  FY W w.heap.size a0 a1 a2 a3/\FY W (w.heap.size+1) b0 b1 b2 b3/\FY W (w.heap.size+1+1) c0 c1 c2 c3/\FY W (w.heap.size+1+1+1) d0 d1 d2 d3/\FY W (w.heap.size+1+1+1+1) e0 e1 e2 e3:=by
 subst hW;unfold FY;refine⟨?_,?_,?_,?_,?_⟩
 all_goals
  simp only[Bj,AD];repeat (first|exact if_pos rfl|exact if_pos trivial|rw[if_neg (by omega)])
theorem Mf {xs ys:List Dd}(hx:xs.length<=4)(hy:ys.length<=4):∀i,i<([xs,ys]:List (List Dd)).length->(([xs,ys]:List (List Dd)).getD i []).length<=4:=by
 intro i hi;have:i=0\/i=1:=by simp at hi;omega
 rcases this with rfl|rfl
 . exact hx
 . exact hy
theorem Ka (w:World)(B c:Nat)(hc:IU w B c):
  Calls Tryz.prog 97 #[.pointer (some ⟨c,0,none⟩)] w fun e w'=>∃v V AA,e = .returned v/\Bz w' w.heap.size w'.heap.size v V AA/\1<=AA.length/\AA.length<=3/\(∀i,i<AA.length->(AA.getD i []).length<=4)/\Dr w w' B c:=by
 have hcl:=hc.lt;have hB:=hc.1;obtain⟨q0,q1,q2,q3,q4⟩:=Ve w 2 0 1 0 2 1 1 0 1 0 0 0 1 1 0 0 4 0 0 0 rfl;have D0:=(((((Dr.refl hc).alloc (DG 2 0 1 0)).alloc (DG 2 1 1 0)).alloc (DG 1 0 0 0)).alloc (DG 1 1 0 0)).alloc (DG 4 0 0 0);go_enter Tryz.func97,Tryz.ntmps97
 go_wp2_with fail
 refine (Ao _ B c _ D0.1 (by omega)).mono ?_;rintro e w1 ⟨x,rfl,x0,x1,c1,g1⟩;have D1:=D0.step c1 g1;have hsz:=D1.2.size;have p0:=q0.kept g1 (by simp;omega);have p1:=q1.kept g1 (by simp;omega);have p2:=q2.kept g1 (by simp;omega);have p3:=q3.kept g1 (by simp;omega);have p4:=q4.kept g1 (by simp;omega);clear q0 q1 q2 q3 q4 D0 c1 g1;obtain⟨s00,s01,s02,s03⟩:=p0.cells;obtain⟨s10,s11,s12,s13⟩:=p1.cells;obtain⟨s20,s21,s22,s23⟩:=p2.cells;obtain⟨s30,s31,s32,s33⟩:=p3.cells;obtain⟨s40,s41,s42,s43⟩:=p4.cells;have l0:=p0.lt;have l1:=p1.lt;have l2:=p2.lt;have l3:=p3.lt;have l4:=p4.lt;clear p0 p1 p2 p3 p4;have hx:x=0\/x=1\/x=2\/x=3\/x=4:=by omega
 clear x0 x1;rcases hx with rfl|rfl|rfl|rfl|rfl
 ·
  go_wp2;go_ret;exact⟨_,_,_,rfl,(G9 w1 w.heap.size [(2,0,1,0),(1,1,0,0)] [(2,1,1,0),(1,0,0,0)] hsz (by simp) (by simp)).up (by rw[AD,AD,AD];omega),by simp,by simp,Mf (by simp) (by simp),((D1.alloc _).alloc _).alloc _⟩
 ·
  go_wp2;go_ret;exact⟨_,_,_,rfl,(G9 w1 w.heap.size [(2,0,1,0),(4,0,0,0),(1,1,0,0)] [(2,1,1,0),(4,0,0,0),(1,0,0,0)] hsz (by simp) (by simp)).up (by rw[AD,AD,AD];omega),by simp,by simp,Mf (by simp) (by simp),((D1.alloc _).alloc _).alloc _⟩
 ·
  go_wp2;go_ret;exact⟨_,_,_,rfl,(G9 w1 w.heap.size [(2,0,1,0),(2,1,1,0)] [(1,1,0,0),(1,0,0,0)] hsz (by simp) (by simp)).up (by rw[AD,AD,AD];omega),by simp,by simp,Mf (by simp) (by simp),((D1.alloc _).alloc _).alloc _⟩
 ·
  go_wp2;go_ret;exact⟨_,_,_,rfl,(G9 w1 w.heap.size [(2,0,1,0),(1,0,0,0),(1,1,0,0)] [(2,1,1,0),(1,1,0,0),(1,0,0,0)] hsz (by simp) (by simp)).up (by rw[AD,AD,AD];omega),by simp,by simp,Mf (by simp) (by simp),((D1.alloc _).alloc _).alloc _⟩
 ·
  go_wp2;go_ret;exact⟨_,_,_,rfl,(G9 w1 w.heap.size [(2,0,1,0),(4,0,0,0),(1,1,0,0)] [(2,1,1,0),(1,0,0,0)] hsz (by simp) (by simp)).up (by rw[AD,AD,AD];omega),by simp,by simp,Mf (by simp) (by simp),((D1.alloc _).alloc _).alloc _⟩
theorem Px (xs:List Dd):∀u,u∈xs.flatMap cD->u.oneCell'=true:=by
 intro u hu;obtain⟨d,_,hd⟩:=List.mem_flatMap.1 hu;simp[cD] at hd;rcases hd with rfl|rfl|rfl|rfl<;>rfl
theorem Dr.drew {w wr:World}{B c:Nat}(h:Dr w wr B c):Dr w wr.drew B c:=
 ⟨h.1.keep (AC.refl wr).drew,A6 h.2 ⟨rfl,rfl,rfl,Nat.le_refl _,fun _ _ _=>rfl⟩⟩
theorem UQ (w:World)(d:Dd):∀j u,(cD d)[j]? = some u->(w.alloc (.cells #[.int .i64 d.1,.int .i64 d.2.1,.int .i64 d.2.2.1,.int .i64 d.2.2.2] 51)).cell? ((⟨w.heap.size,0,none⟩:Addr).add j)=some u:=by
 intro j u hj;rw[BH,Bf _ _ _ _ j rfl];rw[<-List.getElem?_toArray] at hj;exact hj
theorem MX {AA:List (List Dd)}{es:List Dd}(h1:0<AA.length)(h3:AA.length<=3)(h4:∀i,i<AA.length->(AA.getD i []).length<=4)(he:es.length<=7):(AA.set 0 es).length<=6/\∀i,i<(AA.set 0 es).length->((AA.set 0 es).getD i []).length<=7:=by
 refine⟨by rw[List.length_set];omega,fun i hi=>?_⟩;rw[List.length_set] at hi;rw[GA AA 0 i es [] h1];split
 . exact he
 . have:=h4 i hi;omega
theorem Qu {AA:List (List Dd)}(h3:AA.length<=3)(h4:∀i,i<AA.length->(AA.getD i []).length<=4):(AA++AA).length<=6/\∀i,i<(AA++AA).length->((AA++AA).getD i []).length<=7:=by
 refine⟨by rw[List.length_append];omega,fun i hi=>?_⟩;rw[List.length_append] at hi;by_cases e:i<AA.length
 . rw[B8 AA AA i [] e];have:=h4 i e;omega
 ·
  have:(AA++AA).getD i []=AA.getD (i-AA.length) []:=by
   rw[List.getD_eq_getElem?_getD,List.getElem?_append_right (by omega),List.getD_eq_getElem?_getD]
  rw[this];have:=h4 (i-AA.length) (by omega);omega
theorem Ig (w:World)(B c:Nat)(hc:IU w B c):
  Calls Tryz.prog 68 #[.pointer (some ⟨c,0,none⟩)] w fun e w'=>∃v AA,e = .returned v/\OM w' w.heap.size v AA/\(AA.length<=6/\∀i,i<AA.length->(AA.getD i []).length<=7)/\Dr w w' B c:=by
 have hcl:=hc.lt;have hB:=hc.1;obtain⟨i0,hi,hz0,hz1,hz2⟩:=info_parts Tryz.Zz;obtain⟨j0,hj,hy0,hy1,hy2⟩:=info_parts Tryz.WO;go_enter Tryz.func68,Tryz.ntmps68
 go_wp2_with fail
 refine (R9 _ B c hc).mono ?_;rintro e w1 ⟨v1,V1,dss1,rfl,hX1,n1,n3,l4,D1⟩;go_wp2_with fail
 refine (C2 _ B c _ D1.1 (by omega)).mono ?_;rintro e w2 ⟨b,rfl,c2,g2⟩;have hX2:=(hX1.kept g2 hcl).up g2.size;have D2:=D1.step c2 g2;clear hX1 D1 c2 g2;go_upto_if 7 with fail
 go_cut [3] from 4 (fun s3 wx=>∃V AA,Bz wx w.heap.size wx.heap.size s3 V AA/\1<=AA.length/\AA.length<=3/\Hid (∀i,i<AA.length->(AA.getD i []).length<=4)/\Dr w wx B c)
 case first=>
  cases b
  ·
   go_wp2;go_meet;case rel=>exact⟨_,_,hX2,n1,n3,Lib.hid l4,D2⟩
  ·
   go_wp2_with fail
   refine (Ka _ B c D2.1).mono ?_;rintro e w3 ⟨v3,V3,dss3,rfl,hX3,m1,m3,k4,D3⟩;go_wp2;go_meet;case rel=>exact⟨_,_,hX3.low D2.2.size,m1,m3,Lib.hid k4,D2.trans D3⟩
 case rest=>
  clear hX2 D2 n1 n3 l4;obtain⟨V,AA,hX,n1,n3,l4,D2⟩:=hcut;go_wp2_with fail
  refine (C2 _ B c _ D2.1 (by omega)).mono ?_;rintro e w4 ⟨b2,rfl,c4,g4⟩;have hX4:=(hX.kept g4 hcl).up g4.size;have D4:=D2.step c4 g4;clear hX D2 c4 g4;have HN:Hid (AA.length<=6/\∀i,i<AA.length->(AA.getD i []).length<=7):=Lib.hid ⟨by omega,fun i hi=>by have:=l4.out i hi;omega⟩;cases b2
  ·
   have HR:=Lib.hid hX4.qc;go_wp2;go_ret;exact⟨_,AA,rfl,HR.out,HN.out,D4⟩
  ·
   go_wp2_with fail
   refine (Ao _ B c _ D4.1 (by omega)).mono ?_;rintro e w5 ⟨x,rfl,x0,x1,c5,g5⟩;have hX5:=(hX4.kept g5 hcl).up g5.size;have D5:=D4.step c5 g5;clear hX4 D4 c5 g5 HN;have hx:x=0\/x=1\/x=2\/x=3:=by omega
   clear x0 x1;obtain⟨g,cx,rfl,hgb,hgN,hgw,hcx,hcell,hfree⟩:=hX5.at (by omega);have d0:=hcell 0 (by omega);have f0:=hfree 0;have hA0:=hX5.each 0 (by omega);have hl0:=l4.out 0 (by omega);have hout0:∀k,(V 0).ownBlock=some k->w.heap.size<=k/\k<w5.heap.size:=hA0.lt;have i1:(0:Int)<(AA.length:Int):=by omega
   have h01:0<AA.length:=by omega
   rcases hx with rfl|rfl|rfl|rfl
   ·
    obtain⟨a5,c5,hV0⟩:=hA0.shape;have HV:=Lib.hid hV0;rw[hV0] at d0 hA0 hout0;clear hV0;obtain⟨L,hL⟩:∃L,L=AA.getD 0 []:=⟨_,rfl⟩;rw[<-hL] at d0 hA0 hl0 hout0 HV;clear hL hcell hfree;have hsz5:=D5.2.size;have D5':=D5.drew;have hX5':=hX5.keep (AC.refl w5).drew;have hA5':=hA0.keep (AC.refl w5).drew;have sO:(Value.slice a5 L.length c5).ownBlock≠some g:=fun e=>hX5.out 0 (by omega) g (by rw[HV.out];exact e) rfl
    have cg:g≠c:=by omega
    go_wp2
    go_region_law ((first
     | (refine Ds rfl (.tmp 19) (.tmp 22) 52 rfl w.heap.size 51 i0 (.agg #[.int .i64 0,.int .i64 0,.int .i64 0,.int .i64 0]) 4 32 Tryz.underlying52 hi hz0 hz1 hz2 rfl (by decide) (.slice a5 L.length c5) L.length (L.flatMap cD) (by simp[Act.eval]) (hA6.keep ((AC.refl w6).alloc (.cells #[.int .i64 kq,.int .i64 pq,.int .i64 vq,.int .i64 gq] 51))) ⟨w6.heap.size,0,none⟩ 1 1 (cD (kq,pq,vq,gq)) (by simp[Act.eval]) rfl (UQ w6 (kq,pq,vq,gq)) (Px [(kq,pq,vq,gq)]) (by unfold maxLen;omega) (by omega) (by rw[AD];omega) ?_;intro v' w7 hown' hgrow hblk;have hA7:BZ w7 w.heap.size v' (L++[(kq,pq,vq,gq)]):=G8 hown';have jD:(V 0).ownBlock=(Value.slice a5 L.length c5).ownBlock:=(by rw[HV.out]);have HR:=Lib.hid ((hX6.keep ((AC.refl w6).alloc (.cells #[.int .i64 kq,.int .i64 pq,.int .i64 vq,.int .i64 gq] 51))).first (by omega) rfl hA7 (by rw[jD];exact hgrow) (by rw[jD];exact hblk));have HS:=Lib.hid (MX (es:=L++[(kq,pq,vq,gq)]) (by omega) n3 l4.out (by simp;omega));have D7:=((D6.alloc (.cells #[.int .i64 kq,.int .i64 pq,.int .i64 vq,.int .i64 gq] 51)).grow hgrow (fun k hk=>(hout0 k hk).1) hcl hB).set hgb hcl hB 0 v';have hb7:w7.heap[g]? = w6.heap[g]?:=(hgrow.block g (by rw[AD];omega) (fun e=>sO e.symm)).trans (by rw[Bj,if_neg (by omega)]);have d7:=(Cr hb7 0).trans d6;have f7:w7.frozen? ⟨g,0,none⟩=false:=(by rw[Hg hb7 0];exact f6);have hg7:g<w7.heap.size:=Nat.lt_of_lt_of_le (by rw[AD];omega) hgrow.size;obtain⟨a7,c7,hv7⟩:=hA7.shape;generalize (L++[(kq,pq,vq,gq)]).length=n7 at hv7;subst hv7;clear hgrow hown' hblk hA7 hb7 d6 f6 hg6)
     | (go_simp;refine (Mw _ B c D5'.1).mono ?_;rintro e w6 ⟨kq,pq,vq,gq,rfl,D6'⟩;have D6:=D5'.trans D6';have hX6:=hX5'.kept D6'.2 hcl;have hA6:=hA5'.kept D6'.2 (CU hA5'.ge hcl);have hb6:w6.heap[g]? = w5.heap[g]?:=D6'.2.block g hgw (by simp;omega);have d6:=(Cr hb6 0).trans d0;have f6:w6.frozen? ⟨g,0,none⟩=false:=(by rw[Hg hb6 0];exact f0);have hg6:g<w6.heap.size:=Nat.lt_of_lt_of_le hgw D6'.2.size;have hs6:=D6.2.size;clear D6' hb6)))
    all_goals
     go_wp2;go_ret;exact⟨_,_,rfl,HR.out,HS.out,D7⟩
   ·
    have hN:Hid ((AA++AA).length<=6/\∀i,i<(AA++AA).length->((AA++AA).getD i []).length<=7):=Lib.hid (Qu n3 l4.out);have hsz5:=D5.2.size;go_wp2_with (at_builtin;refine wpList_append_own_at _ rfl _ _ 24 rfl w.heap.size 52 j0 (.slice none 0 0) 1 24 Tryz.underlying24 hj hy0 hy1 hy2 rfl (by decide) _ _ _ rfl hX5.row ⟨g,0,none⟩ AA.length cx ((List.range AA.length).map V) rfl ?b1 ?b2 ?b3 ?b4 ?b5 ?b6 ?_)
    case b1=>simp
    case b2=>
     intro j u hj;have hj':j<AA.length:=by have:=(List.getElem?_eq_some_iff.1 hj).1;simpa using this
     rw[FQ V _ j hj'] at hj;rw[BH,Nat.zero_add,hcell j hj'];exact hj
    case b3=>
     intro u hu;obtain⟨i,hi,rfl⟩:=List.mem_map.1 hu;rw[List.mem_range] at hi;obtain⟨a,cc,e⟩:=(hX5.each i hi).shape;rw[e];rfl
    case b4=>unfold maxLen;omega
    case b5=>omega
    case b6=>exact hsz5
    intro v' w6 hown' hgrow _ _;have HR:=Lib.hid (hX5.twice (by omega) hown' hgrow);have D6:=D5.grow hgrow (fun k hk=>(World.ownsRow.lt hX5.row k hk).1) hcl hB;clear hgrow hown' hX5;go_wp2;go_ret;exact⟨_,_,rfl,HR.out,hN.out,D6⟩
   ·
    go_wp2;go_ret;exact⟨_,[],rfl,⟨_,_,rfl,.inl rfl⟩,⟨by simp,by simp⟩,D5.alloc _⟩
   ·
    obtain⟨a5,c5,hV0⟩:=hA0.shape;have HV:=Lib.hid hV0;rw[hV0] at d0 hA0 hout0;clear hV0;obtain⟨L,hL⟩:∃L,L=AA.getD 0 []:=⟨_,rfl⟩;rw[<-hL] at d0 hA0 hl0 hout0 HV;clear hL hcell hfree;have hsz5:=D5.2.size;have hA1:=hA0.keep ((AC.refl w5).alloc (.cells #[.int .i64 1,.int .i64 0,.int .i64 0,.int .i64 1,.int .i64 4,.int .i64 0,.int .i64 0,.int .i64 0,.int .i64 1,.int .i64 0,.int .i64 0,.int .i64 1] 51));have hX6:=hX5.keep ((AC.refl w5).alloc (.cells #[.int .i64 1,.int .i64 0,.int .i64 0,.int .i64 1,.int .i64 4,.int .i64 0,.int .i64 0,.int .i64 0,.int .i64 1,.int .i64 0,.int .i64 0,.int .i64 1] 51));go_wp2_with (at_builtin;refine wpList_append_own_at _ rfl _ _ 52 rfl w.heap.size 51 i0 (.agg #[.int .i64 0,.int .i64 0,.int .i64 0,.int .i64 0]) 4 32 Tryz.underlying52 hi hz0 hz1 hz2 rfl (by decide) _ _ _ rfl hA1 ⟨_,0,none⟩ 3 3 (([(1,0,0,1),(4,0,0,0),(1,0,0,1)]:List Dd).flatMap cD) rfl rfl ?d1 ?d2 ?d3 ?d4 ?d5 ?_)
    case d1=>
     intro j u hj;rw[BH,Bf _ _ _ _ j rfl];rw[<-List.getElem?_toArray] at hj;exact hj
    case d2=>exact Px _
    case d3=>unfold maxLen;first|omega|(simp;omega)
    case d4=>first|omega|(simp;omega)
    case d5=>first|omega|(simp;omega)
    intro v' w6 hown' hgrow _ hblk
    have hA6:BZ w6 w.heap.size v' (L++[(1,0,0,1),(4,0,0,0),(1,0,0,1)]):=by
     unfold BZ;rw[List.flatMap_append];simpa using hown'
    have jD:(V 0).ownBlock=(Value.slice a5 L.length c5).ownBlock:=by rw[HV.out]
    have HR:=Lib.hid (hX6.first (by omega) rfl hA6 (by rw[jD];exact hgrow) (by rw[jD,AD];exact hblk));have HS:=Lib.hid (MX (es:=L++[(1,0,0,1),(4,0,0,0),(1,0,0,1)]) (by omega) n3 l4.out (by simp;omega));have D6:=(D5.alloc (.cells #[.int .i64 1,.int .i64 0,.int .i64 0,.int .i64 1,.int .i64 4,.int .i64 0,.int .i64 0,.int .i64 0,.int .i64 1,.int .i64 0,.int .i64 0,.int .i64 1] 51)).grow hgrow (fun k hk=>(hout0 k hk).1) hcl hB;have D7:=D6.set hgb hcl hB 0 v';have sO:(Value.slice a5 L.length c5).ownBlock≠some g:=fun e=>hX6.out 0 (by omega) g (by rw[jD];exact e) rfl
    have hb6:w6.heap[g]? = w5.heap[g]?:=(hgrow.block g (by rw[AD];omega) (fun e=>sO e.symm)).trans (by rw[Bj,if_neg (by omega)]);have d6:=(Cr hb6 0).trans d0;have f6:w6.frozen? ⟨g,0,none⟩=false:=by rw[<-f0];exact Hg hb6 0
    have hg6:g<w6.heap.size:=Nat.lt_of_lt_of_le (by rw[AD];omega) hgrow.size;obtain⟨a7,c7,hv7⟩:=hA6.shape;generalize (L++[(1,0,0,1),(4,0,0,0),(1,0,0,1)]).length=n7 at hv7;subst hv7;clear hgrow hown' hblk hX5 hX6 hA1 hA0 hA6 D6;go_wp2;go_ret;exact⟨_,_,rfl,HR.out,HS.out,D7⟩
theorem IU.low {w w':World}{B g:Nat}(h:IU w B g)(hs:w.heap.size<=w'.heap.size)(hh:∀q,q<=g->w'.heap[q]? = w.heap[q]?):IU w' B g:=by
 obtain⟨hB,a,cap,zs,i,x,h1,hi,h2,h3⟩:=h;refine⟨hB,a,cap,zs,i,x,(hh g (Nat.le_refl _)).trans h1,hi,h2,?_⟩;rcases h3 with h3|⟨b,off,ha,hb,hbs,hc⟩
 . exact .inl h3
 . exact .inr ⟨b,off,ha,hb,Nat.lt_of_lt_of_le hbs hs,fun j hj=>⟨(World.cell?_of_block (a:=⟨b,off+j,none⟩) (hh b (by omega))).trans (hc j hj).1,(hc j hj).2⟩⟩
theorem Dr.turn {w wr w':World}{B c:Nat}{F G:Nat->Prop}(h:Dr w wr B c)(t:Ak wr w' F G)(hF:∀q,F q->w.heap.size<=q)(hc:c<w.heap.size):Dr w w' B c:=by
 have hs:=h.2.size
 exact⟨h.1.low t.size (fun q hq=>t.block q (by omega) (fun hq2=>by have:=hF q hq2;omega)),
  t.os.trans h.2.os,t.tape.trans h.2.tape,t.output.trans h.2.output,Nat.le_trans h.2.size t.size,fun k hk hne=>(t.block k (by omega) (fun hq2=>by have:=hF k hq2;omega)).trans (h.2.block k hk hne)⟩
theorem Dr.far {w wr w':World}{B c g:Nat}(h:Dr w wr B c)(hg:wr.grownBy w' (some g))(hl:w.heap.size<=g)(hc:c<w.heap.size)(hB:B<=c):Dr w w' B c:=
  ⟨h.1.kept hg (fun e=>by have:=Option.some.inj e;omega) (fun k hk=>by have:=Option.some.inj hk;omega),
   hg.os.trans h.2.os,hg.tape.trans h.2.tape,hg.output.trans h.2.output,Nat.le_trans h.2.size hg.size,fun k hk hne=>(hg.block k (Nat.lt_of_lt_of_le hk h.2.size) (fun e=>by have:=Option.some.inj e;omega)).trans (h.2.block k hk hne)⟩
theorem Dr.keep {w wr w':World}{B c:Nat}(h:Dr w wr B c)(k:AC wr w'):Dr w w' B c:=
 ⟨h.1.keep k,A6 h.2 (⟨Below.os k,Below.tape k,Below.output k,Below.size k,fun q hq _=>Below.block k q hq⟩)⟩
def Zd (w w':World)(bv:BV)(AA:List (List Dd))(b:Bd):Prop:=
 (AW AA=false/\b=PR/\(∃v,bv=⟨v,AE,AE,AE,AE,AE,AE,AE⟩/\OM w' (w.heap.size+1) v AA)/\AA.length<=6/\∀i,i<AA.length->(AA.getD i []).length<=7) \/
 (AW AA=true/\JA AA b/\∃nv rv bs N m,BA w' m bv nv rv bs N AA b/\w.heap.size<=m/\w.heap.size<=bs)
theorem QJ (w:World)(B c:Nat)(hc:IU w B c):
  Calls Tryz.prog 75 #[.pointer (some ⟨c,0,none⟩)] w fun e w'=>∃bv AA b,e = .returned (BV.agg bv)/\Dr w w' B c/\Zd w w' bv AA b:=by
 have hcl:=hc.lt;have hB:=hc.1;have D0:Dr w (w.alloc (.cells #[AE,AE,AE,AE,AE,AE,AE,AE] 30)) B c:=(Dr.refl hc).alloc _;have H0:(w.alloc (.cells #[AE,AE,AE,AE,AE,AE,AE,AE] 30)).heap[w.heap.size]? = some (.cells #[AE,AE,AE,AE,AE,AE,AE,AE] 30 (0,0)):=heap_alloc_new w _;have y0:w.heap.size<(w.alloc (.cells #[AE,AE,AE,AE,AE,AE,AE,AE] 30)).heap.size:=by rw[AD];omega
 go_enter Tryz.func75,Tryz.ntmps75
 go_wp2_with fail
 refine (Ig _ B c D0.1).mono ?_;rintro e w1 ⟨v,AA,rfl,rx,⟨q1,q2⟩,d1⟩;have D1:Dr w w1 B c:=D0.step d1.1 d1.2;have hR1:=(d1.2.block w.heap.size y0 (fun e=>by have:=Option.some.inj e;omega)).trans H0;have y1:=d1.2.size;have hx:AA.length<=1048576:=by omega
 have hm:∀i,i<AA.length->(AA.getD i []).length<=1048576:=fun i hi=>by have:=q2 i hi;omega
 have rd1:=rx.rd;have rV1:w.heap.size<w1.heap.size:=by omega
 have rJ:=rx;clear D0 H0 d1 rx;obtain⟨av,cv,rfl,-⟩:=id rd1;have C:=C4 w1 _ AA rd1 hx hm;go_wp2_with fail
 refine C.mono ?_;rintro e w2 ⟨rfl,k2⟩;have D2:=D1.keep k2;have hR2:=(Below.block k2 w.heap.size rV1).trans hR1;have rd2:=rd1.keep k2;have s2:=k2.size;have RW:Hid (Ic w2 (.slice av AA.length cv) AA):=Lib.hid rd2;rw[AD] at rJ;have RX:=Lib.hid (rJ.keep k2);clear rJ;clear D1 hR1 rd1 k2 C rd2;cases hb:AW AA
 ·
  have HG:=Lib.hid (AV w2 w.heap.size #[.slice av AA.length cv,AE,AE,AE,AE,AE,AE,AE]);have HZ:=Lib.hid (setRow_heap w2 w.heap.size _ #[.slice av AA.length cv,AE,AE,AE,AE,AE,AE,AE] _ _ hR2);have HD:Hid (Dr w (w2.setRow w.heap.size #[.slice av AA.length cv,AE,AE,AE,AE,AE,AE,AE]) B c):=Lib.hid (D2.far HG.out (by omega) hcl hB);have HW:=Lib.hid (RX.out.kept HG.out (by omega));clear D2 RW;go_wp2_with (first|refine wpList_store_row rfl 30 _ _ rfl w.heap.size _ rfl rfl 30 _ hR2 AF rfl (by simp[Value.oneCell']) ?_|fail)
  refine bodyPost_ret (Ac (by rfl) _ _ w.heap.size _ _ (0,0) _ rfl HZ.out Tryz.underlying30 rfl AF) rfl ?_;exact⟨⟨.slice av AA.length cv,AE,AE,AE,AE,AE,AE,AE⟩,AA,PR,rfl,HD.out,.inl ⟨hb,rfl,⟨_,rfl,HW.out⟩,q1,q2⟩⟩
 ·
  have R0:JA AA (Bq AA):=JA.new hb;go_wp2_with fail
  refine (Iv _ _ _ RW.out hb).mono ?_;rintro e w3 ⟨bv,nv,rv,bs,N,rfl,hV,hbs,k3⟩;obtain⟨aW,aP,aL,aN,aX,aT,aF,aR,cW,cP,cL,cN',cX,cT,cF,cR,rfl⟩:=hV.rd0.shapes;have H4:=hV.box k3.size;have D3:=D2.keep k3;have hR3:=(Below.block k3 w.heap.size (by omega)).trans hR2;have s3:=k3.size;generalize Bq AA=nb at *;go_upto_region 5 with fail
  obtain⟨w4,hw4⟩:∃W:World,W=w3.alloc (.cells #[.slice aW AA.length cW,.slice aP nb.AM.length cP,.slice aL nb.AQ.length cL,.slice aN nb.AH.length cN',.slice aX nb.AL.length cX,.slice aT nb.sn.length cT,.slice aF nb.fr.length cF,.slice aR nb.rws.length cR] 30):=⟨_,rfl⟩;have k4:AC w3 w4:=by rw[hw4];exact (AC.refl w3).alloc _
  have H4:AR w4 w2.heap.size w3.heap.size ⟨.slice aW AA.length cW,.slice aP nb.AM.length cP,.slice aL nb.AQ.length cL,.slice aN nb.AH.length cN',.slice aX nb.AL.length cX,.slice aT nb.sn.length cT,.slice aF nb.fr.length cF,.slice aR nb.rws.length cR⟩ nv rv bs N AA nb:=by rw[hw4];exact H4
  rw[<-hw4];clear hw4 hV;have D4:=D3.keep k4;have hR4:=(Below.block k4 w.heap.size (by omega)).trans hR3;have s4:=k4.size;have hm0:w.heap.size<=w2.heap.size:=by omega
  have hmb:w.heap.size<=bs:=by omega
  have hRm:w.heap.size<w2.heap.size:=by omega
  have hRb:w.heap.size<bs:=by omega
  have hcR:c<w.heap.size:=by omega
  generalize w2.heap.size=m at *;generalize w3.heap.size=D at *;clear D2 D3 hR2 hR3 k3 k4 RW;go_wp2_with fail
  refine (Ao _ B c 16 D4.1 (by omega)).mono ?_;rintro e w5 ⟨x,rfl,x0,x1,KX,g5⟩;have D5:Dr w w5 B c:=D4.step KX g5;have H5:=H4.far g5 (fun k hk=>by have:=Option.some.inj hk;omega);have hR5:=(g5.block w.heap.size (by have:=H4.base;omega) (fun e=>by have:=Option.some.inj e;omega)).trans hR4;clear D4 H4 hR4 KX g5;obtain⟨x',hx'⟩:=Int.eq_ofNat_of_zero_le x0;subst hx';go_wp2;go_loopw [5] (fun i wr=>∃(k:Nat) (nv' rv':List Value) (b':Bd),k<=16/\i = .int .i64 k/\AR wr m D ⟨.slice aW AA.length cW,.slice aP nb.AM.length cP,.slice aL nb.AQ.length cL,.slice aN nb.AH.length cN',.slice aX nb.AL.length cX,.slice aT nb.sn.length cT,.slice aF nb.fr.length cF,.slice aR nb.rws.length cR⟩ nv' rv' bs N AA b'/\JA AA b'/\Dr w wr B c/\wr.heap[w.heap.size]? = some (.cells #[AE,AE,AE,AE,AE,AE,AE,AE] 30 (0,0))) (fun i _=>(intOf i).toNat)
  case atStart=>exact⟨x',nv,rv,nb,by omega,rfl,H5,R0,D5,hR5⟩
  case round=>
   obtain⟨k,nv',rv',b',hk,rfl,H,RN,EX,hR⟩:=hrel;clear H5 R0 D5 hR5;by_cases hk0:k=0
   ·
    subst hk0;have Bh:=H.B6;simp only[BV.arr] at Bh;have HG:=Lib.hid (AV wr w.heap.size #[.slice aW AA.length cW,.slice aP nb.AM.length cP,.slice aL nb.AQ.length cL,.slice aN nb.AH.length cN',.slice aX nb.AL.length cX,.slice aT nb.sn.length cT,.slice aF nb.fr.length cF,.slice aR nb.rws.length cR]);have HZ:=Lib.hid (setRow_heap wr w.heap.size _ #[.slice aW AA.length cW,.slice aP nb.AM.length cP,.slice aL nb.AQ.length cL,.slice aN nb.AH.length cN',.slice aX nb.AL.length cX,.slice aT nb.sn.length cT,.slice aF nb.fr.length cF,.slice aR nb.rws.length cR] _ _ hR);have HO:Hid (BA (wr.setRow w.heap.size #[.slice aW AA.length cW,.slice aP nb.AM.length cP,.slice aL nb.AQ.length cL,.slice aN nb.AH.length cN',.slice aX nb.AL.length cX,.slice aT nb.sn.length cT,.slice aF nb.fr.length cF,.slice aR nb.rws.length cR]) m ⟨.slice aW AA.length cW,.slice aP nb.AM.length cP,.slice aL nb.AQ.length cL,.slice aN nb.AH.length cN',.slice aX nb.AL.length cX,.slice aT nb.sn.length cT,.slice aF nb.fr.length cF,.slice aR nb.rws.length cR⟩ nv' rv' bs N AA b'):=Lib.hid ((H.far HG.out (fun g hg=>by have:=Option.some.inj hg;omega)).val);have HD:Hid (Dr w (wr.setRow w.heap.size #[.slice aW AA.length cW,.slice aP nb.AM.length cP,.slice aL nb.AQ.length cL,.slice aN nb.AH.length cN',.slice aX nb.AL.length cX,.slice aT nb.sn.length cT,.slice aF nb.fr.length cF,.slice aR nb.rws.length cR]) B c):=Lib.hid (EX.far HG.out (by omega) hcl hB);go_wp2_with (first|refine wpList_load_row rfl 30 _ rfl D rfl 30 _ (0,0) _ Bh Tryz.underlying30 rfl AF ?_|refine wpList_store_row rfl 30 _ _ rfl w.heap.size _ rfl rfl 30 _ hR AF rfl (by simp[Value.oneCell']) ?_)
    refine bodyPost_ret (Ac (by rfl) _ _ w.heap.size _ _ (0,0) _ rfl HZ.out Tryz.underlying30 rfl AF) rfl ?_;exact⟨⟨.slice aW AA.length cW,.slice aP nb.AM.length cP,.slice aL nb.AQ.length cL,.slice aN nb.AH.length cN',.slice aX nb.AL.length cX,.slice aT nb.sn.length cT,.slice aF nb.fr.length cF,.slice aR nb.rws.length cR⟩,AA,b',rfl,HD.out,.inr ⟨hb,RN,nv',rv',bs,N,m,HO.out,hm0,hmb⟩⟩
   ·
    have kp:(0:Int)<(k:Int):=by omega
    have Lr:=RN.board hb;have PS:=Nr Lr;have CP:=Cp wr _ AA b' H.rd PS
    have hpl:(Ae AA b').length<=1048576:=by
     rw[<-Ew,List.length_append];have:=FE AA b' AA.length;have:=IG b' AA.length;have:=PS.m;have:=(As hb).1;omega
    have Bh:=H.B6;simp only[BV.arr] at Bh;go_wp2_with (first|refine wpList_load_row rfl 30 _ rfl D rfl 30 _ (0,0) _ Bh Tryz.underlying30 rfl AF ?_|fail)
    refine CP.mono ?_;rintro e w6 ⟨vp,rfl,op,k6⟩;have szr:=EX.2.size;have H6:=H.keep k6;have D6:=EX.keep k6;have hR6:=(Below.block k6 w.heap.size (by have:=H.base;omega)).trans hR;clear CP Bh H EX hR k6;have rp:=op.rd;obtain⟨ap,cp,rfl,-⟩:=id rp;by_cases hp0:(Ae AA b').length=0
    ·
     have hp1:((Ae AA b').length:Int)=0:=by omega
     have H:=H6;have EX:=D6;have hR:=hR6;clear H6 D6 hR6 rp op;obtain⟨wr,hwr⟩:∃W:World,W=w6:=⟨_,rfl⟩;subst hwr;have Bh:=H.B6;simp only[BV.arr] at Bh;have HG:=Lib.hid (AV wr w.heap.size #[.slice aW AA.length cW,.slice aP nb.AM.length cP,.slice aL nb.AQ.length cL,.slice aN nb.AH.length cN',.slice aX nb.AL.length cX,.slice aT nb.sn.length cT,.slice aF nb.fr.length cF,.slice aR nb.rws.length cR]);have HZ:=Lib.hid (setRow_heap wr w.heap.size _ #[.slice aW AA.length cW,.slice aP nb.AM.length cP,.slice aL nb.AQ.length cL,.slice aN nb.AH.length cN',.slice aX nb.AL.length cX,.slice aT nb.sn.length cT,.slice aF nb.fr.length cF,.slice aR nb.rws.length cR] _ _ hR);have HO:Hid (BA (wr.setRow w.heap.size #[.slice aW AA.length cW,.slice aP nb.AM.length cP,.slice aL nb.AQ.length cL,.slice aN nb.AH.length cN',.slice aX nb.AL.length cX,.slice aT nb.sn.length cT,.slice aF nb.fr.length cF,.slice aR nb.rws.length cR]) m ⟨.slice aW AA.length cW,.slice aP nb.AM.length cP,.slice aL nb.AQ.length cL,.slice aN nb.AH.length cN',.slice aX nb.AL.length cX,.slice aT nb.sn.length cT,.slice aF nb.fr.length cF,.slice aR nb.rws.length cR⟩ nv' rv' bs N AA b'):=Lib.hid ((H.far HG.out (fun g hg=>by have:=Option.some.inj hg;omega)).val);have HD:Hid (Dr w (wr.setRow w.heap.size #[.slice aW AA.length cW,.slice aP nb.AM.length cP,.slice aL nb.AQ.length cL,.slice aN nb.AH.length cN',.slice aX nb.AL.length cX,.slice aT nb.sn.length cT,.slice aF nb.fr.length cF,.slice aR nb.rws.length cR]) B c):=Lib.hid (EX.far HG.out (by omega) hcl hB);go_wp2_with (first|refine wpList_load_row rfl 30 _ rfl D rfl 30 _ (0,0) _ Bh Tryz.underlying30 rfl AF ?_|refine wpList_store_row rfl 30 _ _ rfl w.heap.size _ rfl rfl 30 _ hR AF rfl (by simp[Value.oneCell']) ?_)
     refine bodyPost_ret (Ac (by rfl) _ _ w.heap.size _ _ (0,0) _ rfl HZ.out Tryz.underlying30 rfl AF) rfl ?_;exact⟨⟨.slice aW AA.length cW,.slice aP nb.AM.length cP,.slice aL nb.AQ.length cL,.slice aN nb.AH.length cN',.slice aX nb.AL.length cX,.slice aT nb.sn.length cT,.slice aF nb.fr.length cF,.slice aR nb.rws.length cR⟩,AA,b',rfl,HD.out,.inr ⟨hb,RN,nv',rv',bs,N,m,HO.out,hm0,hmb⟩⟩
    ·
     have hp1:¬((Ae AA b').length:Int)=0:=by omega
     have hpp:(1:Int)<=((Ae AA b').length:Int):=by omega
     have cur6:=D6.1;go_wp2_with fail
     refine (Ao _ B c _ cur6 hpp).mono ?_;rintro e w7 ⟨y,rfl,y0',y1',UA,g7⟩;have D7:Dr w w7 B c:=D6.step UA g7;have H7:=H6.far g7 (fun k hk=>by have:=Option.some.inj hk;omega);have hR7:=(g7.block w.heap.size (by have:=H6.base;omega) (fun e=>by have:=Option.some.inj e;omega)).trans hR6;have hpc:c<w6.heap.size:=cur6.lt;obtain⟨y',hy'⟩:=Int.eq_ofNat_of_zero_le y0';subst hy';have hyl:y'<(Ae AA b').length:=by omega
     obtain⟨a',c',e',hq⟩:=id rp;simp only[Value.slice.injEq,true_and] at e';obtain⟨rfl,rfl⟩:=e';rcases hq with h0|⟨bp,uO,rfl,hbp,hcp⟩
     . exfalso;rw[h0] at hyl;simp at hyl
     have tV:bp≠c:=fun e=>by have:=op.ge bp rfl;omega
     have dp:w7.cell? ⟨bp,uO+y',none⟩=some (.int .i64 ((Ae AA b').getD y' 0)):=(World.cell?_of_block (a:=⟨bp,uO+y',none⟩) (g7.block bp hbp (fun e=>tV (Option.some.inj e)))).trans (hcp y' hyl)
     have hst:Dx (Ae AA b') ((Ae AA b').getD y' 0)=true:=JW (by
      rw[List.getD_eq_getElem?_getD,List.getElem?_eq_getElem hyl]
      exact List.getElem_mem hyl)
     have CS:=Ff w7 m D _ nv' rv' bs N AA b' ((Ae AA b').getD y' 0) H7 Lr hst;have pO:=RN.step hb hst;have F7:∀q,BG D ⟨.slice aW AA.length cW,.slice aP nb.AM.length cP,.slice aL nb.AQ.length cL,.slice aN nb.AH.length cN',.slice aX nb.AL.length cX,.slice aT nb.sn.length cT,.slice aF nb.fr.length cF,.slice aR nb.rws.length cR⟩ nv' rv' q->w.heap.size<=q:=fun q hq=>by have:=(H7.blk q hq).1;omega
     have NR:¬BG D ⟨.slice aW AA.length cW,.slice aP nb.AM.length cP,.slice aL nb.AQ.length cL,.slice aN nb.AH.length cN',.slice aX nb.AL.length cX,.slice aT nb.sn.length cT,.slice aF nb.fr.length cF,.slice aR nb.rws.length cR⟩ nv' rv' w.heap.size:=fun hq=>by have:=(H7.blk w.heap.size hq).1;omega
     have zR:w.heap.size<w7.heap.size:=by have:=H7.base;omega
     generalize (Ae AA b').getD y' 0=st at *;clear H6 D6 hR6 rp op hcp UA g7 hbp;go_wp2_with fail
     refine CS.mono ?_;rintro e w8 ⟨rfl,nv8,rv8,H8,T8⟩;have D8:=D7.turn T8 F7 hcl;have hR8:=(T8.block w.heap.size zR NR).trans hR7;clear CS D7 H7 hR7 T8 dp;go_wp2;go_roundw;case rel=>exact⟨k-1,nv8,rv8,_,by omega,by go_num,H8,pO,D8,hR8⟩
     case measure=>simp[intOf];omega
end Go.Proofs.YtgakfkjjkobpiaaGreat
