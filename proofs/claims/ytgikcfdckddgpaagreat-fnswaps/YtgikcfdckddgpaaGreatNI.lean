/- Gathered texts. -/
import Derived.Test.YtgikcfdckddgpaaGreatMM
import Derived.BigRegion
set_option maxRecDepth 100000
set_option maxHeartbeats 8000000
namespace Go.Proofs.YtgikcfdckddgpaaGreat
open Go.ChangeShapes Go.WideShapes Go.ChangeAt Go.RowKit
theorem appW_empty (w:World):AppW (w.alloc (.cells #[] 45)) w.heap.size (.slice (some ⟨w.heap.size,0,none⟩) 0 0) []:=
 ⟨[],rfl,World.ownsRow_lit w #[] 0 (Nat.le_refl _) (by decide) rfl,by simp,by simp,by simp⟩
theorem appD_empty (w:World):AppD (w.alloc (.cells #[] 50)) w.heap.size (.slice (some ⟨w.heap.size,0,none⟩) 0 0) []:=
 World.ownsRow_lit w #[] 0 (Nat.le_refl _) (by decide) rfl
theorem map_more (dss:List (List Dd))(k:Nat)(h:k<dss.length):(dss.take (k+1)).map waitC=(dss.take k).map waitC++[waitC (dss.getD k [])]:=by
 rw[take_moreW dss k [] h,List.map_append];rfl
theorem specWaited_any (w:World)(v:Value)(dss:List (List Dd))(h:RdW w v dss)(hx:dss.length≤1048576)(hm:∀i,i<dss.length→(dss.getD i []).length≤1048576):
  Calls Tryz.prog 37 #[v] w fun e w'=>∃v',e = .returned v'∧OwnW w' w.heap.size v' (waitB dss)∧Keep w w':=by
 have a0:=appW_empty w;cases hb:workB dss
 ·
  have HE:Hid (waitB dss=[]):=Lib.hid (by rw[waitB,hb];rfl);go_enter Tryz.func37,Tryz.ntmps37
  go_wp2_with fail
  refine (specWorkOk_any _ _ _ (h.keep ((Keep.refl w).alloc _)) hx hm).mono ?_;rintro e w1 ⟨rfl,k1⟩;have a1:=a0.keep k1;go_wp2;go_ret;exact⟨_,rfl,by rw[HE.out];exact a1.ownW,((Keep.refl w).alloc _).trans k1⟩
 ·
  obtain⟨u1,u2⟩:dss.length≤3∧∀i,i<dss.length→(dss.getD i []).length≤5:=by
   simp only[workB,Bool.and_eq_true,decide_eq_true_eq] at hb;obtain⟨⟨⟨⟨h1,h2⟩,_⟩,_⟩,_⟩:=hb;exact⟨h1.2,fun i hi=>by have:=all_get [] h2 i hi;simp only[okL,Bool.and_eq_true,decide_eq_true_eq] at this;exact this.2⟩
  have HE:Hid (waitB dss=if workB (waitW dss)=true then waitW dss else []):=Lib.hid (by rw[waitB,if_pos hb]);clear hx hm;obtain⟨i0,hi,hz0,hz1,hz2⟩:=info_parts Tryz.infoD;obtain⟨j0,hj,hy0,hy1,hy2⟩:=info_parts Tryz.infoDS;go_enter Tryz.func37,Tryz.ntmps37
  go_wp2_with fail
  refine (specWorkOk_any _ _ _ (h.keep ((Keep.refl w).alloc _)) (by omega) (fun i hi=>by have:=u2 i hi;omega)).mono ?_;rintro e w1 ⟨rfl,k1⟩;have a1:=a0.keep k1;have k1:=((Keep.refl w).alloc _).trans k1;clear a0;obtain⟨a,c,rfl,h⟩:=h;go_wp2;go_loopw [3,4] (fun v i wr=>∃k:Nat,k≤dss.length∧i = .int .i64 k∧AppW wr w.heap.size v ((dss.take k).map waitC)∧Keep w wr) (fun _ i _=>dss.length-(intOf i).toNat)
  case atStart=>exact⟨0,Nat.zero_le _,rfl,a1,k1⟩
  case round=>
   obtain⟨k,hk,rfl,ho,hK⟩:=hrel;clear a1 k1;by_cases hlt:k<dss.length
   ·
    rcases h with h|⟨b,o,rfl,hb,hc⟩
    · exfalso;rw[h] at hlt;simp at hlt
    obtain⟨u,e1,r1⟩:=hc k hlt;have hl5:=u2 k hlt;have HO:Hid ((dss.take (k+1)).map waitC=(dss.take k).map waitC++[waitC (dss.getD k [])]):=Lib.hid (map_more dss k hlt);clear hc;obtain⟨ds,hds⟩:∃ds,ds=dss.getD k []:=⟨_,rfl⟩;rw[←hds] at r1 hl5 HO;clear hds;obtain⟨ai,ci,rfl,r1⟩:=r1;have d1:=(hK.cell hb).trans e1;have i1:(0:Int)≤(k:Int):=Int.natCast_nonneg _;have i2:(k:Int)<(dss.length:Int):=by omega
    have ad0:=appD_empty wr;go_wp2;obtain⟨wo,hwo⟩:∃wo:World,wo=wr:=⟨_,rfl⟩;subst hwo;go_loopw [5,6] (fun x i wq=>∃q:Nat,q≤ds.length∧i = .int .i64 q∧AppD wq wo.heap.size x (waitK ds q)∧Keep wo wq) (fun _ i _=>ds.length-(intOf i).toNat)
    case atStart=>exact⟨0,Nat.zero_le _,rfl,ad0,(Keep.refl wo).alloc _⟩
    case round=>
     obtain⟨q,hq,rfl,hA,hQ⟩:=hrel;clear ad0;have d1:=((hK.trans hQ).cell hb).trans e1;by_cases hlq:q<ds.length
     ·
      rcases r1 with h|⟨b2,o2,rfl,hb2,hc2⟩
      · exfalso;rw[h] at hlq;simp at hlq
      have AT:=(hc2 q hlq).keep hb2 (hK.trans hQ);clear hc2;have hbq:b<wr.heap.size:=Nat.lt_of_lt_of_le hb (hK.trans hQ).size;have hb3:b2<wr.heap.size:=Nat.lt_of_lt_of_le hb2 (hK.trans hQ).size;have j1:(0:Int)≤(q:Int):=Int.natCast_nonneg _;have j2:(q:Int)<(ds.length:Int):=by omega
      have W4:(ds.getD q zD).1=4→Hid (waitK ds (q+1)=waitK ds q):=fun e=>Lib.hid (by rw[waitK,if_pos e])
      have W1:(ds.getD q zD).1≠4→waitK ds q=[]→Hid (waitK ds (q+1)=[bareD (ds.getD q zD)]):=fun e e2=>Lib.hid (by rw[waitK,if_neg e,if_pos e2])
      have W2:(ds.getD q zD).1≠4→waitK ds q≠[]→Hid (waitK ds (q+1)=waitK ds q++[waitD]++[bareD (ds.getD q zD)]):=fun e e2=>Lib.hid (by rw[waitK,if_neg e,if_neg e2])
      obtain⟨d,hd⟩:∃d,d=ds.getD q zD:=⟨_,rfl⟩;rw[←hd] at AT W4 W1 W2;clear hd;obtain⟨x0,x1,x2,x3⟩:=d;obtain⟨A0,A1,A2,A3⟩:=AT;simp only[bareD] at A0 A1 A2 A3 W4 W1 W2;have wl:=waitK_len ds q;by_cases x4:x0=4
      ·
       have HW:=W4 x4;clear W4 W1 W2;have ex:(x0==4)=true:=by simp[x4]
       clear x4;go_wp2;go_roundw;case rel=>exact⟨q+1,by omega,by go_num,by rw[HW.out];exact hA.keep ((Keep.refl wr).alloc _),hQ.alloc _⟩
       case measure=>simp[intOf];omega
      ·
       have ex:(x0==4)=false:=by simp[x4]
       by_cases l0:waitK ds q=[]
       ·
        have HW:=W1 x4 l0;clear W4 W1 W2 x4;obtain⟨L,hL⟩:∃L,L=waitK ds q:=⟨_,rfl⟩;rw[←hL] at hA l0 wl;clear hL;subst l0;obtain⟨a5,c5,rfl⟩:=hA.shape;have hsz:=hQ.size;go_wp2_with (at_builtin;refine wpList_append_own_at _ rfl _ _ 45 rfl wo.heap.size 50 i0 (.agg #[.int .i64 0,.int .i64 0,.int .i64 0,.int .i64 0]) 4 32 Tryz.underlying45 hi hz0 hz1 hz2 rfl (by decide) _ _ _ rfl (hA.keep (((Keep.refl wr).alloc _).alloc _)) ⟨_,0,none⟩ 1 1 (cD (x0,x1,x2,0)) rfl rfl ?c1 ?c2 ?c3 ?c4 ?c5 ?_)
        case c1=>
         intro j u hj
         match j,hj with
         | 0,hj=>simp[cD] at hj;subst hj;simp[Addr.add]
         | 1,hj=>simp[cD] at hj;subst hj;simp[Addr.add]
         | 2,hj=>simp[cD] at hj;subst hj;simp[Addr.add]
         | 3,hj=>simp[cD] at hj;subst hj;simp[Addr.add]
         |n+4,hj=>simp[cD] at hj
        case c2=>intro u hu;simp[cD] at hu;rcases hu with rfl|rfl|rfl|rfl<;>rfl
        case c3=>unfold maxLen;first|(simp;done)|omega|(simp;omega)
        case c4=>first|(simp;done)|omega|(simp;omega)
        case c5=>first|(simp;done)|omega|(simp;omega)
        intro v' w2 hown' hgrow _ _;have hA2:AppD w2 wo.heap.size v' [(x0,x1,x2,0)]:=appD_hit (ds:=[]) hown';have hQ2:Keep wo w2:=((hQ.alloc _).alloc _).grown hgrow hA.ge;clear hgrow hown' hA hQ;go_wp2;go_roundw;case rel=>exact⟨q+1,by omega,by go_num,by rw[HW.out];exact hA2,hQ2⟩
        case measure=>simp[intOf];omega
       ·
        have HW:=W2 x4 l0;clear W4 W1 W2 x4;obtain⟨L,hL⟩:∃L,L=waitK ds q:=⟨_,rfl⟩;rw[←hL] at hA l0 wl HW;clear hL;have lp:0<L.length:=List.length_pos_iff.2 l0;clear l0;obtain⟨a5,c5,rfl⟩:=hA.shape;have hsz:=hQ.size;go_wp2_with (at_builtin;refine wpList_append_own_at _ rfl _ _ 45 rfl wo.heap.size 50 i0 (.agg #[.int .i64 0,.int .i64 0,.int .i64 0,.int .i64 0]) 4 32 Tryz.underlying45 hi hz0 hz1 hz2 rfl (by decide) _ _ _ rfl (hA.keep (((Keep.refl wr).alloc _).alloc _)) ⟨_,0,none⟩ 1 1 (cD (4,0,0,0)) rfl rfl ?c1 ?c2 ?c3 ?c4 ?c5 ?_)
        case c1=>
         intro j u hj
         match j,hj with
         | 0,hj=>simp[cD] at hj;subst hj;simp[Addr.add]
         | 1,hj=>simp[cD] at hj;subst hj;simp[Addr.add]
         | 2,hj=>simp[cD] at hj;subst hj;simp[Addr.add]
         | 3,hj=>simp[cD] at hj;subst hj;simp[Addr.add]
         |n+4,hj=>simp[cD] at hj
        case c2=>intro u hu;simp[cD] at hu;rcases hu with rfl|rfl|rfl|rfl<;>rfl
        case c3=>unfold maxLen;first|(simp;done)|omega|(simp;omega)
        case c4=>first|(simp;done)|omega|(simp;omega)
        case c5=>first|(simp;done)|omega|(simp;omega)
        intro v' w2 hown' hgrow _ _;have hA2:AppD w2 wo.heap.size v' (L++[waitD]):=appD_hit hown';have hQ2:Keep wo w2:=((hQ.alloc _).alloc _).grown hgrow hA.ge
        have hbox:w2.heap[wr.heap.size]? = some (.cells #[.int .i64 x0,.int .i64 x1,.int .i64 x2,.int .i64 0] 50):=
         (hgrow.block wr.heap.size (by rw[heap_size,heap_size];omega) (fun e=>by have:=(World.ownsRow.lt hA _ e.symm).2;omega)).trans (by rw[heap_at,if_neg (by rw[heap_size];omega),heap_at,if_pos rfl])
        have b0:w2.cell? ⟨wr.heap.size,0,none⟩=some (.int .i64 x0):=by rw[cell_of_row w2 _ 0 _ _ (0,0) hbox];rfl
        have b1:w2.cell? ⟨wr.heap.size,1,none⟩=some (.int .i64 x1):=by rw[cell_of_row w2 _ 1 _ _ (0,0) hbox];rfl
        have b2':w2.cell? ⟨wr.heap.size,2,none⟩=some (.int .i64 x2):=by rw[cell_of_row w2 _ 2 _ _ (0,0) hbox];rfl
        have b3:w2.cell? ⟨wr.heap.size,3,none⟩=some (.int .i64 0):=by rw[cell_of_row w2 _ 3 _ _ (0,0) hbox];rfl
        clear hgrow hown' hA hQ hbox A0 A1 A2 A3 d1;have hsz2:=hQ2.size;go_wp2_with (at_builtin;refine wpList_append_own_at _ rfl _ _ 45 rfl wo.heap.size 50 i0 (.agg #[.int .i64 0,.int .i64 0,.int .i64 0,.int .i64 0]) 4 32 Tryz.underlying45 hi hz0 hz1 hz2 rfl (by decide) _ _ _ rfl (hA2.keep ((Keep.refl w2).alloc _)) ⟨_,0,none⟩ 1 1 (cD (x0,x1,x2,0)) rfl rfl ?c1 ?c2 ?c3 ?c4 ?c5 ?_)
        case c1=>
         intro j u hj
         match j,hj with
         | 0,hj=>simp[cD] at hj;subst hj;simp[Addr.add]
         | 1,hj=>simp[cD] at hj;subst hj;simp[Addr.add]
         | 2,hj=>simp[cD] at hj;subst hj;simp[Addr.add]
         | 3,hj=>simp[cD] at hj;subst hj;simp[Addr.add]
         |n+4,hj=>simp[cD] at hj
        case c2=>intro u hu;simp[cD] at hu;rcases hu with rfl|rfl|rfl|rfl<;>rfl
        case c3=>unfold maxLen;first|(simp;done)|omega|(simp;omega)
        case c4=>first|(simp;done)|omega|(simp;omega)
        case c5=>first|(simp;done)|omega|(simp;omega)
        intro v'' w3 hown' hgrow _ _;have hA3:AppD w3 wo.heap.size v'' (L++[waitD]++[(x0,x1,x2,0)]):=appD_hit (by simpa using hown');have hQ3:Keep wo w3:=(hQ2.alloc _).grown hgrow hA2.ge;clear hgrow hown' hA2 hQ2;go_wp2;go_roundw;case rel=>exact⟨q+1,by omega,by go_num,by rw[HW.out];exact hA3,hQ3⟩
        case measure=>simp[intOf];omega
     ·
      obtain rfl:q=ds.length:=by omega
      have HO2:Hid ((dss.take (k+1)).map waitC=(dss.take k).map waitC++[waitK ds ds.length]):=HO;have wl:=waitK_len ds ds.length;have hlen:((dss.take k).map waitC).length=k:=by simp;omega
      generalize (dss.take k).map waitC=D at ho hlen HO2;generalize waitK ds ds.length=L at hA HO2 wl;clear HO;obtain⟨vs,hvs,hov,h3,h4,h5⟩:=ho;obtain⟨a5,c5,rfl⟩:=hA.shape;have hsz:=hQ.size;have hsz2:=hK.size;have hov2:=World.ownsRow.kept hov (hQ.alloc (.cells #[.slice a5 L.length c5] 45)).grownBy (by cases u3.ownBlock<;>simp);go_wp2_with (at_builtin;refine wpList_append_own_at _ rfl _ _ 24 rfl w.heap.size 45 j0 (.slice none 0 0) 1 24 Tryz.underlying24 hj hy0 hy1 hy2 rfl (by decide) _ _ _ rfl hov2 ⟨_,0,none⟩ 1 1 [.slice a5 L.length c5] rfl rfl ?c1 ?c2 ?c3 ?c4 ?c5 ?_)
      case c1=>
       intro j u hj
       match j,hj with
       | 0,hj=>simp at hj;subst hj;simp[Addr.add]
      case c2=>intro u hu;simp at hu;subst hu;rfl
      case c3=>unfold maxLen;omega
      case c4=>omega
      case c5=>simp;omega
      intro v' w2 hown' hgrow _ hblk;have hP:AppW w2 w.heap.size v' (D++[L]):=AppW.push hvs hov h3 h4 h5 (hQ.alloc _) (Nat.le_refl _) hsz2 (hA.ownD.keep ((Keep.refl wr).alloc _)) (by rw[hlen];exact hown') hgrow (by rw[heap_size];exact hblk);have hK2:Keep w w2:=((hK.trans hQ).alloc _).grown hgrow (fun g hg=>(World.ownsRow.lt hov g hg).1);clear hgrow hown' hblk hov2 h3 h4 h5 hov hA;go_wp2;go_roundw;case rel=>exact⟨k+1,by omega,by go_num,by rw[HO2.out];exact hP,hK2⟩
      case measure=>simp[intOf];omega
   ·
    obtain rfl:k=dss.length:=by omega
    rw[List.take_length] at ho;have ho:AppW wr w.heap.size u3 (waitW dss):=ho;have wl:(waitW dss).length≤3:=by simp[waitW];omega
    have wm:∀i,i<(waitW dss).length→((waitW dss).getD i []).length≤1048576:=by
     intro i hi;have hi':i<dss.length:=by simpa [waitW] using hi
     have e1:(waitW dss).getD i []=waitC (dss.getD i []):=by
      rw[waitW,List.getD_eq_getElem?_getD,List.getElem?_map,List.getD_eq_getElem?_getD,List.getElem?_eq_getElem hi'];rfl
     rw[e1,waitC];have e2:=waitK_len (dss.getD i []) (dss.getD i []).length;have e3:=u2 i hi';omega
    cases hw:workB (waitW dss)
    ·
     have HE2:Hid (waitB dss=[]):=Lib.hid (by rw[HE.out,hw];rfl);clear HE;go_wp2_with fail
     refine (specWorkOk_any _ _ _ ho.ownW.rd (by omega) wm).mono ?_;rintro e wz ⟨rfl,kk⟩;have az:=appW_empty wz;have ksz:=(hK.trans kk).size;go_wp2;go_ret;refine⟨_,rfl,?_,(hK.trans kk).alloc _⟩;rw[HE2.out];exact⟨_,_,rfl,.inl rfl⟩
    ·
     have HE2:Hid (waitB dss=waitW dss):=Lib.hid (by rw[HE.out,if_pos hw]);clear HE;go_wp2_with fail
     refine (specWorkOk_any _ _ _ ho.ownW.rd (by omega) wm).mono ?_;rintro e wz ⟨rfl,kk⟩;go_wp2;go_ret;exact⟨_,rfl,by rw[HE2.out];exact (ho.keep kk).ownW,hK.trans kk⟩
end Go.Proofs.YtgikcfdckddgpaaGreat
