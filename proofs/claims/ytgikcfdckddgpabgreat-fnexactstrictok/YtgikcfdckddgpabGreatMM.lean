/- Gathered texts. -/
import Derived.BigRegion
import Derived.Lib.Hide
import Derived.Test.YtgikcfdckddgpabGreatMK
import Derived.Test.YtgikcfdckddgpabGreatMG
import Derived.Outline
import Derived.RegionTactic
import Derived.BigQuiet
set_option maxRecDepth 100000
set_option maxHeartbeats 8000000
namespace Go.Proofs.YtgikcfdckddgpabGreat
open Go.ChangeShapes Go.WideShapes Go.ChangeAt Go.RowKit
def clsK (l:List Ev):Nat→List Int
 | 0=>[]
 |k+1=>clsK l k++[csE (l.getD k zE)]
theorem clsK_len (l:List Ev):∀k:Nat,(clsK l k).length=k
 | 0=>rfl
 |k+1=>by rw[clsK,List.length_append,clsK_len l k];rfl
theorem clsK_take (l:List Ev):∀k:Nat,k≤l.length→clsK l k=(l.take k).map csE
 | 0,_=>rfl
 |k+1,h=>by rw[clsK,clsK_take l k (by omega),List.take_add_one,evs_get (by omega:k<l.length)];simp
theorem clsK_all (l:List Ev):clsK l l.length=l.map csE:=by rw[clsK_take l _ (Nat.le_refl _),List.take_length]
theorem specClassesOf_any (w:World)(v:Value)(es:List Ev)(h:RdE w v es)(hx:es.length≤1048576):
  Calls Tryz.prog 42 #[v] w fun e w'=>∃v',e = .returned v'∧Own w' w.heap.size v' (clsB es)∧Keep w w':=by
 have hown0:Own (w.alloc (.cells #[] 2)) w.heap.size (.slice (some ⟨w.heap.size,0,none⟩) 0 0) []:=World.ownsRow_lit w #[] 0 (Nat.le_refl _) (by decide) rfl;obtain⟨a,cap,rfl,h⟩:=h;by_cases hl:12<es.length
 ·
  have HE:Hid (clsB es=[]):=Lib.hid (by unfold clsB;rw[if_neg (by omega)]);have l1:(12:Int)<(es.length:Int):=by omega
  go_enter Tryz.func42,Tryz.ntmps42
  go_wp2;refine wp_loop_rounds 1 ?_;rw[rounds_succ];go_wp2;go_ret;exact⟨_,rfl,by rw[HE.out];exact hown0,(Keep.refl _).alloc _⟩
 have l1:es.length≤12:=by omega
 clear hl;have HE:Hid (clsB es=clsK es es.length):=Lib.hid (by unfold clsB;rw[if_pos l1];exact (clsK_all es).symm);obtain⟨i0,hi,hz0,hz1,hz2⟩:=info_parts Tryz.infoI;go_enter Tryz.func42,Tryz.ntmps42
 go_wp2;go_loopw [3,4] (fun v i wr=>∃k:Nat,k≤es.length∧i = .int .i64 k∧Own wr w.heap.size v (clsK es k)∧Keep w wr) (fun _ i _=>es.length-(intOf i).toNat)
 case atStart=>exact⟨0,Nat.zero_le _,rfl,hown0,(Keep.refl _).alloc _⟩
 case round=>
  obtain⟨k,hk,rfl,ho,hK⟩:=hrel;clear hown0;by_cases hlt:k<es.length
  ·
   rcases h with h|⟨b,off,rfl,hb,hc⟩
   · exfalso;rw[h] at hlt;simp at hlt
   have AT:=(hc k _ (evs_get hlt)).keep hb hK;have hbw:b<wr.heap.size:=Nat.lt_of_lt_of_le hb hK.size;clear hc;have hml:(clsK es k).length≤k:=by rw[clsK_len];omega
   have hsz:=hK.size;have i1:(0:Int)≤(k:Int):=Int.natCast_nonneg _;have i2:(k:Int)<(es.length:Int):=by omega
   have l2:(es.length:Int)≤12:=by omega
   have HP:Hid (clsK es (k+1)=clsK es k++[csE (es.getD k zE)]):=Lib.hid rfl;obtain⟨e,he⟩:∃e,e=es.getD k zE:=⟨_,rfl⟩;rw[←he] at AT HP;clear he;obtain⟨x0,x1,x2,x3,x4,x5⟩:=e;obtain⟨-,-,-,-,-,A5⟩:=atE AT;clear AT;have HM:Hid (clsK es (k+1)=clsK es k++[x5]):=Lib.hid (by rw[HP.out];rfl);clear HP;go_wp2_with (at_builtin;refine wpList_append_own _ rfl _ _ 23 rfl w.heap.size 2 i0 (.int .i64 0) 1 8 Tryz.underlying23 hi hz0 hz1 hz2 rfl (by decide) _ _ _ rfl (World.ownsRow.alloc ho _) ⟨_,0,none⟩ 1 1 [.int .i64 x5] rfl rfl ?c1 ?c2 ?c3 ?c4 ?c5 ?_)
   case c1=>
    intro j u hj
    match j,hj with
    | 0,hj=>simp at hj;subst hj;simp[Addr.add]
   case c2=>intro u hu;simp at hu;subst hu;rfl
   case c3=>unfold maxLen;omega
   case c4=>omega
   case c5=>simp;omega
   intro v' w1 hown' hgrow _;have hK1:Keep w w1:=(hK.alloc _).grown hgrow ho.ge;clear hgrow;go_wp2;go_roundw;case rel=>exact⟨k+1,by omega,by go_num,by rw[HM.out];exact own_hit hown',hK1⟩
   case measure=>simp[intOf];omega
  ·
   obtain rfl:k=es.length:=by omega
   go_wp2;go_ret;exact⟨_,rfl,by rw[HE.out];exact ho,hK⟩
theorem made_noughts (n:Nat):(madeCells (Value.int .i64 0).cells (n*1)).toList=((List.replicate n (0:Int)).map (Value.int .i64)):=by
 rw[Nat.mul_one,List.map_replicate];exact toList_madeCells_one _ _
theorem liftA_hit {zs cl:List Int}{c:Int}{m:Nat}(h:cl.getD m 0=c):liftA zs cl c (m+1)=orI (liftA zs cl c m) (zs.getD m 0):=by
 conv=>lhs;unfold liftA
 rw[if_pos h]
theorem liftA_miss {zs cl:List Int}{c:Int}{m:Nat}(h:¬cl.getD m 0=c):liftA zs cl c (m+1)=liftA zs cl c m:=by
 conv=>lhs;unfold liftA
 rw[if_neg h]
def hitV (s:Int)(j:Nat)(b:Bool):Int:=if b=true then gAdd s j else s
theorem liftR_skip {zs cl:List Int}{c:Int}{m:Nat}(h:cl.getD m 0=c):liftR zs cl c (m+1)=liftR zs cl c m:=by
 conv=>lhs;unfold liftR
 rw[if_pos h]
theorem liftR_go {zs cl:List Int}{c:Int}{m:Nat}(h:¬cl.getD m 0=c):liftR zs cl c (m+1)=hitV (liftR zs cl c m) m (hitB cl (cl.getD m 0) (liftA zs cl c zs.length) zs.length):=by
 conv=>lhs;unfold liftR
 rw[if_neg h];rfl
theorem add_twice {n:Nat}{s:Int}(hs:okB n s=true){j:Nat}(hj:j<n):gAdd (gAdd s j) j=gAdd s j:=by
 have h1:=ok_add hs hj;have h2:=ok_add h1.1 hj;refine ok_ext h2.1 h1.1 fun i _=>?_
 rw[h2.2 i,h1.2 i];cases inSetB s i<;>cases decide (j=i)<;>rfl
theorem ok_hitV {n:Nat}{s:Int}(hs:okB n s=true){j:Nat}(hj:j<n)(b:Bool):okB n (hitV s j b)=true:=by
 unfold hitV;split
 · exact (ok_add hs hj).1
 · exact hs
theorem hitV_hit {n:Nat}{s:Int}(hs:okB n s=true){j:Nat}(hj:j<n)(b c:Bool)(hc:c=true):gAdd (hitV s j b) j=hitV s j c:=by
 subst hc;cases b
 · rfl
 · exact add_twice hs hj
theorem l3Lift_any (w:World)(v1 v2:Value)(xs ys:List Int)(h1:Rd w v1 xs)(h2:Rd w v2 ys)(ht:Web xs.length xs)(hl:ys.length=xs.length):
  Calls Tryz.prog 40 #[v1,v2] w fun e w'=>∃v',e = .returned v'∧Row w' w.heap.size v' (ys.map (fun c=>liftR xs ys c xs.length))∧Keep w w':=by
 obtain⟨a1,c1,rfl,h1⟩:=h1;obtain⟨a2,c2,rfl,h2⟩:=h2;obtain⟨i0,hi,hz0,hz1,hz2⟩:=info_parts Tryz.infoI;have hz12:=ht.1;have HX:Hid (Web xs.length xs):=ht;have HL:Hid (ys.length=xs.length):=hl;have hl1:ys.length≤xs.length:=by omega
 have hl2:xs.length≤ys.length:=by omega
 clear ht hl;go_enter Tryz.func40,Tryz.ntmps40
 go_wp2_with (at_make;refine wpList_make_full _ rfl _ _ 23 rfl w.heap.size 2 i0 (.int .i64 0) 1 Tryz.underlying23 hi hz0 hz1 .i64 .i64 _ _ xs.length rfl rfl rfl rfl (by rw[hz2];omega) (by unfold maxLen;omega) (Nat.le_refl _) ?_;intro w1 hown hgrow)
 rw[made_noughts] at hown;have k1:Keep w w1:=(Keep.refl w).grown hgrow (by simp)
 have rb:RowAt w1 w.heap.size (mapK (fun c=>liftR xs ys c xs.length) ys 0):=by
  have o:Own w1 w.heap.size (.slice (some ⟨w.heap.size,0,none⟩) xs.length xs.length) (List.replicate xs.length 0):=by
   unfold Own;simpa using hown
  rw[mapK_zero,HL.out];rcases o.row with ⟨e,_⟩|⟨g,cap,e,_,hr⟩
  · cases e
  ·
   have e1:=congrArg Value.ownBlock e;simp[Value.ownBlock] at e1;rw[e1];exact hr
 clear hgrow hown;go_loopw [6] (fun i wr=>∃k:Nat,k≤xs.length∧i = .int .i64 k∧RowAt wr w.heap.size (mapK (fun c=>liftR xs ys c xs.length) ys k)∧Keep w wr) (fun i _=>xs.length-(intOf i).toNat)
 case atStart=>exact⟨0,Nat.zero_le _,rfl,rb,k1⟩
 case round=>
  obtain⟨k,hk,rfl,hr,hK⟩:=hrel;clear rb k1;by_cases hlt:k<xs.length
  ·
   have hlt2:k<ys.length:=by omega
   rcases h1 with h|⟨b1,o1,rfl,hb1,hc1⟩
   · exfalso;rw[h] at hlt;simp at hlt
   rcases h2 with h|⟨b2,o2,rfl,hb2,hc2⟩
   · exfalso;rw[h] at hlt2;simp at hlt2
   have c0:=hc2 k hlt2;have HE:Hid ((mapK (fun c=>liftR xs ys c xs.length) ys k).set k (liftR xs ys (ys.getD k 0) xs.length)=mapK (fun c=>liftR xs ys c xs.length) ys (k+1)):=mapK_set _ ys hlt2;have HS:Hid ((mapK (fun c=>liftR xs ys c xs.length) ys k).set k (liftR xs ys (ys.getD k 0) 0)=mapK (fun c=>liftR xs ys c xs.length) ys k):=mapK_same _ ys hlt2;have hTl:Hid ((mapK (fun c=>liftR xs ys c xs.length) ys k).length=xs.length):=(mapK_len _ ys (by omega)).trans HL.out;rw[←HS.out] at hr;obtain⟨p,hp⟩:∃p,p=ys.getD k 0:=⟨_,rfl⟩;have HC:Hid (p=ys.getD k 0):=hp;rw[←hp] at c0 hr HE;clear hp HS;generalize mapK (fun c=>liftR xs ys c xs.length) ys k=T at *;have i1:(0:Int)≤(k:Int):=Int.natCast_nonneg _;have i2:(k:Int)<(ys.length:Int):=by omega
   have i2':(k:Int)<(xs.length:Int):=by omega
   obtain⟨wo,rfl⟩:∃wo:World,wo=wr:=⟨_,rfl⟩;go_wp2_with fail
   go_loopw [7,8] (fun s i wr=>∃m:Nat,m≤xs.length∧i = .int .i64 m∧s = .int .i64 (liftA xs ys p m)∧RowAt wr w.heap.size (T.set k (liftR xs ys p 0))∧Keep w wr) (fun _ i _=>xs.length-(intOf i).toNat)
   case atStart=>exact⟨0,Nat.zero_le _,rfl,rfl,hr,hK⟩
   case round=>
    clear hr hK;obtain⟨m,hm,rfl,rfl,hr,hK⟩:=hrel;by_cases hml:m<xs.length
    ·
     have hml2:m<ys.length:=by omega
     have d0:=(hK.cell hb2).trans c0;have d1:=(hK.cell hb2).trans (hc2 m hml2);have d2:=(hK.cell hb1).trans (hc1 m hml);obtain⟨q,hq⟩:∃q,q=ys.getD m 0:=⟨_,rfl⟩;have HQ:Hid (q=ys.getD m 0):=hq;rw[←hq] at d1;clear hq hc1 hc2 c0;have i3:(0:Int)≤(m:Int):=Int.natCast_nonneg _;have i4:(m:Int)<(ys.length:Int):=by omega
     have i5:(m:Int)<(xs.length:Int):=by omega
     cases he:q==p
     ·
      have HM:Hid (liftA xs ys p (m+1)=liftA xs ys p m):=liftA_miss (by rw[←HQ.out];simpa using he);generalize liftA xs ys p m=A at *;generalize xs.getD m 0=x at *;go_wp2;go_quiet (fail)
      go_wp2;go_roundw;case rel=>exact⟨m+1,by omega,by go_num,by rw[HM.out],hr.drewN _,hK.drewN _⟩
      case measure=>simp[intOf];omega
     ·
      have HM:Hid (liftA xs ys p (m+1)=orI (liftA xs ys p m) (xs.getD m 0)):=liftA_hit (by rw[←HQ.out];simpa using he);generalize liftA xs ys p m=A at *;generalize xs.getD m 0=x at *;go_wp2;go_quiet (fail)
      go_wp2;go_roundw;case rel=>exact⟨m+1,by omega,by go_num,by rw[HM.out];rfl,hr.drewN _,hK.drewN _⟩
      case measure=>simp[intOf];omega
    ·
     obtain rfl:m=xs.length:=by omega
     have HA:Hid (okB xs.length (liftA xs ys p xs.length)=true):=(ok_liftA HX.out ys p xs.length (Nat.le_refl _)).1;have HG:Hid (∀j,¬ys.getD j 0=p→liftR xs ys p (j+1)=hitV (liftR xs ys p j) j (hitB ys (ys.getD j 0) (liftA xs ys p xs.length) xs.length)):=fun j=>liftR_go
     generalize liftA xs ys p xs.length=A at *;obtain⟨wp,rfl⟩:∃wp:World,wp=wr:=⟨_,rfl⟩;go_wp2_with fail
     go_loopw [9] (fun i wr=>∃j:Nat,j≤xs.length∧i = .int .i64 j∧RowAt wr w.heap.size (T.set k (liftR xs ys p j))∧Keep w wr) (fun i _=>xs.length-(intOf i).toNat)
     case atStart=>exact⟨0,Nat.zero_le _,rfl,hr,hK⟩
     case round=>
      clear hr hK;obtain⟨j,hj,rfl,hr,hK⟩:=hrel;by_cases hjl:j<xs.length
      ·
       have hjl2:j<ys.length:=by omega
       have d0:=(hK.cell hb2).trans c0;have d1:=(hK.cell hb2).trans (hc2 j hjl2);have e1:=hc2 j hjl2;obtain⟨q,hq⟩:∃q,q=ys.getD j 0:=⟨_,rfl⟩;have HQ:Hid (q=ys.getD j 0):=hq;rw[←hq] at d1 e1;clear hq;have i3:(0:Int)≤(j:Int):=Int.natCast_nonneg _;have i4:(j:Int)<(ys.length:Int):=by omega
       have i5:(j:Int)<(xs.length:Int):=by omega
       cases he:q==p
       ·
        have HV:Hid (¬q=p):=by show ¬q=p;simpa using he
        have HN:Hid (liftR xs ys p (j+1)=hitV (liftR xs ys p j) j (hitB ys q A xs.length)):=by
         have:=HG.out j (by rw[←HQ.out];exact HV.out);rw[←HQ.out] at this;exact this
        have HO:Hid (okB xs.length (liftR xs ys p j)=true):=(ok_liftR HX.out ys p j (by omega)).1;generalize liftR xs ys p j=R at *;obtain⟨wq,rfl⟩:∃wq:World,wq=wr:=⟨_,rfl⟩;go_wp2;go_quiet (fail)
        have hr2:=hr.drewN nq;have hK2:=hK.drewN nq;clear d0 d1;go_wp2_with fail
        go_loopw [10] (fun i wr=>∃m:Nat,m≤xs.length∧i = .int .i64 m∧RowAt wr w.heap.size (T.set k (hitV R j (hitB ys q A m)))∧Keep w wr) (fun i _=>xs.length-(intOf i).toNat)
        case atStart=>exact⟨0,Nat.zero_le _,rfl,hr2,hK2⟩
        case round=>
         clear hr hK hr2 hK2;obtain⟨m,hm,rfl,hr,hK⟩:=hrel;by_cases hml:m<xs.length
         ·
          have hml2:m<ys.length:=by omega
          have d1:=(hK.cell hb2).trans e1;have d2:=(hK.cell hb2).trans (hc2 m hml2);obtain⟨u,hu⟩:∃u,u=ys.getD m 0:=⟨_,rfl⟩;have HU:Hid (u=ys.getD m 0):=hu;rw[←hu] at d2;clear hu hc1 hc2 c0 e1;have i6:(0:Int)≤(m:Int):=Int.natCast_nonneg _;have i7:(m:Int)<(ys.length:Int):=by omega
          have HT:Hid (hitB ys q A (m+1)=(hitB ys q A m||(decide (u=q)&&inSetB A m))):=by rw[HU.out];rfl
          have hbit:inSetB A m=bitB A m:=inSetB_bit (okB_range HA.out) (by omega);have HY:Hid (okB xs.length (hitV R j (hitB ys q A m))=true):=ok_hitV HO.out hjl _;cases hq2:u==q
          ·
           have HM:Hid (hitB ys q A (m+1)=hitB ys q A m):=by
            show _=_;rw[HT.out];have:decide (u=q)=false:=by simpa using hq2
            rw[this];simp
           rw[←HM.out] at hr;clear hbit HT;go_wp2;go_quiet (fail)
           go_wp2;go_roundw;case rel=>exact⟨m+1,by omega,by go_num,hr.drewN _,hK.drewN _⟩
           case measure=>simp[intOf];omega
          ·
           cases hb:bitB A m
           ·
            have HM:Hid (hitB ys q A (m+1)=hitB ys q A m):=by
             show _=_;rw[HT.out,hbit,hb];simp
            rw[←HM.out] at hr;clear hbit HT;go_wp2;go_quiet ((go_at_call 65;refine Calls.quiet_of_same (l1Has_any _ _ _ (by omega) (by omega))))
            go_wp2;go_roundw;case rel=>exact⟨m+1,by omega,by go_num,hr.drewN _,hK.drewN _⟩
            case measure=>simp[intOf];omega
           ·
            have HM:Hid (hitB ys q A (m+1)=true):=by
             show _=_;have:decide (u=q)=true:=by simpa using hq2
             rw[HT.out,hbit,hb,this];simp
            have hrg:=okB_range HY.out;have hki:inB (j:Int) 0 11=true:=by unfold inB;simp;omega
            have HV2:Hid (bits .or .i64 (hitV R j (hitB ys q A m)) (wrap64 (2 ^ (j:Int).toNat))=hitV R j (hitB ys q A (m+1))):=by
             show _=_;rw[←hitV_hit HO.out hjl (hitB ys q A m) _ HM.out,gAdd_ok _ _ hrg.1 hki]
            have hTk:k<T.length:=by have:=hTl.out;omega
            have hgl:k<(T.set k (hitV R j (hitB ys q A m))).length:=by rw[List.length_set];exact hTk
            have d3:=(hr.drewN 0).cell hgl;clear hbit HT;go_wp2;go_quiet ((go_at_call 65;refine Calls.quiet_of_same (l1Has_any _ _ _ (by omega) (by omega))))
            have hr3:=hr.drewN nq;have hK3:=hK.drewN nq;have d5:=hr3.cell hgl;rw[getD_set_same T hTk] at d5;have d6:=hr3.free k;have hs:=hr3.set k (bits .or .i64 (hitV R j (hitB ys q A m)) (wrap64 (2 ^ (j:Int).toNat)));have hK4:=hK3.grown (grown_set _ w.heap.size k (.int .i64 (bits .or .i64 (hitV R j (hitB ys q A m)) (wrap64 (2 ^ (j:Int).toNat))))) (by simp);rw[set_set_same] at hs;have HS2:Hid (T.set k (bits .or .i64 (hitV R j (hitB ys q A m)) (wrap64 (2 ^ (j:Int).toNat)))=T.set k (hitV R j (hitB ys q A (m+1)))):=by show _=_;rw[HV2.out]
            rw[HS2.out] at hs;clear HS2 HV2 HY hrg hr3 hK3 hr hK d1 d2 d3;generalize hitV R j (hitB ys q A m)=y at *;go_wp2;go_roundw;case rel=>exact⟨m+1,by omega,by go_num,hs,hK4⟩
            case measure=>simp[intOf];omega
         ·
          obtain rfl:m=xs.length:=by omega
          rw[←HN.out] at hr;go_wp2;go_roundw;case rel=>exact⟨j+1,by omega,by go_num,hr,hK⟩
          case measure=>simp[intOf];omega
       ·
        have HN:Hid (liftR xs ys p (j+1)=liftR xs ys p j):=liftR_skip (by rw[←HQ.out];simpa using he);rw[←HN.out] at hr;go_wp2;go_quiet (fail)
        go_wp2;go_roundw;case rel=>exact⟨j+1,by omega,by go_num,hr.drewN _,hK.drewN _⟩
        case measure=>simp[intOf];omega
      ·
       obtain rfl:j=xs.length:=by omega
       rw[HE.out] at hr;go_wp2;go_roundw;case rel=>exact⟨k+1,by omega,by go_num,hr,hK⟩
       case measure=>simp[intOf];omega
  ·
   obtain rfl:k=xs.length:=by omega
   have HQ:Hid (mapK (fun c=>liftR xs ys c xs.length) ys xs.length=ys.map (fun c=>liftR xs ys c xs.length)):=by
    have:=mapK_end (fun c=>liftR xs ys c xs.length) ys;rw[HL.out] at this;exact this
   go_wp2;go_ret;refine⟨_,rfl,?_,hK⟩;rw[←HQ.out];exact row_new hr (Nat.le_refl _) ((mapK_len _ ys (by omega)).trans HL.out)
end Go.Proofs.YtgikcfdckddgpabGreat
