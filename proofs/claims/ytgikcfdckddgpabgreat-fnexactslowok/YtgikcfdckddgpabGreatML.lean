/- Gathered texts. -/
import Derived.Test.YtgikcfdckddgpabGreatMD
import Derived.Outline
import Derived.RegionTactic
import Derived.BigRegion
import Derived.Test.YtgikcfdckddgpabGreatMK
set_option maxRecDepth 100000
set_option maxHeartbeats 8000000
namespace Go.Proofs.YtgikcfdckddgpabGreat
open Go.ChangeShapes Go.WideShapes Go.ChangeAt Go.RowKit
theorem mem_hit (s:Int)(k:Nat)(h:inSetB s k=true):mem s (k+1)=mem s k++[(k:Int)]:=by simp[mem,h]
theorem mem_miss (s:Int)(k:Nat)(h:inSetB s k=false):mem s (k+1)=mem s k:=by simp[mem,h]
theorem chosen_has (s:Int)(w:World):
  Calls Tryz.prog 130 #[.func (Fn.func 108) #[.int .i64 s] #[]] w fun e w'=>∃v',e = .returned v'∧Own w' w.heap.size v' (mem s 12)∧Keep w w':=by
 have hown0:Own (w.alloc (.cells #[] 2)) w.heap.size (.slice (some ⟨w.heap.size,0,none⟩) 0 0) []:=World.ownsRow_lit w #[] 0 (Nat.le_refl _) (by decide) rfl;obtain⟨i0,hi,hz0,hz1,hz2⟩:=info_parts Tryz.infoI;go_enter Tryz.func130,Tryz.ntmps130
 go_wp2;go_loopw [3,6] (fun v i wr=>∃k:Nat,k≤12∧i = .int .i64 k∧Own wr w.heap.size v (mem s k)∧Keep w wr) (fun _ i _=>12-(intOf i).toNat)
 case atStart=>exact⟨0,Nat.zero_le _,rfl,hown0,(Keep.refl _).alloc _⟩
 case round=>
  obtain⟨k,hk,rfl,ho,hK⟩:=hrel;clear hown0;by_cases hlt:k<12
  ·
   have hml:=mem_len s k;have hsz:=hK.size;cases hb:inSetB s k
   ·
    have HM:Hid (mem s (k+1)=mem s k):=mem_miss s k hb;go_wp2_with (go_at_call 108;refine (has_any _ _ _).mono ?_;rintro e w' ⟨rfl,rfl⟩)
    go_roundw;case rel=>exact⟨k+1,by omega,by go_num,by rw[HM.out];exact ho,hK⟩
    case measure=>simp[intOf];omega
   ·
    have HM:Hid (mem s (k+1)=mem s k++[(k:Int)]):=mem_hit s k hb;go_wp2_with (first|(go_at_call 108;refine (has_any _ _ _).mono ?_;rintro e w' ⟨rfl,rfl⟩)|(at_builtin;refine wpList_append_own _ rfl _ _ 23 rfl w.heap.size 2 i0 (.int .i64 0) 1 8 Tryz.underlying23 hi hz0 hz1 hz2 rfl (by decide) _ _ _ rfl (World.ownsRow.alloc ho _) ⟨_,0,none⟩ 1 1 [.int .i64 k] rfl rfl ?c1 ?c2 ?c3 ?c4 ?c5 ?_))
    case c1=>
     intro j u hj
     match j,hj with
     | 0,hj=>simp at hj;subst hj;simp[Addr.add]
    case c2=>intro u hu;simp at hu;subst hu;rfl
    case c3=>unfold maxLen;omega
    case c4=>omega
    case c5=>simp;omega
    intro v' w1 hown' hgrow _;have hK1:Keep w w1:=(hK.alloc _).grown hgrow ho.ge;clear hgrow;go_wp2;go_roundw;case rel=>exact⟨k+1,by omega,by go_num,by rw[HM.out];exact own_hit hown',hK1⟩
    case measure=>simp[intOf];omega
  ·
   obtain rfl:k=12:=by omega
   go_wp2;go_ret;exact⟨_,rfl,ho,hK⟩
theorem implMembers_any (s:Int)(w:World):
  Calls Tryz.prog 112 #[.int .i64 s] w fun e w'=>∃v',e = .returned v'∧Own w' w.heap.size v' (mem s 12)∧Keep w w':=by
 go_enter Tryz.func112,Tryz.ntmps112
 go_wp2_with (go_at_call 130;refine (chosen_has _ _).mono ?_;rintro e w' ⟨v',rfl,ho,hK⟩)
 go_ret;exact⟨_,rfl,ho,hK⟩
theorem implInSet_any (s i:Int)(w:World):
  Calls Tryz.prog 72 #[.int .i64 s,.int .i64 i] w fun e w'=>e = .returned (.bool (inSetB s i))∧w'=w:=by
 go_enter Tryz.func72,Tryz.ntmps72
 go_wp2_with (go_at_call 108;refine (has_any _ _ _).mono ?_;rintro e w' ⟨rfl,rfl⟩)
 go_ret;exact⟨rfl,rfl⟩
theorem wayIn_hit (k:Nat)(st:List Int)(i:Nat)(h:inSetB ((wayIn k st i).getD i 0) k=true):wayIn k st (i+1)=(wayIn k st i).set i (orI ((wayIn k st i).getD i 0) ((wayIn k st i).getD k 0)):=by
 conv=>lhs;unfold wayIn
 rw[if_pos h]
theorem wayIn_miss (k:Nat)(st:List Int)(i:Nat)(h:inSetB ((wayIn k st i).getD i 0) k=false):wayIn k st (i+1)=wayIn k st i:=by
 conv=>lhs;unfold wayIn
 rw[h];rfl
theorem implWays_any (w:World)(v:Value)(zs:List Int)(h:Rd w v zs)(hn:zs.length≤1048576):
  Calls Tryz.prog 71 #[v] w fun e w'=>∃v',e = .returned v'∧Row w' w.heap.size v' (waysL zs)∧Keep w w':=by
 cases ht:webB zs
 ·
  go_enter Tryz.func71,Tryz.ntmps71
  go_wp2_with fail
  refine (implWebOk_any _ _ _ h hn).mono ?_;rintro e w' ⟨rfl,rfl⟩;go_wp2;go_ret;exact⟨_,rfl,by unfold waysL;rw[ht];exact row_empty _ _,(Keep.refl _).alloc _⟩
 ·
  have hz12:=webB_len ht;have HX:Hid (Web zs.length zs):=web_iff.1 ht;have HB:Hid (waysL zs=wayAll zs zs.length):=by show _=_;unfold waysL;rw[if_pos ht]
  go_enter Tryz.func71,Tryz.ntmps71
  go_wp2_with fail
  refine (implWebOk_any _ _ _ h hn).mono ?_;rintro e w' ⟨rfl,rfl⟩;go_wp2_with fail
  refine (owned_any _ _ _ h hz12).mono ?_;rintro e w1 ⟨rfl,rb,k1⟩;clear h;go_wp2_with fail
  go_loopw [15] (fun i wr=>∃k:Nat,k≤zs.length∧i = .int .i64 k∧RowAt wr w'.heap.size (wayAll zs k)∧Keep w' wr) (fun i _=>zs.length-(intOf i).toNat)
  case atStart=>exact⟨0,Nat.zero_le _,rfl,rb,k1⟩
  case round=>
   obtain⟨k,hk,rfl,hr,hK⟩:=hrel;clear rb k1;by_cases hlt:k<zs.length
   ·
    have HT:Hid (Web zs.length (wayAll zs k)):=web_wayAll HX.out k hk;have HE:Hid (wayIn k (wayAll zs k) zs.length=wayAll zs (k+1)):=rfl;generalize wayAll zs k=T at *;obtain⟨wo,rfl⟩:∃wo:World,wo=wr:=⟨_,rfl⟩;go_wp2_with fail
    go_loopw [20] (fun i wr=>∃m:Nat,m≤zs.length∧i = .int .i64 m∧RowAt wr w'.heap.size (wayIn k T m)∧Keep w' wr) (fun i _=>zs.length-(intOf i).toNat)
    case atStart=>exact⟨0,Nat.zero_le _,rfl,hr,hK⟩
    case round=>
     clear hr hK;obtain⟨m,hm,rfl,hr,hK⟩:=hrel;by_cases hml:m<zs.length
     ·
      have hB:=(web_wayIn hlt HT.out m hm).1;have hBl:=hB.2.1;clear hB;have d0:=hr.cell (j:=m) (by omega);have d1:=hr.cell (j:=k) (by omega);have d2:=hr.free m;cases hb:inSetB ((wayIn k T m).getD m 0) k
      ·
       have HM:Hid (wayIn k T (m+1)=wayIn k T m):=wayIn_miss k T m hb;rw[←HM.out] at hr;generalize (wayIn k T m).getD m 0=x at *;generalize (wayIn k T m).getD k 0=y at *;clear d1 d2 HM;go_wp2_with fail
       refine (implInSet_any _ _ _).mono ?_;rintro e w2 ⟨rfl,rfl⟩;go_wp2;go_roundw;case rel=>exact⟨m+1,by omega,by go_num,hr,hK⟩
       case measure=>simp[intOf];omega
      ·
       have HM:Hid (wayIn k T (m+1)=(wayIn k T m).set m (orI ((wayIn k T m).getD m 0) ((wayIn k T m).getD k 0))):=wayIn_hit k T m hb;have hs:=hr.set m (orI ((wayIn k T m).getD m 0) ((wayIn k T m).getD k 0));rw[←HM.out] at hs;have hK2:=hK.grown (grown_set wr w'.heap.size m (.int .i64 (orI ((wayIn k T m).getD m 0) ((wayIn k T m).getD k 0)))) (by simp);clear HM hr;generalize (wayIn k T m).getD m 0=x at *;generalize (wayIn k T m).getD k 0=y at *;have i1:(0:Int)≤(m:Int):=Int.natCast_nonneg _;have i2:(m:Int)<(zs.length:Int):=by omega
       have i3:(0:Int)≤(k:Int):=Int.natCast_nonneg _;have i4:(k:Int)<(zs.length:Int):=by omega
       go_wp2_with fail
       refine (implInSet_any _ _ _).mono ?_;rintro e w2 ⟨rfl,rfl⟩;go_wp2;go_region
       go_wp2;go_roundw;case rel=>exact⟨m+1,by omega,by go_num,hs.drew,hK2.drew⟩
       case measure=>simp[intOf];omega
     ·
      obtain rfl:m=zs.length:=by omega
      rw[HE.out] at hr;go_wp2;go_roundw;case rel=>exact⟨k+1,by omega,by go_num,hr,hK⟩
      case measure=>simp[intOf];omega
   ·
    obtain rfl:k=zs.length:=by omega
    go_wp2;go_ret;refine⟨_,rfl,?_,hK⟩;rw[HB.out];exact row_new hr (Nat.le_refl _) (wayAll_len zs _)
theorem roundI_yes {zs:List Int}{k:Nat}(hk:k<(waysL zs).length)(h:inSetB ((waysL zs).getD k 0) k=true):roundB zs=true:=by
 cases ht:webB zs
 · exfalso;unfold waysL at hk;rw[ht] at hk;simp at hk
 ·
  have hl:=(web_ways (web_iff.1 ht)).2.1;unfold roundB;rw[ht,Bool.true_and,List.any_eq_true];exact⟨k,List.mem_range.2 (by omega),h⟩
theorem roundI_no {zs:List Int}(h:∀i,i<(waysL zs).length→inSetB ((waysL zs).getD i 0) i=false):roundB zs=false:=by
 cases ht:webB zs
 · unfold roundB;rw[ht];rfl
 ·
  have hl:=(web_ways (web_iff.1 ht)).2.1;unfold roundB;rw[ht,Bool.true_and,List.any_eq_false];intro i hi;have:=h i (by have:=List.mem_range.1 hi;omega);unfold line;rw[this];simp
theorem waysI_len (a:List Int):(waysL a).length≤12:=by
 cases ht:webB a
 · unfold waysL;rw[ht];simp
 ·
  have hw:=web_ways (web_iff.1 ht);have:=hw.1;have:=hw.2.1;omega
theorem implRound_any (w:World)(v:Value)(zs:List Int)(h:Rd w v zs)(hn:zs.length≤1048576):
  Calls Tryz.prog 45 #[v] w fun e w'=>e = .returned (.bool (roundB zs))∧Keep w w':=by
 have hY:Hid (∀k,k<(waysL zs).length→inSetB ((waysL zs).getD k 0) k=true→roundB zs=true):=fun k=>roundI_yes
 have hN:Hid ((∀i,i<(waysL zs).length→inSetB ((waysL zs).getD i 0) i=false)→roundB zs=false):=roundI_no;have hl:=waysI_len zs;go_enter Tryz.func45,Tryz.ntmps45
 go_wp2_with fail
 refine (implWays_any _ _ _ h hn).mono ?_;rintro e w1 ⟨v1,rfl,r1,k1⟩;clear h;generalize waysL zs=W at *;obtain⟨a,c,rfl,hr⟩:=r1.rd;clear r1;go_wp2;go_loop [8] (fun i=>∃k:Nat,k≤W.length∧i = .int .i64 k∧∀j:Nat,j<k→inSetB (W.getD j 0) j=false) (fun i=>W.length-(intOf i).toNat)
 case atStart=>exact⟨0,Nat.zero_le _,rfl,fun j hj=>by omega⟩
 case round=>
  obtain⟨k,hk,rfl,hall⟩:=hrel;have HA:Hid (∀j:Nat,j<k→inSetB (W.getD j 0) j=false):=hall;clear hall;by_cases hlt:k<W.length
  ·
   rcases hr with hr|⟨b,o,rfl,hb,hc⟩
   · exfalso;rw[hr] at hlt;simp at hlt
   have d0:=hc k hlt;have HY:Hid (inSetB (W.getD k 0) k=true→roundB zs=true):=hY.out k hlt;clear hc hY;cases hbit:inSetB (W.getD k 0) k
   ·
    have HB:Hid (inSetB (W.getD k 0) k=false):=hbit;obtain⟨x,hx⟩:∃x,x=W.getD k 0:=⟨_,rfl⟩;have HX:Hid (x=W.getD k 0):=hx;rw[←hx] at d0 hbit;clear hx HY;go_wp2_with fail
    refine (implInSet_any _ _ _).mono ?_;rintro e w2 ⟨rfl,rfl⟩;go_wp2;go_round
    case rel=>
     refine⟨k+1,by omega,by go_num,fun j hj=>?_⟩;by_cases e:j=k
     · subst e;exact HB.out
     · exact HA.out j (by omega)
    case measure=>simp[intOf];omega
   ·
    have HB:Hid (roundB zs=true):=HY.out hbit;clear HY;obtain⟨x,hx⟩:∃x,x=W.getD k 0:=⟨_,rfl⟩;have HX:Hid (x=W.getD k 0):=hx;rw[←hx] at d0 hbit;clear hx;go_wp2_with fail
    refine (implInSet_any _ _ _).mono ?_;rintro e w2 ⟨rfl,rfl⟩;go_wp2;go_ret;exact⟨ret_bool HB.out.symm,k1⟩
  ·
   go_wp2;go_ret;exact⟨ret_bool (hN.out fun i hi=>HA.out i (by omega)).symm,k1⟩
theorem mate_hit (cl:List Int)(c:Int)(m:Nat)(h:c=cl.getD m 0):mateS cl c (m+1)=gAdd (mateS cl c m) m:=by
 conv=>lhs;unfold mateS
 rw[if_pos h]
theorem mate_miss (cl:List Int)(c:Int)(m:Nat)(h:¬c=cl.getD m 0):mateS cl c (m+1)=mateS cl c m:=by
 conv=>lhs;unfold mateS
 rw[if_neg h]
theorem mates_any (w:World)(v:Value)(cl:List Int)(h:Rd w v cl)(hn:cl.length≤12):
  Calls Tryz.prog 74 #[v] w fun e w'=>∃v',e = .returned v'∧Row w' w.heap.size v' (matesL cl)∧Keep w w':=by
 obtain⟨a,c,rfl,h⟩:=h;have HB:Hid (mapK (fun c=>mateS cl c cl.length) cl cl.length=matesL cl):=mapK_end _ _;have HZ:Hid (mapK (fun c=>mateS cl c cl.length) cl 0=List.replicate cl.length 0):=mapK_zero _ _;go_enter Tryz.func74,Tryz.ntmps74
 go_wp2_with fail
 refine (blank_any _ _ hn).mono ?_;rintro e w1 ⟨rfl,rb,k1⟩;rw[←HZ.out] at rb;go_wp2_with fail
 go_loopw [13] (fun i wr=>∃k:Nat,k≤cl.length∧i = .int .i64 k∧RowAt wr w.heap.size (mapK (fun c=>mateS cl c cl.length) cl k)∧Keep w wr) (fun i _=>cl.length-(intOf i).toNat)
 case atStart=>exact⟨0,Nat.zero_le _,rfl,rb,k1⟩
 case round=>
  obtain⟨k,hk,rfl,hr,hK⟩:=hrel;clear rb k1;by_cases hlt:k<cl.length
  ·
   rcases h with h|⟨b1,o1,rfl,hb1,hc1⟩
   · exfalso;rw[h] at hlt;simp at hlt
   have d0:=(hK.cell hb1).trans (hc1 k hlt);have HE:Hid ((mapK (fun c=>mateS cl c cl.length) cl k).set k (mateS cl (cl.getD k 0) cl.length)=mapK (fun c=>mateS cl c cl.length) cl (k+1)):=mapK_set _ cl hlt;have HS:Hid ((mapK (fun c=>mateS cl c cl.length) cl k).set k (mateS cl (cl.getD k 0) 0)=mapK (fun c=>mateS cl c cl.length) cl k):=mapK_same _ cl hlt;have hTl:(mapK (fun c=>mateS cl c cl.length) cl k).length=cl.length:=mapK_len _ cl hk;rw[←HS.out] at hr;obtain⟨p,hp⟩:∃p,p=cl.getD k 0:=⟨_,rfl⟩;have HC:Hid (p=cl.getD k 0):=hp;rw[←hp] at d0 hr HE;generalize mapK (fun c=>mateS cl c cl.length) cl k=T at *;clear hp HS;obtain⟨wo,rfl⟩:∃wo:World,wo=wr:=⟨_,rfl⟩;go_wp2_with fail
   go_loopw [20] (fun i wr=>∃m:Nat,m≤cl.length∧i = .int .i64 m∧RowAt wr w.heap.size (T.set k (mateS cl p m))∧Keep w wr) (fun i _=>cl.length-(intOf i).toNat)
   case atStart=>exact⟨0,Nat.zero_le _,rfl,hr,hK⟩
   case round=>
    clear hr hK;obtain⟨m,hm,rfl,hr,hK⟩:=hrel;by_cases hml:m<cl.length
    ·
     have d1:=(hK.cell hb1).trans (hc1 m hml);obtain⟨q,hq⟩:∃q,q=cl.getD m 0:=⟨_,rfl⟩;have HQ:Hid (q=cl.getD m 0):=hq;rw[←hq] at d1;clear hq hc1;have hGl:(T.set k (mateS cl p m)).length=cl.length:=by rw[List.length_set,hTl]
     cases he:p==q
     ·
      have HM:Hid (mateS cl p (m+1)=mateS cl p m):=mate_miss cl p m (by rw[←HQ.out];simpa using he);rw[←HM.out] at hr;go_wp2;go_roundw;case rel=>exact⟨m+1,by omega,by go_num,hr,hK⟩
      case measure=>simp[intOf];omega
     ·
      have HM:Hid ((T.set k (mateS cl p m)).set k (gAdd ((T.set k (mateS cl p m)).getD k 0) m)=T.set k (mateS cl p (m+1))):=by
       show _=_;rw[getD_set_same T (by omega),set_set_same,mate_hit cl p m (by rw[←HQ.out];simpa using he)]
      go_wp2_with fail
      refine (line_any _ _ _ _ _ k m hr hGl hlt).mono ?_;rintro e w4 ⟨rfl,hr4,g4⟩;rw[HM.out] at hr4;have hK4:=hK.grown g4 (by simp);clear hr hK g4;go_wp2;go_roundw;case rel=>exact⟨m+1,by omega,by go_num,hr4,hK4⟩
      case measure=>simp[intOf];omega
    ·
     obtain rfl:m=cl.length:=by omega
     rw[HE.out] at hr;go_wp2;go_roundw;case rel=>exact⟨k+1,by omega,by go_num,hr,hK⟩
     case measure=>simp[intOf];omega
  ·
   obtain rfl:k=cl.length:=by omega
   go_wp2;go_ret;refine⟨_,rfl,?_,hK⟩;rw[←HB.out];exact row_new hr (Nat.le_refl _) (mapK_len _ cl (Nat.le_refl _))
theorem implThen_web (w:World)(v1 v2:Value)(xs ys:List Int)(h1:Rd w v1 xs)(h2:Rd w v2 ys)(ht:twoB xs ys=true):
  Calls Tryz.prog 76 #[v1,v2] w fun e w'=>∃v',e = .returned v'∧Row w' w.heap.size v' (xs.map (fun x=>thenS x ys 12))∧Keep w w':=by
 have r1:=h1;have r2:=h2;obtain⟨a1,c1,rfl,h1⟩:=h1;obtain⟨a2,c2,rfl,h2⟩:=h2;obtain⟨hl,wx,wy⟩:=twoB_iff.1 ht;have hx12:=webB_len wx;have hl1:xs.length≤ys.length:=by omega
 have hl2:ys.length≤xs.length:=by omega
 have HX:Hid (webB xs=true):=wx;clear wx wy hl;go_enter Tryz.func76,Tryz.ntmps76
 go_wp2_with fail
 refine (areAlike_any _ _ _ _ _ r1 r2 (by omega) (by omega)).mono ?_;rintro e w' ⟨rfl,rfl⟩;go_wp2_with fail
 refine (blank_any _ _ hx12).mono ?_;rintro e w1 ⟨rfl,rb,k1⟩;rw[←thenK_zero xs ys] at rb;go_wp2_with fail
 go_loopw [20] (fun i wr=>∃k:Nat,k≤xs.length∧i = .int .i64 k∧RowAt wr w'.heap.size (thenK xs ys k)∧Keep w' wr) (fun i _=>xs.length-(intOf i).toNat)
 case atStart=>exact⟨0,Nat.zero_le _,rfl,rb,k1⟩
 case round=>
  obtain⟨k,hk,rfl,hr,hK⟩:=hrel;clear rb k1;by_cases hlt:k<xs.length
  ·
   rcases h1 with h|⟨b1,o1,rfl,hb1,hc1⟩
   · exfalso;rw[h] at hlt;simp at hlt
   rcases h2 with h|⟨b2,o2,rfl,hb2,hc2⟩
   · exfalso;rw[h] at hl1;simp only[List.length_nil] at hl1;omega
   have d0:=(hK.cell hb1).trans (hc1 k hlt);have hp:okB xs.length (xs.getD k 0)=true:=webB_get HX.out hlt;have HE:Hid ((thenK xs ys k).set k (thenS (xs.getD k 0) ys 12)=thenK xs ys (k+1)):=thenK_set xs ys hlt;have HP:Hid (okB xs.length (xs.getD k 0)=true):=hp;clear hc1 hp;generalize xs.getD k 0=p at *;have hml:=mem_len p 12;obtain⟨wo,rfl⟩:∃wo:World,wo=wr:=⟨_,rfl⟩;go_wp2_with fail
   refine (implMembers_any _ _).mono ?_;rintro e w3 ⟨vm,rfl,om,k3⟩;have K3:=hK.trans k3;have hr3:=hr.keep k3;have hgo:=hr.lt;rw[←thenK_same xs ys hlt] at hr3;obtain⟨am,cm,rfl,hm⟩:=om.rd;clear hr hK k3 hm;have hkl:k<(thenK xs ys k).length:=by rw[thenK_len xs ys hk];exact hlt
   generalize thenK xs ys k=T at *;go_wp2_with fail
   go_loopw [28] (fun i wr=>∃j:Nat,j≤(mem p 12).length∧i = .int .i64 j∧RowAt wr w'.heap.size (T.set k (((mem p 12).take j).foldl (thenF ys) 0))∧Own wr wo.heap.size (.slice am (mem p 12).length cm) (mem p 12)∧Keep w' wr) (fun i _=>(mem p 12).length-(intOf i).toNat)
   case atStart=>exact⟨0,Nat.zero_le _,rfl,hr3,om,K3⟩
   case round=>
    obtain⟨j,hj,rfl,hr,ho,hK⟩:=hrel;clear hr3 om K3;by_cases hjl:j<(mem p 12).length
    ·
     obtain⟨m,hm,hmn⟩:=mem_at HP.out hjl;obtain⟨am',cm',hv,hcm⟩:=ho.rd;cases hv;rcases hcm with h|⟨b3,o3,rfl,hb3,hc3⟩
     · exfalso;rw[h] at hjl;simp at hjl
     have d1:=hc3 j hjl;rw[hm] at d1;have d2:=(hK.cell hb2).trans (hc2 m (by omega));have d3:=hr.cell (j:=k) (by simpa using hkl);rw[getD_set_same T hkl] at d3;have d4:=hr.free k
     have HF:Hid (((mem p 12).take (j+1)).foldl (thenF ys) 0=orI (((mem p 12).take j).foldl (thenF ys) 0) (ys.getD m 0)):=by
      show _=_;rw[foldl_snoc _ _ _ hjl,hm];rfl
     have hs:=hr.set k (orI (((mem p 12).take j).foldl (thenF ys) 0) (ys.getD m 0));rw[set_set_same] at hs
     have ho2:=ho.kept (grown_set wr w'.heap.size k (.int .i64 (orI (((mem p 12).take j).foldl (thenF ys) 0) (ys.getD m 0)))) (by
      right;intro e;have:=ho.ge _ e;omega)
     have hK2:=hK.grown (grown_set wr w'.heap.size k (.int .i64 (orI (((mem p 12).take j).foldl (thenF ys) 0) (ys.getD m 0)))) (by simp);have i1:(0:Int)≤(m:Int):=Int.natCast_nonneg _;have i2:(m:Int)<(ys.length:Int):=by omega
     have i3:(0:Int)≤(k:Int):=Int.natCast_nonneg _;have i4:(k:Int)<(xs.length:Int):=by omega
     clear hc3 hm hr;generalize ((mem p 12).take j).foldl (thenF ys) 0=G at *;generalize ys.getD m 0=q at *;go_wp2;go_region
     go_wp2;go_roundw;case rel=>exact⟨j+1,by omega,by go_num,by rw[HF.out];exact hs.drew,ho2.keep (Keep.refl _).drew,hK2.drew⟩
     case measure=>simp[intOf];omega
    ·
     obtain rfl:j=(mem p 12).length:=by omega
     rw[List.take_length,thenS_fold,HE.out] at hr;go_wp2;go_roundw;case rel=>exact⟨k+1,by omega,by go_num,hr,hK⟩
     case measure=>simp[intOf];omega
  ·
   obtain rfl:k=xs.length:=by omega
   rw[thenK_end] at hr;go_wp2;go_ret;exact⟨_,rfl,row_new hr (Nat.le_refl _) (by simp),hK⟩
theorem implThen_any (w:World)(v1 v2:Value)(xs ys:List Int)(h1:Rd w v1 xs)(h2:Rd w v2 ys)(n1:xs.length≤1048576)(n2:ys.length≤1048576):
  Calls Tryz.prog 76 #[v1,v2] w fun e w'=>∃v',e = .returned v'∧Row w' w.heap.size v' (thenL xs ys)∧Keep w w':=by
 cases ht:twoB xs ys
 ·
  go_enter Tryz.func76,Tryz.ntmps76
  go_wp2_with fail
  refine (areAlike_any _ _ _ _ _ h1 h2 n1 n2).mono ?_;rintro e w' ⟨rfl,rfl⟩;go_wp2;go_ret;exact⟨_,rfl,by unfold thenL;rw[ht];exact row_empty _ _,(Keep.refl _).alloc _⟩
 ·
  refine (implThen_web _ _ _ _ _ h1 h2 ht).mono ?_;rintro e w2 ⟨v',rfl,o,k⟩;exact⟨_,rfl,by unfold thenL;rw[ht];exact o,k⟩
theorem without_any (s t:Int)(w:World):
  Calls Tryz.prog 110 #[.int .i64 s,.int .i64 t] w fun e w'=>e = .returned (.int .i64 (notI s t))∧w'=w:=by
 go_enter Tryz.func110,Tryz.ntmps110
 go_wp2;go_ret;exact⟨rfl,rfl⟩
theorem mixed_without (w:World)(v1 v2:Value)(xs ys:List Int)(h1:Rd w v1 xs)(h2:Rd w v2 ys)(n1:xs.length≤1048576)(n2:ys.length≤1048576):
  Calls Tryz.prog 94 #[v1,v2,.func (Fn.func 110) #[] #[]] w fun e w'=>∃v',e = .returned v'∧Row w' w.heap.size v' (mixL notI xs ys)∧Keep w w':=by
 have r1:=h1;have r2:=h2;obtain⟨a1,c1,rfl,_⟩:=r1;obtain⟨a2,c2,rfl,_⟩:=r2;cases ht:twoB xs ys
 ·
  go_enter Tryz.func94,Tryz.ntmps94
  go_wp2_with fail
  refine (areAlike_any _ _ _ _ _ h1 h2 n1 n2).mono ?_;rintro e w' ⟨rfl,rfl⟩;go_wp2;go_ret;exact⟨_,rfl,by unfold mixL;rw[ht];exact row_empty _ _,(Keep.refl _).alloc _⟩
 ·
  obtain⟨hl,wx,wy⟩:=twoB_iff.1 ht;have hx12:=webB_len wx;have hy12:=webB_len wy;have HL:Hid (xs.length=ys.length):=hl;have HM:Hid (mixL notI xs ys=List.zipWith notI xs ys):=by show mixL notI xs ys=_;unfold mixL;rw[ht];rfl
  clear wx wy;have hl1:xs.length≤ys.length:=by omega
  have hl2:ys.length≤xs.length:=by omega
  clear hl;go_enter Tryz.func94,Tryz.ntmps94
  go_wp2_with fail
  refine (areAlike_any _ _ _ _ _ h1 h2 n1 n2).mono ?_;rintro e w' ⟨rfl,rfl⟩;go_wp2_with fail
  refine (owned_any _ _ _ h1 hx12).mono ?_;rintro e w1 ⟨rfl,ro,k1⟩;go_wp2_with fail
  obtain⟨a,c,hv,h2⟩:=h2;cases hv;go_loopw [19] (fun i wr=>∃k:Nat,k≤ys.length∧i = .int .i64 k∧RowAt wr w'.heap.size (mixK notI xs ys k)∧Keep w' wr) (fun i _=>ys.length-(intOf i).toNat)
  case atStart=>exact⟨0,Nat.zero_le _,rfl,ro,k1⟩
  case round=>
   obtain⟨k,hk,rfl,hr,hK⟩:=hrel;clear ro k1;by_cases hlt:k<ys.length
   ·
    rcases h2 with h|⟨b,o,rfl,hb,hc⟩
    · exfalso;rw[h] at hlt;simp at hlt
    have hkx:k<xs.length:=by omega
    have d0:=(hK.cell hb).trans (hc k hlt);have d1:=hr.cell (j:=k) (by rw[mixK_len notI HL.out];exact hkx);rw[mixK_get notI HL.out hkx] at d1;have d2:=hr.free k;have hs:=hr.set k (notI (xs.getD k 0) (ys.getD k 0));rw[mixK_set notI HL.out hkx] at hs;have hK2:Keep w' (wr.setCell ⟨w'.heap.size,k,none⟩ (.int .i64 (notI (xs.getD k 0) (ys.getD k 0)))):=hK.grown (grown_set wr w'.heap.size k _) (by simp);generalize xs.getD k 0=p at *;generalize ys.getD k 0=q at *;clear hc;go_wp2_with fail
    refine (without_any _ _ _).mono ?_;rintro e w2 ⟨rfl,rfl⟩;go_wp2;go_roundw;case rel=>exact⟨k+1,by omega,by go_num,hs,hK2⟩
    case measure=>simp[intOf];omega
   ·
    obtain rfl:k=ys.length:=by omega
    go_wp2;go_ret;refine⟨_,rfl,?_,hK⟩;rw[HM.out];rw[←HL.out,mixK_end notI HL.out] at hr;exact row_new hr (Nat.le_refl _) (by rw[List.length_zipWith];omega)
theorem implLess_any (w:World)(v1 v2:Value)(xs ys:List Int)(h1:Rd w v1 xs)(h2:Rd w v2 ys)(n1:xs.length≤1048576)(n2:ys.length≤1048576):
  Calls Tryz.prog 75 #[v1,v2] w fun e w'=>∃v',e = .returned v'∧Row w' w.heap.size v' (mixL notI xs ys)∧Keep w w':=by
 go_enter Tryz.func75,Tryz.ntmps75
 go_wp2_with fail
 refine (mixed_without _ _ _ _ _ h1 h2 n1 n2).mono ?_;rintro e w2 ⟨v',rfl,o,k⟩;go_wp2;go_ret;exact⟨_,rfl,o,k⟩
theorem liftI_bad {zs cl:List Int}(h:¬(webB zs=true∧cl.length=zs.length)):liftL zs cl=[]:=by unfold liftL;rw[if_neg h]
theorem implLifted_any (w:World)(v1 v2:Value)(xs ys:List Int)(h1:Rd w v1 xs)(h2:Rd w v2 ys)(n1:xs.length≤1048576)(_n2:ys.length≤1048576):
  Calls Tryz.prog 46 #[v1,v2] w fun e w'=>∃v',e = .returned v'∧Row w' w.heap.size v' (liftL xs ys)∧Keep w w':=by
 have r1:=h1;have r2:=h2;obtain⟨a1,c1,rfl,_⟩:=h1;obtain⟨a2,c2,rfl,_⟩:=h2;cases ha:webB xs
 ·
  go_enter Tryz.func46,Tryz.ntmps46
  go_wp2_with fail
  refine (implWebOk_any _ _ _ r1 n1).mono ?_;rintro e w' ⟨rfl,rfl⟩;go_wp2;go_ret;exact⟨_,rfl,by rw[liftI_bad (by simp[ha])];exact row_empty _ _,(Keep.refl _).alloc _⟩
 ·
  by_cases hl:ys.length=xs.length
  ·
   have hlb:((ys.length:Int) != (xs.length:Int))=false:=by simp[hl]
   have HL:Hid (ys.length=xs.length):=hl;have hx12:=webB_len ha;have hy12:ys.length≤12:=by omega
   have HW:Hid (Web xs.length xs):=web_iff.1 ha;have HE:Hid (mixL notI (thenL (thenL (matesL ys) xs) (matesL ys)) (matesL ys)=liftL xs ys):=lift_mates HW.out hl;have hm12:(matesL ys).length≤12:=by simp[matesL];exact hy12
   have ht12:(thenL (matesL ys) xs).length≤12:=by
    have h:=web_then (web_mates HW.out.1 hl).1 HW.out;have:=h.1.1;have:=h.1.2.1;omega
   have hu12:(thenL (thenL (matesL ys) xs) (matesL ys)).length≤12:=by
    have hm:=web_mates HW.out.1 hl;have h:=web_then (web_then hm.1 HW.out).1 hm.1;have:=h.1.1;have:=h.1.2.1;omega
   clear hl;go_enter Tryz.func46,Tryz.ntmps46
   go_wp2_with fail
   refine (implWebOk_any _ _ _ r1 n1).mono ?_;rintro e w' ⟨rfl,rfl⟩;go_wp2_with fail
   refine (mates_any _ _ _ r2 hy12).mono ?_;rintro e w1 ⟨vm,rfl,hm,k1⟩;have m1:=hm.rd;have x1:=r1.keep k1;clear hm r1 r2;go_wp2_with fail
   refine (implThen_any _ _ _ _ _ m1 x1 (by omega) (by omega)).mono ?_;rintro e w2 ⟨vt,rfl,ht,k2⟩;have t2:=ht.rd;have m2:=m1.keep k2;clear ht m1 x1;go_wp2_with fail
   refine (implThen_any _ _ _ _ _ t2 m2 (by omega) (by omega)).mono ?_;rintro e w3 ⟨vu,rfl,hu,k3⟩;have u3:=hu.rd;have m3:=m2.keep k3;clear hu t2 m2;go_wp2_with fail
   refine (implLess_any _ _ _ _ _ u3 m3 (by omega) (by omega)).mono ?_;rintro e w4 ⟨vq,rfl,hq,k4⟩;rw[HE.out] at hq;have K3:=(k1.trans k2).trans k3;have hs:=K3.size;go_wp2;go_ret;exact⟨_,rfl,hq.base_le hs,K3.trans k4⟩
  ·
   have hlb:((ys.length:Int) != (xs.length:Int))=true:=by simp;omega
   have HL:Hid (¬ys.length=xs.length):=hl;clear hl;go_enter Tryz.func46,Tryz.ntmps46
   go_wp2_with fail
   refine (implWebOk_any _ _ _ r1 n1).mono ?_;rintro e w' ⟨rfl,rfl⟩;go_wp2;go_ret;exact⟨_,rfl,by rw[liftI_bad (fun h=>HL.out h.2)];exact row_empty _ _,(Keep.refl _).alloc _⟩
end Go.Proofs.YtgikcfdckddgpabGreat
