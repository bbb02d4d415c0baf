/- Contract of the specification's ReadDeed: the deed of which this is the text, and whether there is one. -/
import Derived.Test.YtljamlgnobpjeaaGreatDoorPlaceS
import Derived.Test.YtljamlgnobpjeaaGreatDoorL4Show
import Derived.Test.YtljamlgnobpjeaaGreatDoorMC
import Derived.BigRegion
import Derived.Deep.Cut
namespace Go.Proofs.YtljamlgnobpjeaaGreatDoor
open Go.ChangeShapes Go.WideShapes Go.ChangeAt Go.RowKit

theorem kindUp_hit {x : List UInt8} {k : Nat} (h : kindL ((k : Int) + 1) = x) : kindUp x (k + 1) = (k : Int) + 1 := if_pos h
theorem kindUp_miss {x : List UInt8} {k : Nat} (h : ¬ kindL ((k : Int) + 1) = x) : kindUp x (k + 1) = kindUp x k := if_neg h
theorem l1Num_any (l : List UInt8) (w : World) (hl : l.length ≤ 1048576) :
    Calls Tryz.prog 51 #[strV l] w fun e w' => e = .returned (.tuple #[.int .i64 (numS l), .bool (readO l).isSome]) ∧ w' = w := l1Read_any l w hl
theorem word_mem {ws : List (List UInt8)} {i : Nat} (h : i < ws.length) : wordAt ws i ∈ ws := by
  unfold wordAt
  rw [List.getD_eq_getElem?_getD, List.getElem?_eq_getElem h]
  exact List.getElem_mem h
set_option maxRecDepth 100000 in
set_option maxHeartbeats 4000000 in
theorem specReadDeed_any (l : List UInt8) (w : World) (hl : l.length ≤ 1048576) :
    Calls Tryz.prog 28 #[strV l] w fun e w' => e = .returned (readV (fitS l) (gSk (splitL 32 l)) (gSp (splitL 32 l)) (gSv (splitL 32 l)) (gSg (splitL 32 l))) ∧ Keep w w' := by
  go_enter Tryz.func28, Tryz.ntmps28
  go_wp2_with fail
  refine (l1Split_any 32 l _ hl).mono ?_
  rintro e w1 ⟨vw, rfl, ow, k1⟩
  have rw1 := ow.rd
  have hlen := splitL_len 32 l
  have hne := splitL_ne 32 l
  have hword := splitL_word 32 l
  clear ow
  obtain ⟨ws, hws⟩ : ∃ ws, ws = splitL 32 l := ⟨_, rfl⟩
  have HWS : Hid (ws = splitL 32 l) := Lib.hid hws
  rw [← hws] at rw1 hlen hne hword
  clear hws
  have hl1 : 1 ≤ ws.length := by
    cases ws with
    | nil => exact absurd rfl hne
    | cons _ _ => simp
  obtain ⟨a, cap, rfl, hr⟩ := rw1
  obtain ⟨b, off, rfl, hb, hc⟩ : ∃ b off, a = some ⟨b, off, none⟩ ∧ b < w1.heap.size ∧ ∀ i, i < ws.length → w1.cell? ⟨b, off + i, none⟩ = some (strV (ws.getD i [])) := by
    rcases hr with h | h
    · exact absurd h hne
    · exact h
  clear hr
  obtain ⟨x, hx⟩ : ∃ x, x = wordAt ws 0 := ⟨_, rfl⟩
  have d0 : w1.cell? ⟨b, off, none⟩ = some (strV x) := by rw [hx]; exact hc 0 (by omega)
  have HX := Lib.hid hx
  clear hx
  go_wp2
  go_loopw [6] (fun i wr => ∃ k : Nat, k ≤ 4 ∧ i = .int .i64 k ∧ St w1 wr w1.heap.size (kindUp x k) 0 0 0) (fun i _ => 4 - (intOf i).toNat)
  case atStart => exact ⟨0, Nat.zero_le _, rfl, St.start 0 0 0 0⟩
  case round =>
    obtain ⟨k, hk, rfl, hS⟩ := hrel
    have hK := hS.keep1
    have e0 := (hK.cell hb).trans d0
    have hbs : b < wr.heap.size := Nat.lt_of_lt_of_le hb hK.size
    obtain ⟨s0, s1, s2, s3⟩ := hS.cells
    have f0 := hS.free 0
    have hDs := hS.size
    by_cases hlt : k < 4
    · have hk4 : k = 0 ∨ k = 1 ∨ k = 2 ∨ k = 3 := by omega
      rcases hk4 with rfl | rfl | rfl | rfl
      · by_cases hm : kindL 1 = x
        · have HU : Hid (kindUp x 1 = 1) := Lib.hid (kindUp_hit (k := 0) hm)
          subst hm
          go_wp2
          go_region
          go_wp2
          go_roundw
          case rel => exact ⟨1, by omega, rfl, by rw [HU.out]; exact ((hS.set0 _).keep ((Keep.refl _).alloc _)).keep ((Keep.refl _).drew)⟩
          case measure => simp [intOf]
        · have HU : Hid (kindUp x 1 = kindUp x 0) := Lib.hid (kindUp_miss (k := 0) hm)
          have hmb : (x == [114, 101, 97, 100]) = false := by
            rw [beq_eq_false_iff_ne]
            exact fun h => hm h.symm
          clear hm
          go_wp2
          go_region
          go_wp2
          go_roundw
          case rel => exact ⟨1, by omega, rfl, by rw [HU.out]; exact (hS.keep ((Keep.refl _).alloc _)).keep ((Keep.refl _).drew)⟩
          case measure => simp [intOf]
      · by_cases hm : kindL 2 = x
        · have HU : Hid (kindUp x 2 = 2) := Lib.hid (kindUp_hit (k := 1) hm)
          subst hm
          go_wp2
          go_region
          go_wp2
          go_roundw
          case rel => exact ⟨2, by omega, rfl, by rw [HU.out]; exact ((hS.set0 _).keep ((Keep.refl _).alloc _)).keep ((Keep.refl _).drew)⟩
          case measure => simp [intOf]
        · have HU : Hid (kindUp x 2 = kindUp x 1) := Lib.hid (kindUp_miss (k := 1) hm)
          have hmb : (x == [119, 114, 105, 116, 101]) = false := by
            rw [beq_eq_false_iff_ne]
            exact fun h => hm h.symm
          clear hm
          go_wp2
          go_region
          go_wp2
          go_roundw
          case rel => exact ⟨2, by omega, rfl, by rw [HU.out]; exact (hS.keep ((Keep.refl _).alloc _)).keep ((Keep.refl _).drew)⟩
          case measure => simp [intOf]
      · by_cases hm : kindL 3 = x
        · have HU : Hid (kindUp x 3 = 3) := Lib.hid (kindUp_hit (k := 2) hm)
          subst hm
          go_wp2
          go_region
          go_wp2
          go_roundw
          case rel => exact ⟨3, by omega, rfl, by rw [HU.out]; exact ((hS.set0 _).keep ((Keep.refl _).alloc _)).keep ((Keep.refl _).drew)⟩
          case measure => simp [intOf]
        · have HU : Hid (kindUp x 3 = kindUp x 2) := Lib.hid (kindUp_miss (k := 2) hm)
          have hmb : (x == [115, 119, 97, 112]) = false := by
            rw [beq_eq_false_iff_ne]
            exact fun h => hm h.symm
          clear hm
          go_wp2
          go_region
          go_wp2
          go_roundw
          case rel => exact ⟨3, by omega, rfl, by rw [HU.out]; exact (hS.keep ((Keep.refl _).alloc _)).keep ((Keep.refl _).drew)⟩
          case measure => simp [intOf]
      · by_cases hm : kindL 4 = x
        · have HU : Hid (kindUp x 4 = 4) := Lib.hid (kindUp_hit (k := 3) hm)
          subst hm
          go_wp2
          go_region
          go_wp2
          go_roundw
          case rel => exact ⟨4, by omega, rfl, by rw [HU.out]; exact ((hS.set0 _).keep ((Keep.refl _).alloc _)).keep ((Keep.refl _).drew)⟩
          case measure => simp [intOf]
        · have HU : Hid (kindUp x 4 = kindUp x 3) := Lib.hid (kindUp_miss (k := 3) hm)
          have hmb : (x == [119, 97, 105, 116]) = false := by
            rw [beq_eq_false_iff_ne]
            exact fun h => hm h.symm
          clear hm
          go_wp2
          go_region
          go_wp2
          go_roundw
          case rel => exact ⟨4, by omega, rfl, by rw [HU.out]; exact (hS.keep ((Keep.refl _).alloc _)).keep ((Keep.refl _).drew)⟩
          case measure => simp [intOf]
    · obtain rfl : k = 4 := by omega
      rw [kindUp_four] at *
      obtain ⟨kn0, kn1⟩ := kindNo_in x
      obtain ⟨q, hq⟩ : ∃ q, q = kindNo x := ⟨_, rfl⟩
      have HK : Hid (gSk ws = q) := Lib.hid (by rw [hq, HX.out]; rfl)
      rw [← hq] at hS s0 kn0 kn1
      clear hlt hk hq d0 e0 HX
      go_upto_region 9 with fail
      go_cut [34] from 8 (fun s34 wx => s34 = .bool (hasP ws) ∧ wx = wr)
      case first =>
        by_cases h4 : q = 4
        · have HP : Hid (hasP ws = false) := Lib.hid (by unfold hasP; rw [HK.out]; simp [h4])
          subst h4
          go_wp2
          go_meet
          case rel => exact ⟨by rw [HP.out], rfl⟩
        · have h4b : (q != 4) = true := by simpa using h4
          have HP : Hid (hasP ws = decide (1 < ws.length)) := Lib.hid (by unfold hasP; rw [HK.out]; simp [h4])
          clear h4
          by_cases hm1 : 1 < ws.length
          · go_wp2
            go_meet
            case rel => exact ⟨by rw [HP.out]; simp [hm1]; omega, rfl⟩
          · go_wp2
            go_meet
            case rel => exact ⟨by rw [HP.out]; simp [hm1]; omega, rfl⟩
      case rest =>
        obtain ⟨rfl, rfl⟩ := hcut
        go_upto_if 34 with fail
        go_cut [7] from 8 (fun s7 wx => s7 = .int .i64 (atV ws : Nat) ∧ St w1 wx w1.heap.size q (gSp ws) 0 0)
        case first =>
          cases hP : hasP ws
          · have HA : Hid (atV ws = 1) := Lib.hid (by unfold atV; rw [hP]; rfl)
            have HB : Hid (gSp ws = 0) := Lib.hid (by unfold gSp; rw [hP]; rfl)
            go_wp2
            go_meet
            case rel => exact ⟨by rw [HA.out]; rfl, by rw [HB.out]; exact hS⟩
          · have HA : Hid (atV ws = 2) := Lib.hid (by unfold atV; rw [hP]; rfl)
            have HB : Hid (gSp ws = placeNo (wordAt ws 1)) := Lib.hid (by unfold gSp; rw [hP]; rfl)
            have hm1 : 1 < ws.length := by
              have := hP
              simp only [hasP, decide_eq_true_eq] at this
              exact this.2
            have e1 : wc.cell? ⟨b, off + 1, none⟩ = some (strV (wordAt ws 1)) := (hK.cell hb).trans (hc 1 hm1)
            go_wp2_with fail
            refine (l4Place_any _ _).mono ?_
            rintro e w2 ⟨rfl, k2⟩
            have hS2 := hS.keep k2
            obtain ⟨t0, t1, t2, t3⟩ := hS2.cells
            have f1 := hS2.free 1
            have hDs2 := hS2.size
            go_wp2
            go_meet
            case rel => exact ⟨by rw [HA.out]; rfl, by rw [HB.out]; exact hS2.set1 _⟩
        case rest =>
          obtain ⟨rfl, hS1⟩ := hcut
          clear hS s0 s1 s2 s3 f0 hDs hK hbs kn0 kn1
          have hK := hS1.keep1
          have hbs : b < wc.heap.size := Nat.lt_of_lt_of_le hb hK.size
          obtain ⟨s0, s1, s2, s3⟩ := hS1.cells
          have hDs := hS1.size
          obtain ⟨m, hm⟩ : ∃ m, m = atV ws := ⟨_, rfl⟩
          have HM : Hid (atV ws = m) := Lib.hid hm.symm
          have hm2 : m ≤ 2 := by rw [hm]; unfold atV; split <;> omega
          obtain ⟨p, hp⟩ : ∃ p, p = gSp ws := ⟨_, rfl⟩
          have HPP : Hid (gSp ws = p) := Lib.hid hp.symm
          rw [← hp] at hS1 s1
          rw [← hm]
          clear hm hp
          go_upto_region 12 with fail
          go_cut [56] from 8 (fun s56 wx => s56 = .bool (hasV ws) ∧ wx = wc)
          case first =>
            have HV0 : Hid (hasV ws = decide ((q = 2 ∨ q = 3) ∧ m < ws.length)) := Lib.hid (by unfold hasV; rw [HK.out, HM.out])
            by_cases h2 : q = 2
            · subst h2
              go_wp2
              go_meet
              case rel => exact ⟨by rw [HV0.out]; simp, rfl⟩
            · have h2b : (q == 2) = false := by simpa using h2
              by_cases h3 : q = 3
              · subst h3
                go_wp2
                go_meet
                case rel => exact ⟨by rw [HV0.out]; simp, rfl⟩
              · have h3b : (q == 3) = false := by simpa using h3
                have HV1 : Hid (hasV ws = false) := Lib.hid (by rw [HV0.out]; simp [h2, h3])
                clear h2 h3
                go_wp2
                go_meet
                case rel => exact ⟨by rw [HV1.out], rfl⟩
          case rest =>
            obtain ⟨rfl, rfl⟩ := hcut
            go_upto_if 56 with fail
            go_cut [7] from 8 (fun s7 wx => s7 = .int .i64 (atG ws : Nat) ∧ St w1 wx w1.heap.size q p (gSv ws) 0)
            case first =>
              cases hV : hasV ws
              · have HA : Hid (atG ws = m) := Lib.hid (by unfold atG; rw [hV, HM.out]; rfl)
                have HB : Hid (gSv ws = 0) := Lib.hid (by unfold gSv; rw [hV]; rfl)
                go_wp2
                go_meet
                case rel => exact ⟨by rw [HA.out], by rw [HB.out]; exact hS1⟩
              · have HA : Hid (atG ws = m + 1) := Lib.hid (by unfold atG; rw [hV, HM.out]; rfl)
                have HB : Hid (gSv ws = numS (wordAt ws m)) := Lib.hid (by unfold gSv; rw [hV, HM.out]; rfl)
                have hm1 : m < ws.length := by
                  have := hV
                  simp only [hasV, HM.out, decide_eq_true_eq] at this
                  exact this.2
                have e1 : wc.cell? ⟨b, off + m, none⟩ = some (strV (wordAt ws m)) := (hK.cell hb).trans (hc m hm1)
                have hy := hword _ (word_mem hm1)
                have f2 := hS1.free 2
                go_wp2_with fail
                refine (l1Num_any _ _ (by omega)).mono ?_
                rintro e w2 ⟨rfl, rfl⟩
                go_wp2
                go_meet
                case rel => exact ⟨by rw [HA.out]; simp, by rw [HB.out]; exact hS1.set2 _⟩
            case rest =>
              obtain ⟨rfl, hS2⟩ := hcut
              clear hS1 s0 s1 s2 s3 hDs hK hbs
              have hK := hS2.keep1
              have hbs : b < wc.heap.size := Nat.lt_of_lt_of_le hb hK.size
              obtain ⟨s0, s1, s2, s3⟩ := hS2.cells
              have hDs := hS2.size
              obtain ⟨m2, hm⟩ : ∃ m2, m2 = atG ws := ⟨_, rfl⟩
              have HM2 : Hid (atG ws = m2) := Lib.hid hm.symm
              have hm3 : m2 ≤ 3 := by rw [hm]; unfold atG; rw [HM.out]; split <;> omega
              obtain ⟨v, hv⟩ : ∃ v, v = gSv ws := ⟨_, rfl⟩
              have HVV : Hid (gSv ws = v) := Lib.hid hv.symm
              rw [← hv] at hS2 s2
              rw [← hm]
              clear hm hv
              go_upto_region 15 with fail
              go_cut [79] from 8 (fun s79 wx => s79 = .bool (hasG ws) ∧ wx = wc)
              case first =>
                have HG0 : Hid (hasG ws = decide (ws.length = m2 + 2 ∧ wordAt ws m2 = [105, 110])) := Lib.hid (by unfold hasG; rw [HM2.out])
                by_cases hl2 : ws.length = m2 + 2
                · have hlb : ((ws.length : Int) == (m2 : Int) + 2) = true := by simp; omega
                  have hm1 : m2 < ws.length := by omega
                  have e1 : wc.cell? ⟨b, off + m2, none⟩ = some (strV (wordAt ws m2)) := (hK.cell hb).trans (hc m2 hm1)
                  obtain ⟨y, hy⟩ : ∃ y, y = wordAt ws m2 := ⟨_, rfl⟩
                  have HG1 : Hid (hasG ws = decide (y = [105, 110])) := Lib.hid (by rw [HG0.out, hy]; simp [hl2])
                  rw [← hy] at e1
                  clear hl2 hy
                  go_wp2
                  go_meet
                  case rel => exact ⟨by rw [HG1.out]; congr 1; rw [Bool.eq_iff_iff]; simp, rfl⟩
                · have hlb : ((ws.length : Int) == (m2 : Int) + 2) = false := by simp; omega
                  have HG1 : Hid (hasG ws = false) := Lib.hid (by rw [HG0.out]; simp [hl2])
                  clear hl2
                  go_wp2
                  go_meet
                  case rel => exact ⟨by rw [HG1.out], rfl⟩
              case rest =>
                obtain ⟨rfl, rfl⟩ := hcut
                go_upto_if 79 with fail
                go_cut [] from 8 (fun wx => St w1 wx w1.heap.size q p v (gSg ws))
                case first =>
                  cases hG : hasG ws
                  · have HB : Hid (gSg ws = 0) := Lib.hid (by unfold gSg; rw [hG]; rfl)
                    go_wp2
                    go_meet
                    case rel => rw [HB.out]; exact hS2
                  · have HB : Hid (gSg ws = numS (wordAt ws (m2 + 1))) := Lib.hid (by unfold gSg; rw [hG, HM2.out]; rfl)
                    have hm1 : m2 + 1 < ws.length := by
                      have := hG
                      simp only [hasG, HM2.out, decide_eq_true_eq] at this
                      omega
                    have e1 : wc.cell? ⟨b, off + (m2 + 1), none⟩ = some (strV (wordAt ws (m2 + 1))) := (hK.cell hb).trans (hc (m2 + 1) hm1)
                    have hy := hword _ (word_mem hm1)
                    have f3 := hS2.free 3
                    go_wp2_with fail
                    refine (l1Num_any _ _ (by omega)).mono ?_
                    rintro e w2 ⟨rfl, rfl⟩
                    go_wp2
                    go_meet
                    case rel => rw [HB.out]; exact hS2.set3 _
                case rest =>
                  have hS3 := hcut
                  clear hcut hS2 s0 s1 s2 s3 hDs hK hbs
                  obtain ⟨g, hg⟩ : ∃ g, g = gSg ws := ⟨_, rfl⟩
                  have HGG : Hid (gSg ws = g) := Lib.hid hg.symm
                  rw [← hg] at hS3
                  clear hg
                  have hK := hS3.keep1
                  obtain ⟨s0, s1, s2, s3⟩ := hS3.cells
                  have hDs := hS3.size
                  have HF : Hid (fitS l = fits l q p v g) := Lib.hid (by unfold fitS; rw [← HWS.out, HK.out, HPP.out, HVV.out, HGG.out])
                  cases hd : deedB q p v g
                  · have HR : Hid (readV (fitS l) (gSk (splitL 32 l)) (gSp (splitL 32 l)) (gSv (splitL 32 l)) (gSg (splitL 32 l)) = .tuple #[deedV 0 0 0 0, .bool false]) := Lib.hid (by rw [HF.out]; simp [fits, hd, readV])
                    go_wp2_with fail
                    refine (specDeedOk_any _ _ _ _ _).mono ?_
                    rintro e w2 ⟨rfl, k2⟩
                    have hR : St w w2 w.heap.size 0 0 0 0 := St.keep (St.start 0 0 0 0) ((k1.trans hK).trans k2)
                    obtain ⟨r0, r1, r2, r3⟩ := hR.cells
                    have g0 := hR.free 0
                    have g1 := hR.free 1
                    have g2 := hR.free 2
                    have g3 := hR.free 3
                    go_wp2
                    have hZ := (((hR.set0 0).set1 0).set2 0).set3 0
                    refine bodyPost_ret (results_row_tmp (by rfl) _ _ w.heap.size _ _ (0, 0) _ (.bool false) rfl hZ.1 rfl Tryz.underlying53 rfl (by kernel_rfl)) rfl ?_
                    exact ⟨by rw [HR.out], hZ.keep1⟩
                  · by_cases hsh : showL q p v g = l
                    · have HR : Hid (readV (fitS l) (gSk (splitL 32 l)) (gSp (splitL 32 l)) (gSv (splitL 32 l)) (gSg (splitL 32 l)) = .tuple #[deedV q p v g, .bool true]) := Lib.hid (by rw [HF.out, ← HWS.out, HK.out, HPP.out, HVV.out, HGG.out]; simp [fits, hd, readV, hsh])
                      have hshb : (showL q p v g == l) = true := by simpa using hsh
                      clear hsh
                      go_wp2_with fail
                      refine (specDeedOk_any _ _ _ _ _).mono ?_
                      rintro e w2 ⟨rfl, k2⟩
                      obtain ⟨t0, t1, t2, t3⟩ := (hS3.keep k2).cells
                      go_wp2_with fail
                      refine (l4Show_any _ _ _ _ _ hd).mono ?_
                      rintro e w3 ⟨rfl, k3⟩
                      obtain ⟨x0, x1, x2, x3⟩ := (hS3.keep (k2.trans k3)).cells
                      have hR : St w w3 w.heap.size 0 0 0 0 := St.keep (St.start 0 0 0 0) ((k1.trans hK).trans (k2.trans k3))
                      obtain ⟨r0, r1, r2, r3⟩ := hR.cells
                      have g0 := hR.free 0
                      have g1 := hR.free 1
                      have g2 := hR.free 2
                      have g3 := hR.free 3
                      go_wp2
                      have hZ := (((hR.set0 q).set1 p).set2 v).set3 g
                      refine bodyPost_ret (results_row_tmp (by rfl) _ _ w.heap.size _ _ (0, 0) _ (.bool true) rfl hZ.1 rfl Tryz.underlying53 rfl (by kernel_rfl)) rfl ?_
                      exact ⟨by rw [HR.out], hZ.keep1⟩
                    · have HR : Hid (readV (fitS l) (gSk (splitL 32 l)) (gSp (splitL 32 l)) (gSv (splitL 32 l)) (gSg (splitL 32 l)) = .tuple #[deedV 0 0 0 0, .bool false]) := Lib.hid (by rw [HF.out]; simp [fits, hsh, readV])
                      have hshb : (showL q p v g == l) = false := by simpa using hsh
                      clear hsh
                      go_wp2_with fail
                      refine (specDeedOk_any _ _ _ _ _).mono ?_
                      rintro e w2 ⟨rfl, k2⟩
                      obtain ⟨t0, t1, t2, t3⟩ := (hS3.keep k2).cells
                      go_wp2_with fail
                      refine (l4Show_any _ _ _ _ _ hd).mono ?_
                      rintro e w3 ⟨rfl, k3⟩
                      have hR : St w w3 w.heap.size 0 0 0 0 := St.keep (St.start 0 0 0 0) ((k1.trans hK).trans (k2.trans k3))
                      obtain ⟨r0, r1, r2, r3⟩ := hR.cells
                      have g0 := hR.free 0
                      have g1 := hR.free 1
                      have g2 := hR.free 2
                      have g3 := hR.free 3
                      go_wp2
                      have hZ := (((hR.set0 0).set1 0).set2 0).set3 0
                      refine bodyPost_ret (results_row_tmp (by rfl) _ _ w.heap.size _ _ (0, 0) _ (.bool false) rfl hZ.1 rfl Tryz.underlying53 rfl (by kernel_rfl)) rfl ?_
                      exact ⟨by rw [HR.out], hZ.keep1⟩
end Go.Proofs.YtljamlgnobpjeaaGreatDoor
