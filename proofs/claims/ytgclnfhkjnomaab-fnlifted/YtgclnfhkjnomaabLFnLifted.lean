/- Whatever bytes the web and the classes are drawn from, the program's Lifted answers as the specification does; a line is lifted just where the classes are unlike and one of the one leads to one of the other: the law FnLifted answers true and its argument stays; no condition. -/
import Derived.Test.YtgclnfhkjnomaabRows
import Derived.WalkKit
import Derived.ProofKit
import Derived.OpenShut
import Derived.ShutString
import Derived.ChangeOld
import Derived.Below
import Derived.Test.YtgclnfhkjnomaabLiftedI
import Derived.Test.YtgclnfhkjnomaabLiftS
import Derived.Test.YtgclnfhkjnomaabLiftDraw
import Derived.Test.YtgclnfhkjnomaabLiftLaw
import Derived.Test.YtgclnfhkjnomaabLawA
namespace Go.Proofs.Ytgclnfhkjnomaab.fnLifted
open Go.ChangeShapes Go.WideShapes Go.ChangeAt Go.RowKit
open Go.ChangeMaps (open_string shut_string)
set_option linter.unusedVariables false

theorem own : ownKnob Try.prog.godebug = none := by kernel_rfl
theorem laidOut : laidOutB Try.prog = true := by kernel_rfl

/-- WHAT THE WALK IS TOLD OF A SLICE OF INTEGERS THAT CAME IN: it is nil; or it leads to a row of 'cap' cells, the numbers 'zs' (the first 'len' are its elements, the rest its spare room), each fitting its kind. -/
def IsRow (k : IntKind) (w : World) (a : Option Addr) (len cap : Nat) (zs : List Int) : Prop :=
  (a = none ∧ len = 0 ∧ cap = 0 ∧ zs = []) ∨
  ∃ x, a = some x ∧ len ≤ cap ∧ cap ≤ maxLen ∧ zs.length = cap ∧ (∀ i, i < zs.length → w.cell? (x.add i) = some (.int k (zs.getD i 0))) ∧ ∀ n ∈ zs, (Lit.int k n).wf = true

set_option maxRecDepth 100000 in
set_option maxHeartbeats 8000000 in
theorem walk (a0 : Option Addr) (len0 cap0 : Nat) (z0 : List Int) (w : World) (w0 : IsRow .u8 w a0 len0 cap0 z0) :
    Calls Try.prog 3 #[.slice a0 len0 cap0] w fun e w' => e = .returned (.bool true) ∧ Below w.heap.size w w' := by
  by_cases hbig : 4096 < len0
  · have hb : decide (4096 < len0) = true := by simpa using hbig
    go_enter Try.func3, Try.ntmps3
    go_wp2_with (go_at_call 4; refine (big_any _ _ _ _).mono ?_; rintro e w' ⟨rfl, rfl⟩)
    go_ret
    exact ⟨rfl, Below.refl _ _⟩
  · obtain ⟨zs, hzl, hrb⟩ := rdb_of_row (by omega) w0
    subst hzl
    have hb : decide (4096 < zs.length) = false := by simpa using hbig
    clear w0 hbig
    go_enter Try.func3, Try.ntmps3
    go_wp2_with fail
    refine (big_any _ _ _ _).mono ?_
    rintro e w1 ⟨rfl, rfl⟩
    go_wp2_with fail
    refine (drawLifted_any _ _ _ _ hrb).mono ?_
    rintro e w2 ⟨vr, vc, la, lb, rfl, rr, rc, hla, hlb, k2⟩
    clear hrb
    have hr := rr.rd
    have hc := rc.rd
    clear rr rc
    have s1 := hr
    have s2 := hc
    obtain ⟨ar, cr, rfl, _⟩ := s1
    obtain ⟨ac, cc, rfl, _⟩ := s2
    have hx12 := liftL_len la lb
    go_wp2_with fail
    refine (implLifted_any _ _ _ _ _ hr hc (by omega) (by omega)).mono ?_
    rintro e w3 ⟨vx, rfl, rx, k3⟩
    have hr3 := hr.keep k3
    have hc3 := hc.keep k3
    have K3 := k2.trans k3
    have hx3 := rx.rd
    clear hr hc k2 k3 rx
    have s3 := hx3
    obtain ⟨ax, cx, rfl, _⟩ := s3
    go_wp2_with fail
    refine (specLifted_any _ _ _ _ _ hr3 hc3 (by omega) (by omega)).mono ?_
    rintro e w4 ⟨vy, rfl, ry, k4⟩
    have hr4 := hr3.keep k4
    have hc4 := hc3.keep k4
    have hx4 := hx3.keep k4
    have K4 := K3.trans k4
    clear hr3 hc3 hx3 K3 k4
    have e0 : decide (liftL la lb = liftL la lb) = true := by simp
    go_wp2_with fail
    refine (like_any _ _ _ _ _ hx4 ry.rd (by omega)).mono ?_
    rintro e w5 ⟨rfl, k5⟩
    have hr5 := hr4.keep k5
    have hc5 := hc4.keep k5
    have hx5 := hx4.keep k5
    have K5 := K4.trans k5
    clear hr4 hc4 hx4 K4 k5 ry
    cases hweb : webB la
    · have HN : Hid (liftL la lb = []) := lift_none (fun h => by rw [hweb] at h; cases h.1)
      have hx0 : (((liftL la lb).length : Int) == 0) = true := by rw [HN.out]; rfl
      go_wp2_with fail
      refine (specWebOk_any _ _ _ hr5 (by omega)).mono ?_
      rintro e w6 ⟨rfl, rfl⟩
      go_wp2
      go_ret
      exact ⟨rfl, K5⟩
    · by_cases hl : lb.length = la.length
      · have hlb' : ((lb.length : Int) != (la.length : Int)) = false := by simp [hl]
        have HL : Hid (lb.length = la.length) := hl
        have HW : Hid (Web la.length la) := web_iff.1 hweb
        have HXB : Hid (webB (liftL la lb) = true) := (lift_web HW.out hl).1
        have l1 : lb.length ≤ la.length := by omega
        have l2 : la.length ≤ lb.length := by omega
        have x1 : (liftL la lb).length ≤ la.length := by have := (lift_web HW.out hl).2; omega
        have x2 : la.length ≤ (liftL la lb).length := by have := (lift_web HW.out hl).2; omega
        have HAll : Hid (∀ i k : Nat, i < la.length → k < la.length → inSetB ((liftL la lb).getD i 0) k = (allB la lb (lb.getD i 0) (lb.getD k 0) la.length la.length && !decide (lb.getD i 0 = lb.getD k 0))) := fun i k hi hk => lift_all HW.out hl hi hk
        have HSame : Hid (∀ i k : Nat, i < la.length → k < la.length → lb.getD i 0 = lb.getD k 0 → (liftL la lb).getD k 0 = (liftL la lb).getD i 0 ∧ inSetB ((liftL la lb).getD i 0) k = false) := fun i k hi hk => lift_same HW.out hl hi hk
        have HLine : Hid (∀ i k : Nat, i < la.length → k < la.length → ¬ lb.getD i 0 = lb.getD k 0 → inSetB (la.getD i 0) k = true → inSetB ((liftL la lb).getD i 0) k = true) := fun i k hi hk => lift_line HW.out hl hi hk
        have hla12 : la.length ≤ 12 := webB_len hweb
        generalize liftL la lb = X at *
        clear hl
        go_wp2_with fail
        refine (specWebOk_any _ _ _ hr5 (by omega)).mono ?_
        rintro e w6 ⟨rfl, rfl⟩
        have hxr := hx5
        obtain ⟨ar', cr', hv, hrc⟩ := hr5
        cases hv
        obtain ⟨ac', cc', hv, hcc⟩ := hc5
        cases hv
        obtain ⟨ax', cx', hv, hxc⟩ := hx5
        cases hv
        go_wp2_with fail
        clear hlb' hweb e0
        go_loopw [6] (fun i wr => ∃ k : Nat, k ≤ la.length ∧ i = .int .i64 k ∧ Keep w6 wr) (fun i _ => la.length - (intOf i).toNat)
        case atStart => exact ⟨0, Nat.zero_le _, rfl, Keep.refl _⟩
        case round =>
          obtain ⟨i, hi, rfl, hK⟩ := hrel
          by_cases hlt : i < la.length
          · rcases hrc with h | ⟨b1, o1, rfl, hb1, hc1⟩
            · exfalso; rw [h] at hlt; simp at hlt
            rcases hcc with h | ⟨b2, o2, rfl, hb2, hc2⟩
            · exfalso; rw [h] at l2; simp at l2; rw [l2] at hlt; simp at hlt
            rcases hxc with h | ⟨b3, o3, rfl, hb3, hc3⟩
            · exfalso; rw [h] at x2; simp at x2; rw [x2] at hlt; simp at hlt
            obtain ⟨wo, rfl⟩ : ∃ wo : World, wo = wr := ⟨_, rfl⟩
            go_wp2_with fail
            go_loopw [7] (fun k wr => ∃ m : Nat, m ≤ la.length ∧ k = .int .i64 m ∧ Keep w6 wr) (fun k _ => la.length - (intOf k).toNat)
            case atStart => exact ⟨0, Nat.zero_le _, rfl, hK⟩
            case round =>
              clear hK
              obtain ⟨k, hk, rfl, hK⟩ := hrel
              by_cases hkl : k < la.length
              · skip
                have HF : Hid (inSetB (X.getD i 0) k = (allB la lb (lb.getD i 0) (lb.getD k 0) la.length la.length && !decide (lb.getD i 0 = lb.getD k 0))) := HAll.out i k hlt hkl
                have HSa : Hid (lb.getD i 0 = lb.getD k 0 → X.getD k 0 = X.getD i 0 ∧ inSetB (X.getD i 0) k = false) := HSame.out i k hlt hkl
                have HLi : Hid (¬ lb.getD i 0 = lb.getD k 0 → inSetB (la.getD i 0) k = true → inSetB (X.getD i 0) k = true) := HLine.out i k hlt hkl
                obtain ⟨p, hp0⟩ : ∃ p, p = lb.getD i 0 := ⟨_, rfl⟩
                have Hp : Hid (p = lb.getD i 0) := hp0
                obtain ⟨q, hq0⟩ : ∃ q, q = lb.getD k 0 := ⟨_, rfl⟩
                have Hq : Hid (q = lb.getD k 0) := hq0
                obtain ⟨xi, hx0⟩ : ∃ xi, xi = X.getD i 0 := ⟨_, rfl⟩
                have Hxi : Hid (xi = X.getD i 0) := hx0
                obtain ⟨xk, hx1⟩ : ∃ xk, xk = X.getD k 0 := ⟨_, rfl⟩
                have Hxk : Hid (xk = X.getD k 0) := hx1
                obtain ⟨ri, hr0⟩ : ∃ ri, ri = la.getD i 0 := ⟨_, rfl⟩
                have Hri : Hid (ri = la.getD i 0) := hr0
                rw [← hp0, ← hq0, ← hx0] at HF
                rw [← hp0, ← hq0, ← hx0, ← hx1] at HSa
                rw [← hp0, ← hq0, ← hx0, ← hr0] at HLi
                clear hp0 hq0 hx0 hx1 hr0
                have dci := (hK.cell hb2).trans (hc2 i (by omega))
                rw [← Hp.out] at dci
                have dck := (hK.cell hb2).trans (hc2 k (by omega))
                rw [← Hq.out] at dck
                have dxi := (hK.cell hb3).trans (hc3 i (by omega))
                rw [← Hxi.out] at dxi
                have dxk := (hK.cell hb3).trans (hc3 k (by omega))
                rw [← Hxk.out] at dxk
                have dri := (hK.cell hb1).trans (hc1 i (by omega))
                rw [← Hri.out] at dri
                have i1 : (0 : Int) ≤ (i : Int) := Int.natCast_nonneg _
                have i2 : (i : Int) < (la.length : Int) := by omega
                have i3 : (i : Int) < (lb.length : Int) := by omega
                have i4 : (i : Int) < (X.length : Int) := by omega
                have i5 : (0 : Int) ≤ (k : Int) := Int.natCast_nonneg _
                have i6 : (k : Int) < (lb.length : Int) := by omega
                have i7 : (k : Int) < (X.length : Int) := by omega
                obtain ⟨wa, rfl⟩ : ∃ wa : World, wa = wr := ⟨_, rfl⟩
                cases hpq : p == q
                · have hpn : (p != q) = true := by simpa using hpq
                  have HV : Hid (¬ p = q) := by show ¬ p = q; simpa using hpq
                  cases hin2 : inSetB ri k
                  · go_wp2
                    go_quiet ((go_at_call 10; refine Calls.quiet_of_same (implInSet_any _ _ _)))
                    have hK1 := hK.drewN nq
                    clear dci dck dxi dxk dri
                    go_wp2_with fail
                    go_loopw [8, 9] (fun s a wr => ∃ m : Nat, m ≤ la.length ∧ a = .int .i64 m ∧ s = .bool (allB la lb p q la.length m) ∧ Keep w6 wr) (fun _ a _ => la.length - (intOf a).toNat)
                    case atStart => exact ⟨0, Nat.zero_le _, rfl, rfl, hK1⟩
                    case round =>
                      clear hK hK1
                      obtain ⟨a, ha, rfl, rfl, hK⟩ := hrel
                      by_cases hal : a < la.length
                      · have HT : Hid (allB la lb p q la.length (a + 1) = (allB la lb p q la.length a || rowB la lb p q a la.length)) := rfl
                        generalize allB la lb p q la.length a = S at *
                        obtain ⟨wb, rfl⟩ : ∃ wb : World, wb = wr := ⟨_, rfl⟩
                        go_wp2_with fail
                        go_loopw [8, 10] (fun s b wr => ∃ m : Nat, m ≤ la.length ∧ b = .int .i64 m ∧ s = .bool (S || rowB la lb p q a m) ∧ Keep w6 wr) (fun _ b _ => la.length - (intOf b).toNat)
                        case atStart => exact ⟨0, Nat.zero_le _, rfl, by show Value.bool S = Value.bool (S || false); rw [Bool.or_false], hK⟩
                        case round =>
                          clear hK
                          obtain ⟨b, hbl, rfl, rfl, hK⟩ := hrel
                          by_cases hbn : b < la.length
                          · obtain ⟨A, hA0⟩ : ∃ A, A = lb.getD a 0 := ⟨_, rfl⟩
                            have HA : Hid (A = lb.getD a 0) := hA0
                            obtain ⟨C, hC0⟩ : ∃ C, C = lb.getD b 0 := ⟨_, rfl⟩
                            have HC : Hid (C = lb.getD b 0) := hC0
                            obtain ⟨ra, hR0⟩ : ∃ ra, ra = la.getD a 0 := ⟨_, rfl⟩
                            have HRa : Hid (ra = la.getD a 0) := hR0
                            clear hA0 hC0 hR0
                            have dca := (hK.cell hb2).trans (hc2 a (by omega))
                            rw [← HA.out] at dca
                            have dcb := (hK.cell hb2).trans (hc2 b (by omega))
                            rw [← HC.out] at dcb
                            have dra := (hK.cell hb1).trans (hc1 a (by omega))
                            rw [← HRa.out] at dra
                            have dci := (hK.cell hb2).trans (hc2 i (by omega))
                            rw [← Hp.out] at dci
                            have dck := (hK.cell hb2).trans (hc2 k (by omega))
                            rw [← Hq.out] at dck
                            have j1 : (0 : Int) ≤ (a : Int) := Int.natCast_nonneg _
                            have j2 : (a : Int) < (la.length : Int) := by omega
                            have j3 : (a : Int) < (lb.length : Int) := by omega
                            have j4 : (0 : Int) ≤ (b : Int) := Int.natCast_nonneg _
                            have j5 : (b : Int) < (lb.length : Int) := by omega
                            clear hc1 hc2 hc3
                            have HS : Hid ((S || rowB la lb p q a (b + 1)) = ((S || rowB la lb p q a b) || (decide (A = p) && decide (C = q) && inSetB ra b))) := by
                              show _ = _
                              rw [rowB_step HA.out HC.out HRa.out, Bool.or_assoc]
                            generalize (S || rowB la lb p q a b) = S2 at *
                            cases S2
                            · cases hA : A == p
                              · have HN : Hid ((S || rowB la lb p q a (b + 1)) = false) := by
                                  show _ = _
                                  have e1 : decide (A = p) = false := by simpa using hA
                                  rw [HS.out, e1]; rfl
                                go_wp2
                                go_quiet (fail)
                                have hK2 := hK.drewN nq
                                go_wp2
                                go_roundw
                                case rel => exact ⟨b + 1, by omega, by go_num, by rw [HN.out], hK2⟩
                                case measure => simp [intOf]; omega
                              · cases hC : C == q
                                · have HN : Hid ((S || rowB la lb p q a (b + 1)) = false) := by
                                    show _ = _
                                    have e1 : decide (C = q) = false := by simpa using hC
                                    rw [HS.out, e1]; simp
                                  go_wp2
                                  go_quiet (fail)
                                  have hK2 := hK.drewN nq
                                  go_wp2
                                  go_roundw
                                  case rel => exact ⟨b + 1, by omega, by go_num, by rw [HN.out], hK2⟩
                                  case measure => simp [intOf]; omega
                                · cases hin : inSetB ra b
                                  · have HN : Hid ((S || rowB la lb p q a (b + 1)) = false) := by
                                      show _ = _
                                      rw [HS.out, hin]; simp
                                    go_wp2
                                    go_quiet ((go_at_call 10; refine Calls.quiet_of_same (implInSet_any _ _ _)))
                                    have hK2 := hK.drewN nq
                                    go_wp2
                                    go_roundw
                                    case rel => exact ⟨b + 1, by omega, by go_num, by rw [HN.out], hK2⟩
                                    case measure => simp [intOf]; omega
                                  · have HN : Hid ((S || rowB la lb p q a (b + 1)) = true) := by
                                      show _ = _
                                      have e1 : decide (A = p) = true := by simpa using hA
                                      have e2 : decide (C = q) = true := by simpa using hC
                                      rw [HS.out, e1, e2, hin]; rfl
                                    go_wp2
                                    go_quiet ((go_at_call 10; refine Calls.quiet_of_same (implInSet_any _ _ _)))
                                    have hK2 := hK.drewN nq
                                    go_wp2
                                    go_roundw
                                    case rel => exact ⟨b + 1, by omega, by go_num, by rw [HN.out], hK2⟩
                                    case measure => simp [intOf]; omega
                            · have HN : Hid ((S || rowB la lb p q a (b + 1)) = true) := by
                                show _ = _
                                rw [HS.out]; rfl
                              go_wp2
                              go_quiet (fail)
                              have hK2 := hK.drewN nq
                              go_wp2
                              go_roundw
                              case rel => exact ⟨b + 1, by omega, by go_num, by rw [HN.out], hK2⟩
                              case measure => simp [intOf]; omega
                          · obtain rfl : b = la.length := by omega
                            have HU : Hid (Value.bool (S || rowB la lb p q a la.length) = .bool (allB la lb p q la.length (a + 1))) := by show _ = _; rw [HT.out]
                            rw [HU.out]
                            go_wp2
                            go_roundw
                            case rel => exact ⟨a + 1, by omega, by go_num, rfl, hK⟩
                            case measure => simp [intOf]; omega
                      · obtain rfl : a = la.length := by omega
                        have dxi := (hK.cell hb3).trans (hc3 i (by omega))
                        rw [← Hxi.out] at dxi
                        have dci := (hK.cell hb2).trans (hc2 i (by omega))
                        rw [← Hp.out] at dci
                        have dck := (hK.cell hb2).trans (hc2 k (by omega))
                        rw [← Hq.out] at dck
                        clear hc1 hc2 hc3
                        have HF2 : Hid (inSetB xi k = allB la lb p q la.length la.length) := by
                          show _ = _
                          rw [HF.out]
                          have e1 : decide (p = q) = false := by simpa using hpq
                          rw [e1]; simp
                        generalize allB la lb p q la.length la.length = S at *
                        cases S
                        · have hin1 : inSetB xi k = false := HF2.out
                          go_wp2
                          go_quiet ((go_at_call 10; refine Calls.quiet_of_same (implInSet_any _ _ _)))
                          have hK2 := hK.drewN nq
                          go_wp2
                          go_roundw
                          case rel => exact ⟨k + 1, by omega, by go_num, hK2⟩
                          case measure => simp [intOf]; omega
                        · have hin1 : inSetB xi k = true := HF2.out
                          go_wp2
                          go_quiet ((go_at_call 10; refine Calls.quiet_of_same (implInSet_any _ _ _)))
                          have hK2 := hK.drewN nq
                          go_wp2
                          go_roundw
                          case rel => exact ⟨k + 1, by omega, by go_num, hK2⟩
                          case measure => simp [intOf]; omega
                  · have hin1 : inSetB xi k = true := HLi.out HV.out hin2
                    go_wp2
                    go_quiet ((go_at_call 10; refine Calls.quiet_of_same (implInSet_any _ _ _)))
                    have hK1 := hK.drewN nq
                    clear hin1
                    clear dci dck dxi dxk dri
                    go_wp2_with fail
                    go_loopw [8, 9] (fun s a wr => ∃ m : Nat, m ≤ la.length ∧ a = .int .i64 m ∧ s = .bool (allB la lb p q la.length m) ∧ Keep w6 wr) (fun _ a _ => la.length - (intOf a).toNat)
                    case atStart => exact ⟨0, Nat.zero_le _, rfl, rfl, hK1⟩
                    case round =>
                      clear hK hK1
                      obtain ⟨a, ha, rfl, rfl, hK⟩ := hrel
                      by_cases hal : a < la.length
                      · have HT : Hid (allB la lb p q la.length (a + 1) = (allB la lb p q la.length a || rowB la lb p q a la.length)) := rfl
                        generalize allB la lb p q la.length a = S at *
                        obtain ⟨wb, rfl⟩ : ∃ wb : World, wb = wr := ⟨_, rfl⟩
                        go_wp2_with fail
                        go_loopw [8, 10] (fun s b wr => ∃ m : Nat, m ≤ la.length ∧ b = .int .i64 m ∧ s = .bool (S || rowB la lb p q a m) ∧ Keep w6 wr) (fun _ b _ => la.length - (intOf b).toNat)
                        case atStart => exact ⟨0, Nat.zero_le _, rfl, by show Value.bool S = Value.bool (S || false); rw [Bool.or_false], hK⟩
                        case round =>
                          clear hK
                          obtain ⟨b, hbl, rfl, rfl, hK⟩ := hrel
                          by_cases hbn : b < la.length
                          · obtain ⟨A, hA0⟩ : ∃ A, A = lb.getD a 0 := ⟨_, rfl⟩
                            have HA : Hid (A = lb.getD a 0) := hA0
                            obtain ⟨C, hC0⟩ : ∃ C, C = lb.getD b 0 := ⟨_, rfl⟩
                            have HC : Hid (C = lb.getD b 0) := hC0
                            obtain ⟨ra, hR0⟩ : ∃ ra, ra = la.getD a 0 := ⟨_, rfl⟩
                            have HRa : Hid (ra = la.getD a 0) := hR0
                            clear hA0 hC0 hR0
                            have dca := (hK.cell hb2).trans (hc2 a (by omega))
                            rw [← HA.out] at dca
                            have dcb := (hK.cell hb2).trans (hc2 b (by omega))
                            rw [← HC.out] at dcb
                            have dra := (hK.cell hb1).trans (hc1 a (by omega))
                            rw [← HRa.out] at dra
                            have dci := (hK.cell hb2).trans (hc2 i (by omega))
                            rw [← Hp.out] at dci
                            have dck := (hK.cell hb2).trans (hc2 k (by omega))
                            rw [← Hq.out] at dck
                            have j1 : (0 : Int) ≤ (a : Int) := Int.natCast_nonneg _
                            have j2 : (a : Int) < (la.length : Int) := by omega
                            have j3 : (a : Int) < (lb.length : Int) := by omega
                            have j4 : (0 : Int) ≤ (b : Int) := Int.natCast_nonneg _
                            have j5 : (b : Int) < (lb.length : Int) := by omega
                            clear hc1 hc2 hc3
                            have HS : Hid ((S || rowB la lb p q a (b + 1)) = ((S || rowB la lb p q a b) || (decide (A = p) && decide (C = q) && inSetB ra b))) := by
                              show _ = _
                              rw [rowB_step HA.out HC.out HRa.out, Bool.or_assoc]
                            generalize (S || rowB la lb p q a b) = S2 at *
                            cases S2
                            · cases hA : A == p
                              · have HN : Hid ((S || rowB la lb p q a (b + 1)) = false) := by
                                  show _ = _
                                  have e1 : decide (A = p) = false := by simpa using hA
                                  rw [HS.out, e1]; rfl
                                go_wp2
                                go_quiet (fail)
                                have hK2 := hK.drewN nq
                                go_wp2
                                go_roundw
                                case rel => exact ⟨b + 1, by omega, by go_num, by rw [HN.out], hK2⟩
                                case measure => simp [intOf]; omega
                              · cases hC : C == q
                                · have HN : Hid ((S || rowB la lb p q a (b + 1)) = false) := by
                                    show _ = _
                                    have e1 : decide (C = q) = false := by simpa using hC
                                    rw [HS.out, e1]; simp
                                  go_wp2
                                  go_quiet (fail)
                                  have hK2 := hK.drewN nq
                                  go_wp2
                                  go_roundw
                                  case rel => exact ⟨b + 1, by omega, by go_num, by rw [HN.out], hK2⟩
                                  case measure => simp [intOf]; omega
                                · cases hin : inSetB ra b
                                  · have HN : Hid ((S || rowB la lb p q a (b + 1)) = false) := by
                                      show _ = _
                                      rw [HS.out, hin]; simp
                                    go_wp2
                                    go_quiet ((go_at_call 10; refine Calls.quiet_of_same (implInSet_any _ _ _)))
                                    have hK2 := hK.drewN nq
                                    go_wp2
                                    go_roundw
                                    case rel => exact ⟨b + 1, by omega, by go_num, by rw [HN.out], hK2⟩
                                    case measure => simp [intOf]; omega
                                  · have HN : Hid ((S || rowB la lb p q a (b + 1)) = true) := by
                                      show _ = _
                                      have e1 : decide (A = p) = true := by simpa using hA
                                      have e2 : decide (C = q) = true := by simpa using hC
                                      rw [HS.out, e1, e2, hin]; rfl
                                    go_wp2
                                    go_quiet ((go_at_call 10; refine Calls.quiet_of_same (implInSet_any _ _ _)))
                                    have hK2 := hK.drewN nq
                                    go_wp2
                                    go_roundw
                                    case rel => exact ⟨b + 1, by omega, by go_num, by rw [HN.out], hK2⟩
                                    case measure => simp [intOf]; omega
                            · have HN : Hid ((S || rowB la lb p q a (b + 1)) = true) := by
                                show _ = _
                                rw [HS.out]; rfl
                              go_wp2
                              go_quiet (fail)
                              have hK2 := hK.drewN nq
                              go_wp2
                              go_roundw
                              case rel => exact ⟨b + 1, by omega, by go_num, by rw [HN.out], hK2⟩
                              case measure => simp [intOf]; omega
                          · obtain rfl : b = la.length := by omega
                            have HU : Hid (Value.bool (S || rowB la lb p q a la.length) = .bool (allB la lb p q la.length (a + 1))) := by show _ = _; rw [HT.out]
                            rw [HU.out]
                            go_wp2
                            go_roundw
                            case rel => exact ⟨a + 1, by omega, by go_num, rfl, hK⟩
                            case measure => simp [intOf]; omega
                      · obtain rfl : a = la.length := by omega
                        have dxi := (hK.cell hb3).trans (hc3 i (by omega))
                        rw [← Hxi.out] at dxi
                        have dci := (hK.cell hb2).trans (hc2 i (by omega))
                        rw [← Hp.out] at dci
                        have dck := (hK.cell hb2).trans (hc2 k (by omega))
                        rw [← Hq.out] at dck
                        clear hc1 hc2 hc3
                        have HF2 : Hid (inSetB xi k = allB la lb p q la.length la.length) := by
                          show _ = _
                          rw [HF.out]
                          have e1 : decide (p = q) = false := by simpa using hpq
                          rw [e1]; simp
                        generalize allB la lb p q la.length la.length = S at *
                        cases S
                        · have hin1 : inSetB xi k = false := HF2.out
                          go_wp2
                          go_quiet ((go_at_call 10; refine Calls.quiet_of_same (implInSet_any _ _ _)))
                          have hK2 := hK.drewN nq
                          go_wp2
                          go_roundw
                          case rel => exact ⟨k + 1, by omega, by go_num, hK2⟩
                          case measure => simp [intOf]; omega
                        · have hin1 : inSetB xi k = true := HF2.out
                          go_wp2
                          go_quiet ((go_at_call 10; refine Calls.quiet_of_same (implInSet_any _ _ _)))
                          have hK2 := hK.drewN nq
                          go_wp2
                          go_roundw
                          case rel => exact ⟨k + 1, by omega, by go_num, hK2⟩
                          case measure => simp [intOf]; omega
                · obtain rfl : p = q := by simpa using hpq
                  have hin1 : inSetB xi k = false := (HSa.out rfl).2
                  have Hxx : Hid (xk = xi) := (HSa.out rfl).1
                  have HqP : Hid (p = lb.getD k 0) := Hq.out
                  rw [Hxx.out] at dxk
                  clear hpq
                  go_wp2
                  go_quiet ((go_at_call 10; refine Calls.quiet_of_same (implInSet_any _ _ _)))
                  have hK1 := hK.drewN nq
                  clear dci dck dxi dxk dri
                  go_wp2_with fail
                  go_loopw [8, 9] (fun s a wr => ∃ m : Nat, m ≤ la.length ∧ a = .int .i64 m ∧ s = .bool (allB la lb p p la.length m) ∧ Keep w6 wr) (fun _ a _ => la.length - (intOf a).toNat)
                  case atStart => exact ⟨0, Nat.zero_le _, rfl, rfl, hK1⟩
                  case round =>
                    clear hK hK1
                    obtain ⟨a, ha, rfl, rfl, hK⟩ := hrel
                    by_cases hal : a < la.length
                    · have HT : Hid (allB la lb p p la.length (a + 1) = (allB la lb p p la.length a || rowB la lb p p a la.length)) := rfl
                      generalize allB la lb p p la.length a = S at *
                      obtain ⟨wb, rfl⟩ : ∃ wb : World, wb = wr := ⟨_, rfl⟩
                      go_wp2_with fail
                      go_loopw [8, 10] (fun s b wr => ∃ m : Nat, m ≤ la.length ∧ b = .int .i64 m ∧ s = .bool (S || rowB la lb p p a m) ∧ Keep w6 wr) (fun _ b _ => la.length - (intOf b).toNat)
                      case atStart => exact ⟨0, Nat.zero_le _, rfl, by show Value.bool S = Value.bool (S || false); rw [Bool.or_false], hK⟩
                      case round =>
                        clear hK
                        obtain ⟨b, hbl, rfl, rfl, hK⟩ := hrel
                        by_cases hbn : b < la.length
                        · obtain ⟨A, hA0⟩ : ∃ A, A = lb.getD a 0 := ⟨_, rfl⟩
                          have HA : Hid (A = lb.getD a 0) := hA0
                          obtain ⟨C, hC0⟩ : ∃ C, C = lb.getD b 0 := ⟨_, rfl⟩
                          have HC : Hid (C = lb.getD b 0) := hC0
                          obtain ⟨ra, hR0⟩ : ∃ ra, ra = la.getD a 0 := ⟨_, rfl⟩
                          have HRa : Hid (ra = la.getD a 0) := hR0
                          clear hA0 hC0 hR0
                          have dca := (hK.cell hb2).trans (hc2 a (by omega))
                          rw [← HA.out] at dca
                          have dcb := (hK.cell hb2).trans (hc2 b (by omega))
                          rw [← HC.out] at dcb
                          have dra := (hK.cell hb1).trans (hc1 a (by omega))
                          rw [← HRa.out] at dra
                          have dci := (hK.cell hb2).trans (hc2 i (by omega))
                          rw [← Hp.out] at dci
                          have dck := (hK.cell hb2).trans (hc2 k (by omega))
                          rw [← HqP.out] at dck
                          have j1 : (0 : Int) ≤ (a : Int) := Int.natCast_nonneg _
                          have j2 : (a : Int) < (la.length : Int) := by omega
                          have j3 : (a : Int) < (lb.length : Int) := by omega
                          have j4 : (0 : Int) ≤ (b : Int) := Int.natCast_nonneg _
                          have j5 : (b : Int) < (lb.length : Int) := by omega
                          clear hc1 hc2 hc3
                          have HS : Hid ((S || rowB la lb p p a (b + 1)) = ((S || rowB la lb p p a b) || (decide (A = p) && decide (C = p) && inSetB ra b))) := by
                            show _ = _
                            rw [rowB_step HA.out HC.out HRa.out, Bool.or_assoc]
                          generalize (S || rowB la lb p p a b) = S2 at *
                          cases S2
                          · cases hA : A == p
                            · have HN : Hid ((S || rowB la lb p p a (b + 1)) = false) := by
                                show _ = _
                                have e1 : decide (A = p) = false := by simpa using hA
                                rw [HS.out, e1]; rfl
                              go_wp2
                              go_quiet (fail)
                              have hK2 := hK.drewN nq
                              go_wp2
                              go_roundw
                              case rel => exact ⟨b + 1, by omega, by go_num, by rw [HN.out], hK2⟩
                              case measure => simp [intOf]; omega
                            · cases hC : C == p
                              · have HN : Hid ((S || rowB la lb p p a (b + 1)) = false) := by
                                  show _ = _
                                  have e1 : decide (C = p) = false := by simpa using hC
                                  rw [HS.out, e1]; simp
                                go_wp2
                                go_quiet (fail)
                                have hK2 := hK.drewN nq
                                go_wp2
                                go_roundw
                                case rel => exact ⟨b + 1, by omega, by go_num, by rw [HN.out], hK2⟩
                                case measure => simp [intOf]; omega
                              · cases hin : inSetB ra b
                                · have HN : Hid ((S || rowB la lb p p a (b + 1)) = false) := by
                                    show _ = _
                                    rw [HS.out, hin]; simp
                                  go_wp2
                                  go_quiet ((go_at_call 10; refine Calls.quiet_of_same (implInSet_any _ _ _)))
                                  have hK2 := hK.drewN nq
                                  go_wp2
                                  go_roundw
                                  case rel => exact ⟨b + 1, by omega, by go_num, by rw [HN.out], hK2⟩
                                  case measure => simp [intOf]; omega
                                · have HN : Hid ((S || rowB la lb p p a (b + 1)) = true) := by
                                    show _ = _
                                    have e1 : decide (A = p) = true := by simpa using hA
                                    have e2 : decide (C = p) = true := by simpa using hC
                                    rw [HS.out, e1, e2, hin]; rfl
                                  go_wp2
                                  go_quiet ((go_at_call 10; refine Calls.quiet_of_same (implInSet_any _ _ _)))
                                  have hK2 := hK.drewN nq
                                  go_wp2
                                  go_roundw
                                  case rel => exact ⟨b + 1, by omega, by go_num, by rw [HN.out], hK2⟩
                                  case measure => simp [intOf]; omega
                          · have HN : Hid ((S || rowB la lb p p a (b + 1)) = true) := by
                              show _ = _
                              rw [HS.out]; rfl
                            go_wp2
                            go_quiet (fail)
                            have hK2 := hK.drewN nq
                            go_wp2
                            go_roundw
                            case rel => exact ⟨b + 1, by omega, by go_num, by rw [HN.out], hK2⟩
                            case measure => simp [intOf]; omega
                        · obtain rfl : b = la.length := by omega
                          have HU : Hid (Value.bool (S || rowB la lb p p a la.length) = .bool (allB la lb p p la.length (a + 1))) := by show _ = _; rw [HT.out]
                          rw [HU.out]
                          go_wp2
                          go_roundw
                          case rel => exact ⟨a + 1, by omega, by go_num, rfl, hK⟩
                          case measure => simp [intOf]; omega
                    · obtain rfl : a = la.length := by omega
                      have dxi := (hK.cell hb3).trans (hc3 i (by omega))
                      rw [← Hxi.out] at dxi
                      have dci := (hK.cell hb2).trans (hc2 i (by omega))
                      rw [← Hp.out] at dci
                      have dck := (hK.cell hb2).trans (hc2 k (by omega))
                      rw [← HqP.out] at dck
                      clear hc1 hc2 hc3
                      generalize allB la lb p p la.length la.length = S at *
                      cases S
                      · go_wp2
                        go_quiet ((go_at_call 10; refine Calls.quiet_of_same (implInSet_any _ _ _)))
                        have hK2 := hK.drewN nq
                        go_wp2
                        go_roundw
                        case rel => exact ⟨k + 1, by omega, by go_num, hK2⟩
                        case measure => simp [intOf]; omega
                      · go_wp2
                        go_quiet ((go_at_call 10; refine Calls.quiet_of_same (implInSet_any _ _ _)))
                        have hK2 := hK.drewN nq
                        go_wp2
                        go_roundw
                        case rel => exact ⟨k + 1, by omega, by go_num, hK2⟩
                        case measure => simp [intOf]; omega
              · obtain rfl : k = la.length := by omega
                go_wp2
                go_roundw
                case rel => exact ⟨i + 1, by omega, by go_num, hK⟩
                case measure => simp [intOf]; omega
          · obtain rfl : i = la.length := by omega
            have hx6 := hxr.keep hK
            have hwb : webB X = true := HXB.out
            go_wp2_with fail
            refine (implWebOk_any _ _ _ hx6 (by omega)).mono ?_
            rintro e w7 ⟨rfl, rfl⟩
            go_wp2
            go_ret
            exact ⟨rfl, K5.trans hK⟩
      · have hlb' : ((lb.length : Int) != (la.length : Int)) = true := by simp; omega
        have HN : Hid (liftL la lb = []) := lift_none (fun h => hl h.2)
        have hx0 : (((liftL la lb).length : Int) == 0) = true := by rw [HN.out]; rfl
        clear hl
        go_wp2_with fail
        refine (specWebOk_any _ _ _ hr5 (by omega)).mono ?_
        rintro e w6 ⟨rfl, rfl⟩
        go_wp2
        go_ret
        exact ⟨rfl, K5⟩

set_option maxRecDepth 100000 in
theorem lifted (os : Os) (started : os.Started) (H : Type) (enc : TypeId × Value → H) :
    ReturnsInHanded {} Try.checked os 3 .any (Rows.fnLiftedSpec.pre6 enc Try.prog Try.f3 Rows.fnLiftedRow.domain false) (Rows.fnLiftedSpec.post enc Try.prog Try.f3 false true false false) := by
  refine returnsInHanded_of_change (C := Try.checked) own started (by kernel_rfl) Try.func3
    (ChangeSpec.witness6 (enc := enc) (C := Try.checked) false ⟨#[], #[.slice none 0 0], []⟩ 8 (by kernel_rfl) (by kernel_rfl) (by kernel_rfl) (by kernel_rfl)) ?_
  intro W base args ds gs before hval0 hW hcnd _
  have hval : ∀ (j : Nat) t v, Try.f3.params[j]? = some t → args[j]? = some v → Value.okWide Try.prog W .any base t v := hval0
  have hW' := hW
  obtain ⟨p, q, hA0, hV, rfl, hfz, hnd⟩ := hW
  have hA : DataW.TrodAll enc Try.prog W 0 (fun _ => true) true Try.f3.params.toList args.toList ds p := hA0
  rw [Try.params3] at hA hval
  obtain ⟨v0, vs0, d0, ds0, p0, q0, hargs, rfl, rfl, h0, r0⟩ := trodAll_cons hA
  obtain ⟨rfl, rfl, rfl⟩ := trodAll_nil r0
  obtain rfl : args = #[v0] := by cases args; simp_all
  obtain ⟨rfl, rfl⟩ := trodVars_none hV
  obtain ⟨a0, len0, cap0, rfl⟩ := okWide_slice Try.underlying22 (hval 0 22 v0 rfl rfl)
  have k0 := h0
  have lt0 : ∀ x ∈ p0, x.block < W.heap.size := by obtain ⟨m, hm⟩ := k0; exact DataW.trod_lt m _ _ _ hm
  obtain ⟨z0, w0⟩ : ∃ zs, IsRow .u8 W a0 len0 cap0 zs := by
    obtain ⟨fuel, hf⟩ := h0
    rcases open_ints Try.underlying22 Try.underlying5 (by kernel_rfl) hf with ⟨hcs, _⟩ | ⟨x, l, c, zs, hcs, _, hl, hm, hz, _, hcell, hwz⟩
    · simp [Value.cells] at hcs
      obtain ⟨rfl, rfl, rfl⟩ := hcs
      exact ⟨[], .inl ⟨rfl, rfl, rfl, rfl⟩⟩
    · simp [Value.cells] at hcs
      obtain ⟨rfl, rfl, rfl⟩ := hcs
      exact ⟨zs, .inr ⟨_, rfl, hl, hm, by simpa using hz, hcell, hwz⟩⟩
  clear hA0 hval0
  refine (walk a0 len0 cap0 z0 W w0).mono fun e W' ⟨he, bel⟩ => ?_
  subst he
  exact ⟨_, rfl, _, _, _, [], _, [], hW', trodAll_mk1 (shut_bool Try.underlying4 _), (trodAll_cons_mk (Below.trod laidOut (by kernel_rfl) (of_decide_eq_true (by kernel_rfl)) k0 bel lt0) trodAll_mk0), rfl, bel.frame _, fun h => by cases h⟩

theorem over : Rows.fnLiftedRow.holds Try.pinned (OpenSpec.ofChange Rows.fnLiftedSpec) :=
  OpenClaim.holds_of_wide 3 Try.f3 rfl rfl rfl rfl rfl rfl rfl ⟨rfl, rfl, rfl, rfl, rfl⟩ rfl rfl rfl rfl rfl (by kernel_rfl) Try.func3 (by kernel_rfl)
    (of_decide_eq_true (by kernel_rfl)) (by unfold Func.isWrapper; first | (rw [if_pos (by decide +kernel)]; kernel_rfl) | (rw [if_neg (by decide +kernel)]; exact ⟨rfl, rfl⟩))
    (fun os started H enc _ => lifted os started H enc)

theorem proved : Rows.FnLiftedSaid := over
#print axioms proved
end Go.Proofs.Ytgclnfhkjnomaab.fnLifted
namespace Go.Proofs.Ytgclnfhkjnomaab
theorem fnLifted_holds : Rows.FnLiftedSaid := fnLifted.proved
end Go.Proofs.Ytgclnfhkjnomaab
