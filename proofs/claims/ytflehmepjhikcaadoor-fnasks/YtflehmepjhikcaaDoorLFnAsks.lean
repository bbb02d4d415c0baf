/- At every string of bytes the law FnAsks answers true and its argument stays: what the program's ReadAsk reads is what the specification's reads, and it has just the words that it is read from; the listed variables are as the program's text lays them. -/
import Derived.Test.YtflehmepjhikcaaDoorRows
import Derived.Test.YtflehmepjhikcaaDoorTie
import Derived.Test.YtflehmepjhikcaaDoorCards
import Derived.SevenTiedAt
import Derived.LaidMore
import Derived.Lay
import Derived.Stop.Joined
import Derived.Stop.LaidErr
import Derived.HandedShaped
import Derived.Shelf.Vars
import Derived.WalkKit
import Derived.ProofKit
import Derived.OpenShut
import Derived.ShutString
import Derived.ChangeOld
import Derived.Below
import Derived.Test.YtflehmepjhikcaaDoorMD
import Derived.Test.YtflehmepjhikcaaDoorMH
import Derived.Test.YtflehmepjhikcaaDoorME
import Derived.Test.YtflehmepjhikcaaDoorMF
import Derived.Deep.Cut
namespace Go.Proofs.YtflehmepjhikcaaDoor.fnAsks
open Go.ChangeShapes Go.WideShapes Go.ChangeAt Go.RowKit
open Go.ChangeMaps (open_string shut_string)
set_option linter.unusedVariables false

theorem own : ownKnob Tryd.prog.godebug = none := by kernel_rfl
theorem laidOut : laidOutB Tryd.prog = true := by kernel_rfl

/-- What the walk is told of a slice of bytes that came in: it is nil, or it leads to a row of cells, each fitting its kind. -/
def IsRow (k : IntKind) (w : World) (a : Option Addr) (len cap : Nat) (zs : List Int) : Prop :=
  (a = none ∧ len = 0 ∧ cap = 0 ∧ zs = []) ∨
  ∃ x, a = some x ∧ len ≤ cap ∧ cap ≤ maxLen ∧ zs.length = cap ∧ (∀ i, i < zs.length → w.cell? (x.add i) = some (.int k (zs.getD i 0))) ∧ ∀ n ∈ zs, (Lit.int k n).wf = true

set_option maxRecDepth 100000 in
set_option maxHeartbeats 8000000 in
theorem walk (a0 : Option Addr) (len0 cap0 : Nat) (z0 : List Int) (w : World) (w0 : IsRow .u8 w a0 len0 cap0 z0) (hm : ∃ m, w.cell? ⟨4, 0, none⟩ = some (.int .i64 m)) (hno : ∃ a, w.cell? ⟨0, 0, none⟩ = some (.iface 173 (.pointer (some a)))) :
    Calls Tryd.prog 3 #[.slice a0 len0 cap0] w fun e w' => e = .returned (.bool true) ∧ Below w.heap.size w w' := by
  obtain ⟨eA, hno⟩ := hno
  have XN : Hid (NoAsk w eA) := Lib.hid hno
  have XM := Lib.hid hm
  clear hno hm
  by_cases hbig : 4096 < len0
  · have hbb : decide (4096 < len0) = true := by simpa using hbig
    go_enter Tryd.func3, Tryd.ntmps3
    go_wp2_with (go_at_call 7; refine (big_any _ _ _ _).mono ?_; rintro e w' ⟨rfl, rfl⟩)
    go_ret
    exact ⟨rfl, Below.refl _ _⟩
  have hbb : decide (4096 < len0) = false := by simpa using hbig
  obtain ⟨zs, hzl, hrd⟩ : ∃ zs : List Int, zs.length = len0 ∧ RdB w w.heap.size a0 zs := rdb_of_row (by omega) w0
  subst hzl
  clear w0 hbig
  go_enter Tryd.func3, Tryd.ntmps3
  go_wp2_with fail
  refine (big_any _ _ _ _).mono ?_
  rintro e w' ⟨rfl, rfl⟩
  go_wp2_with fail
  refine (drawReadAsk_any _ a0 cap0 zs hrd).mono ?_
  rintro e w1 ⟨l, rfl, hl, k1⟩
  have CI := implReadAsk_at l w1 eA (by omega) (XN.out.keep k1) (XM.out.elim fun m q => ⟨m, cellK_keep q k1⟩)
  have CS := Lib.hid (fun W => specReadAsk_any l W (by omega))
  have XT := Lib.hid (show_text (l := l))
  have XO : Hid (raT l = true → (raR l).length ≤ 6 ∧ (raR l).length = (raV l).length ∧ ∀ i, i < (raR l).length → keyB ((raR l).getD i 0) 6 = true ∧ inB ((raV l).getD i 0) 0 9 = true) := Lib.hid (fun h => ra_use h)
  have XZ : Hid (raT l = false → raR l = [] ∧ raV l = []) := Lib.hid (fun h => ⟨by unfold raR; rw [if_neg (by rw [h]; simp)], by unfold raV; rw [if_neg (by rw [h]; simp)]⟩)
  obtain ⟨g1, g2⟩ := ra_len l
  obtain ⟨TF, hTF⟩ : ∃ L, L = raR l := ⟨_, rfl⟩
  obtain ⟨TR, hTR⟩ : ∃ L, L = raV l := ⟨_, rfl⟩
  obtain ⟨bt, hbt⟩ : ∃ L, L = raT l := ⟨_, rfl⟩
  rw [← hTF, ← hTR, ← hbt] at CS CI XT XO
  rw [← hTF, ← hTR, ← hbt] at XZ
  rw [← hTF] at g1
  rw [← hTR] at g2
  clear hTF hTR hbt hbb
  have eb : (bt != bt) = false := by simp
  go_wp2_with fail
  refine CI.mono ?_
  rintro e w2 ⟨uF, uV, rfl, hF, hG, -, k2⟩
  have qF := hF.rd
  have qR := hG.rd
  obtain ⟨aF, cF, rfl, -⟩ := id qF
  obtain ⟨aR, cR, rfl, -⟩ := id qR
  have K2 := k1.trans k2
  clear hF hG CI k1 k2
  go_upto_region 5 with fail
  obtain ⟨w3, hw⟩ : ∃ W : World, W = w2.alloc (askC (.slice aF TF.length cF) (.slice aR TR.length cR)) := ⟨_, rfl⟩
  have y0 : w3.cell? ⟨w2.heap.size, 0, none⟩ = some (.slice aF TF.length cF) := by rw [hw]; exact box_cell (Keep.refl _) 0
  have y1 : w3.cell? ⟨w2.heap.size, 1, none⟩ = some (.slice aR TR.length cR) := by rw [hw]; exact box_cell (Keep.refl _) 1
  have kk : Keep w2 w3 := by rw [hw]; exact (Keep.refl _).alloc _
  have yl : w2.heap.size < w3.heap.size := by rw [hw, heap_size]; omega
  rw [← hw]
  clear hw
  replace qF := qF.keep kk
  replace qR := qR.keep kk
  have K3 := K2.trans kk
  obtain ⟨Y, hY⟩ : ∃ X, X = w2.heap.size := ⟨_, rfl⟩
  rw [← hY] at y0 y1 yl ⊢
  clear hY kk K2
  go_wp2_with fail
  refine (CS.out _).mono ?_
  rintro e w4 ⟨sR, sV, rfl, hS, hU, k4⟩
  obtain ⟨aS, cS, rfl, -⟩ := id hS
  obtain ⟨aU, cU, rfl, -⟩ := id hU
  replace qF := qF.keep k4
  replace qR := qR.keep k4
  replace y0 := (k4.cell yl).trans y0
  replace y1 := (k4.cell yl).trans y1
  replace yl := Nat.lt_of_lt_of_le yl k4.size
  have K4 := K3.trans k4
  clear k4 K3 CS
  go_upto_region 6 with fail
  obtain ⟨w5, hw⟩ : ∃ W : World, W = w4.alloc (askC (.slice aS TF.length cS) (.slice aU TR.length cU)) := ⟨_, rfl⟩
  have x0 : w5.cell? ⟨w4.heap.size, 0, none⟩ = some (.slice aS TF.length cS) := by rw [hw]; exact box_cell (Keep.refl _) 0
  have x1 : w5.cell? ⟨w4.heap.size, 1, none⟩ = some (.slice aU TR.length cU) := by rw [hw]; exact box_cell (Keep.refl _) 1
  have kk : Keep w4 w5 := by rw [hw]; exact (Keep.refl _).alloc _
  have xl : w4.heap.size < w5.heap.size := by rw [hw, heap_size]; omega
  rw [← hw]
  clear hw
  replace qF := qF.keep kk
  replace qR := qR.keep kk
  replace hS := hS.keep kk
  replace hU := hU.keep kk
  replace y0 := (kk.cell yl).trans y0
  replace y1 := (kk.cell yl).trans y1
  replace yl := Nat.lt_of_lt_of_le yl kk.size
  have K5 := K4.trans kk
  obtain ⟨X, hX⟩ : ∃ X, X = w4.heap.size := ⟨_, rfl⟩
  rw [← hX] at x0 x1 xl ⊢
  clear hX kk K4
  have CF := like_any w5 _ _ TF TF qF hS (by omega)
  rw [show decide (TF = TF) = true from decide_eq_true rfl] at CF
  go_wp2_with fail
  refine CF.mono ?_
  rintro e w6 ⟨rfl, k6⟩
  replace qF := qF.keep k6
  replace qR := qR.keep k6
  replace hU := hU.keep k6
  replace y0 := (k6.cell yl).trans y0
  replace y1 := (k6.cell yl).trans y1
  replace yl := Nat.lt_of_lt_of_le yl k6.size
  replace x1 := (k6.cell xl).trans x1
  have K6 := K5.trans k6
  clear k6 K5 CF hS x0 xl
  have CR := like_any w6 _ _ TR TR qR hU (by omega)
  rw [show decide (TR = TR) = true from decide_eq_true rfl] at CR
  go_wp2_with fail
  refine CR.mono ?_
  rintro e w7 ⟨rfl, k7⟩
  have XF := Lib.hid (qF.keep k7)
  have XR := Lib.hid (qR.keep k7)
  replace y0 := (k7.cell yl).trans y0
  replace y1 := (k7.cell yl).trans y1
  replace yl := Nat.lt_of_lt_of_le yl k7.size
  have K7 := K6.trans k7
  clear k7 K6 CR hU x1 qF qR eb
  cases bt
  · obtain ⟨rfl, rfl⟩ := XZ.out rfl
    go_wp2
    go_ret
    exact ⟨rfl, K7⟩
  · obtain ⟨g6, hll, hkv⟩ := XO.out rfl
    have XL := Lib.hid hll
    have XK := Lib.hid hkv
    have XS : Hid (showP TF TR TF.length = l) := Lib.hid (XT.out rfl)
    have XY0 := Lib.hid y0
    have XY1 := Lib.hid y1
    clear hll hkv XO XZ XT y0 y1
    go_upto_region 12 with fail
    go_loopw [8, 9] (fun s8 i wr => ∃ k : Nat, k ≤ TF.length ∧ i = .int .i64 k ∧ (∃ m, s8 = strV m ∧ Hid (m = showP TF TR k)) ∧ Hid (Keep w7 wr)) (fun _ i _ => TF.length - (intOf i).toNat)
    case atStart => exact ⟨0, Nat.zero_le _, rfl, ⟨[], rfl, Lib.hid rfl⟩, Lib.hid (Keep.refl _)⟩
    case round =>
      obtain ⟨k, hk, rfl, ⟨m, rfl, hs⟩, hK⟩ := hrel
      have y0 := (hK.out.cell yl).trans XY0.out
      have y1 := (hK.out.cell yl).trans XY1.out
      have z0 : Y < wr.heap.size := Nat.lt_of_lt_of_le yl hK.out.size
      by_cases hlt : k < TF.length
      · have hlt2 : k < TR.length := by have := XL.out; omega
        rcases XF.out with ⟨a, c, ea, q | ⟨bF, oF, hqa, hbF, dF⟩⟩
        · exfalso; rw [q] at hlt; simp at hlt
        rcases XR.out with ⟨a', c', ea', q | ⟨bR, oR, hqa', hbR, dR⟩⟩
        · exfalso; rw [q] at hlt2; simp at hlt2
        obtain rfl : aF = some ⟨bF, oF, none⟩ := by simp only [Value.slice.injEq] at ea; exact ea.1.trans hqa
        obtain rfl : aR = some ⟨bR, oR, none⟩ := by simp only [Value.slice.injEq] at ea'; exact ea'.1.trans hqa'
        have e1 := (hK.out.cell hbF).trans (dF k hlt)
        have e2 := (hK.out.cell hbR).trans (dR k hlt2)
        have z1 : bF < wr.heap.size := Nat.lt_of_lt_of_le hbF hK.out.size
        have z2 : bR < wr.heap.size := Nat.lt_of_lt_of_le hbR hK.out.size
        have i1 : (0 : Int) ≤ (k : Int) := Int.natCast_nonneg _
        have i2 : (k : Int) < (TF.length : Int) := by omega
        have i3 : (k : Int) < (TR.length : Int) := by omega
        have HS : Hid (showP TF TR (k + 1) = (if 0 < k then showP TF TR k ++ [32] else showP TF TR k) ++ nmA (TF.getD k 0) ++ [61] ++ dgA (TR.getD k 0)) := Lib.hid rfl
        rw [← hs.out] at HS
        obtain ⟨ky, vy⟩ := XK.out k hlt
        generalize TF.getD k 0 = x at e1 HS ky
        generalize TR.getD k 0 = y at e2 HS vy
        have hmL : m.length ≤ 24 := by rw [hs.out]; have := showP_len TF TR k; omega
        have hdy := dg_len y
        unfold inB at vy
        have vy' := of_decide_eq_true vy
        obtain ⟨v0, v9⟩ := vy'
        have hx : (0 ≤ x ∧ x ≤ 5) ∨ x = 100 ∨ x = 101 ∨ x = 102 := by
          unfold keyB inB at ky
          simp only [Bool.or_eq_true, decide_eq_true_eq] at ky
          omega
        clear dF dR hlt2 ea ea' hqa hqa' ky vy hbF hbR
        have j0 : decide ((0 : Int) < (k : Int)) = decide (0 < k) := by rw [Bool.eq_iff_iff]; simp only [decide_eq_true_eq]; omega
        by_cases hk0 : 0 < k
        · rw [if_pos hk0] at HS
          have hk1 : (0 : Int) < (k : Int) := by omega
          rcases hx with ⟨x0, x5⟩ | rfl | rfl | rfl
          · have hx1 : decide ((100 : Int) ≤ x) = false := by rw [decide_eq_false_iff_not]; omega
            have HN : nmA x = dgA x := by unfold nmA; rw [if_neg (by omega)]
            rw [HN] at HS
            have hdx := dg_len x
            have S1 := fun W => run_string_add_lists (P := Tryd.prog) W m [32] (by omega) (by simp)
            have S2 := fun W => run_string_add_lists (P := Tryd.prog) W (m ++ [32]) (dgA x) (by first | omega | (simp; omega)) (by omega)
            have S3 := fun W => run_string_add_lists (P := Tryd.prog) W ((m ++ [32]) ++ (dgA x)) [61] (by first | omega | (simp; omega)) (by simp)
            have S4 := fun W => run_string_add_lists (P := Tryd.prog) W ((m ++ [32]) ++ (dgA x) ++ [61]) (dgA y) (by first | omega | (simp; omega)) (by omega)
            go_wp2_with fail
            refine (digits_any x _ x0 (by omega)).mono ?_
            rintro e wp ⟨rfl, kp⟩
            have y2 := (kp.cell z0).trans y1
            have e3 := (kp.cell z2).trans e2
            go_wp2_with fail
            refine (digits_any y _ v0 v9).mono ?_
            rintro e wq ⟨rfl, kq⟩
            have KQ := Lib.hid ((hK.out.trans kp).trans kq)
            clear kp kq
            go_wp2
            go_roundw
            case rel => exact ⟨k + 1, by omega, by go_num, ⟨_, rfl, Lib.hid (by rw [HS.out]; simp)⟩, KQ⟩
            case measure => simp [intOf]; omega
          · have HN : nmA 100 = [120] := rfl
            rw [HN] at HS
            have S1 := fun W => run_string_add_lists (P := Tryd.prog) W m [32] (by omega) (by simp)
            have S2 := fun W => run_string_add_lists (P := Tryd.prog) W (m ++ [32]) [120] (by first | omega | (simp; omega)) (by simp)
            have S3 := fun W => run_string_add_lists (P := Tryd.prog) W ((m ++ [32]) ++ [120]) [61] (by first | omega | (simp; omega)) (by simp)
            have S4 := fun W => run_string_add_lists (P := Tryd.prog) W ((m ++ [32]) ++ [120] ++ [61]) (dgA y) (by first | omega | (simp; omega)) (by omega)
            go_wp2_with fail
            refine (digits_any y _ v0 v9).mono ?_
            rintro e wq ⟨rfl, kq⟩
            have KQ := Lib.hid ((hK.out.alloc _).trans kq)
            clear kq
            go_wp2
            go_roundw
            case rel => exact ⟨k + 1, by omega, by go_num, ⟨_, rfl, Lib.hid (by rw [HS.out]; simp)⟩, KQ⟩
            case measure => simp [intOf]; omega
          · have HN : nmA 101 = [121] := rfl
            rw [HN] at HS
            have S1 := fun W => run_string_add_lists (P := Tryd.prog) W m [32] (by omega) (by simp)
            have S2 := fun W => run_string_add_lists (P := Tryd.prog) W (m ++ [32]) [121] (by first | omega | (simp; omega)) (by simp)
            have S3 := fun W => run_string_add_lists (P := Tryd.prog) W ((m ++ [32]) ++ [121]) [61] (by first | omega | (simp; omega)) (by simp)
            have S4 := fun W => run_string_add_lists (P := Tryd.prog) W ((m ++ [32]) ++ [121] ++ [61]) (dgA y) (by first | omega | (simp; omega)) (by omega)
            go_wp2_with fail
            refine (digits_any y _ v0 v9).mono ?_
            rintro e wq ⟨rfl, kq⟩
            have KQ := Lib.hid ((hK.out.alloc _).trans kq)
            clear kq
            go_wp2
            go_roundw
            case rel => exact ⟨k + 1, by omega, by go_num, ⟨_, rfl, Lib.hid (by rw [HS.out]; simp)⟩, KQ⟩
            case measure => simp [intOf]; omega
          · have HN : nmA 102 = [122] := rfl
            rw [HN] at HS
            have S1 := fun W => run_string_add_lists (P := Tryd.prog) W m [32] (by omega) (by simp)
            have S2 := fun W => run_string_add_lists (P := Tryd.prog) W (m ++ [32]) [122] (by first | omega | (simp; omega)) (by simp)
            have S3 := fun W => run_string_add_lists (P := Tryd.prog) W ((m ++ [32]) ++ [122]) [61] (by first | omega | (simp; omega)) (by simp)
            have S4 := fun W => run_string_add_lists (P := Tryd.prog) W ((m ++ [32]) ++ [122] ++ [61]) (dgA y) (by first | omega | (simp; omega)) (by omega)
            go_wp2_with fail
            refine (digits_any y _ v0 v9).mono ?_
            rintro e wq ⟨rfl, kq⟩
            have KQ := Lib.hid ((hK.out.alloc _).trans kq)
            clear kq
            go_wp2
            go_roundw
            case rel => exact ⟨k + 1, by omega, by go_num, ⟨_, rfl, Lib.hid (by rw [HS.out]; simp)⟩, KQ⟩
            case measure => simp [intOf]; omega
        · rw [if_neg hk0] at HS
          have hk1 : decide ((0 : Int) < (k : Int)) = false := by rw [decide_eq_false_iff_not]; omega
          rcases hx with ⟨x0, x5⟩ | rfl | rfl | rfl
          · have hx1 : decide ((100 : Int) ≤ x) = false := by rw [decide_eq_false_iff_not]; omega
            have HN : nmA x = dgA x := by unfold nmA; rw [if_neg (by omega)]
            rw [HN] at HS
            have hdx := dg_len x
            have S2 := fun W => run_string_add_lists (P := Tryd.prog) W m (dgA x) (by first | omega | (simp; omega)) (by omega)
            have S3 := fun W => run_string_add_lists (P := Tryd.prog) W (m ++ (dgA x)) [61] (by first | omega | (simp; omega)) (by simp)
            have S4 := fun W => run_string_add_lists (P := Tryd.prog) W (m ++ (dgA x) ++ [61]) (dgA y) (by first | omega | (simp; omega)) (by omega)
            go_wp2_with fail
            refine (digits_any x _ x0 (by omega)).mono ?_
            rintro e wp ⟨rfl, kp⟩
            have y2 := (kp.cell z0).trans y1
            have e3 := (kp.cell z2).trans e2
            go_wp2_with fail
            refine (digits_any y _ v0 v9).mono ?_
            rintro e wq ⟨rfl, kq⟩
            have KQ := Lib.hid ((hK.out.trans kp).trans kq)
            clear kp kq
            go_wp2
            go_roundw
            case rel => exact ⟨k + 1, by omega, by go_num, ⟨_, rfl, Lib.hid (by rw [HS.out]; simp)⟩, KQ⟩
            case measure => simp [intOf]; omega
          · have HN : nmA 100 = [120] := rfl
            rw [HN] at HS
            have S2 := fun W => run_string_add_lists (P := Tryd.prog) W m [120] (by first | omega | (simp; omega)) (by simp)
            have S3 := fun W => run_string_add_lists (P := Tryd.prog) W (m ++ [120]) [61] (by first | omega | (simp; omega)) (by simp)
            have S4 := fun W => run_string_add_lists (P := Tryd.prog) W (m ++ [120] ++ [61]) (dgA y) (by first | omega | (simp; omega)) (by omega)
            go_wp2_with fail
            refine (digits_any y _ v0 v9).mono ?_
            rintro e wq ⟨rfl, kq⟩
            have KQ := Lib.hid ((hK.out.alloc _).trans kq)
            clear kq
            go_wp2
            go_roundw
            case rel => exact ⟨k + 1, by omega, by go_num, ⟨_, rfl, Lib.hid (by rw [HS.out]; simp)⟩, KQ⟩
            case measure => simp [intOf]; omega
          · have HN : nmA 101 = [121] := rfl
            rw [HN] at HS
            have S2 := fun W => run_string_add_lists (P := Tryd.prog) W m [121] (by first | omega | (simp; omega)) (by simp)
            have S3 := fun W => run_string_add_lists (P := Tryd.prog) W (m ++ [121]) [61] (by first | omega | (simp; omega)) (by simp)
            have S4 := fun W => run_string_add_lists (P := Tryd.prog) W (m ++ [121] ++ [61]) (dgA y) (by first | omega | (simp; omega)) (by omega)
            go_wp2_with fail
            refine (digits_any y _ v0 v9).mono ?_
            rintro e wq ⟨rfl, kq⟩
            have KQ := Lib.hid ((hK.out.alloc _).trans kq)
            clear kq
            go_wp2
            go_roundw
            case rel => exact ⟨k + 1, by omega, by go_num, ⟨_, rfl, Lib.hid (by rw [HS.out]; simp)⟩, KQ⟩
            case measure => simp [intOf]; omega
          · have HN : nmA 102 = [122] := rfl
            rw [HN] at HS
            have S2 := fun W => run_string_add_lists (P := Tryd.prog) W m [122] (by first | omega | (simp; omega)) (by simp)
            have S3 := fun W => run_string_add_lists (P := Tryd.prog) W (m ++ [122]) [61] (by first | omega | (simp; omega)) (by simp)
            have S4 := fun W => run_string_add_lists (P := Tryd.prog) W (m ++ [122] ++ [61]) (dgA y) (by first | omega | (simp; omega)) (by omega)
            go_wp2_with fail
            refine (digits_any y _ v0 v9).mono ?_
            rintro e wq ⟨rfl, kq⟩
            have KQ := Lib.hid ((hK.out.alloc _).trans kq)
            clear kq
            go_wp2
            go_roundw
            case rel => exact ⟨k + 1, by omega, by go_num, ⟨_, rfl, Lib.hid (by rw [HS.out]; simp)⟩, KQ⟩
            case measure => simp [intOf]; omega
      · obtain rfl : k = TF.length := by omega
        have hm : m = l := by rw [hs.out, XS.out]
        subst hm
        go_wp2
        go_ret
        exact ⟨by simp; omega, K7.trans hK.out⟩

abbrev laidL : List (String × DataW Unit) := [("unicode/utf8.acceptRanges", Rows.laid_unicode_utf8_acceptRanges), ("loop.example/g00411/impl.errNoAsk", Rows.laid_loop_example_g00411_impl_errNoAsk), ("unicode/utf8.first", Rows.laid_unicode_utf8_first)]

theorem door_met (os : Os) (args : Array Value) : laidMetH Tryd.prog laidL ((World.laidAll Tryd.prog os laidL).forCall (fun _ _ => 0) ⟨#[], args, []⟩).memory := by
  rw [MakeChecks.laidMetH_plain _ _ _ (by kernel_rfl)]
  exact laidMet_laidAll _ (by kernel_rfl) (by kernel_rfl)

theorem returns_laid_shaped {H : Type} {enc : TypeId × Value → H} {a : Assume} {C : Checked} {os : Os} {f : FuncId} {fn : Func} {s : ChangeSpec} {conds : List PathCond} {apart fresh handsOn again : Bool} {X : World → Array Value → Prop}
    (hX : ∀ (w w' : World) (args : Array Value), w.heap = w'.heap → X w args → X w' args)
    (own : ownKnob C.prog.godebug = none) (started : os.Started) (noInit : C.prog.inits.idxOf? f = none) (hfn : C.prog.funcs[f]? = some fn)
    (witness : ∃ (w : World) (tape : Tape) (i : Input), w.os = os ∧ (w.forCall tape i).Shaped C.prog ∧ i.vars = [] ∧ Input.okWide C.prog (w.forCall tape i) .any w.heap.size f i ∧
      ((s.pre enc C.prog fn conds apart (w.forCall tape i).memory i.args ∧ X (w.forCall tape i).memory i.args) ∧ sizedMet enc C.prog fn (OpenSpec.ofChange s) apart (w.forCall tape i).memory i.args) ∧ a.holds C.prog (lone (Frame.enter C.prog f i.args .normal) [] (w.forCall tape i)))
    (contract : ∀ (W : World) (base : Nat) (args : Array Value) (ds gs : List (DataW H)) (before : List MemPlace),
      (∀ (j : Nat) t v, fn.params[j]? = some t → args[j]? = some v → Value.okWide C.prog W .any base t v) →
      DataW.Whole enc C.prog fn.params.toList s.vars apart W args.toList ds gs before → X W args → W.ShapedOpen C.prog →
      Calls C.prog f args W fun e W' => ∃ v, e = .returned v ∧ s.post enc C.prog fn apart fresh handsOn again W args v W') :
    ReturnsInHanded a C os f .any (fun w args => (s.pre enc C.prog fn conds apart w args ∧ X w args) ∧ sizedMet enc C.prog fn (OpenSpec.ofChange s) apart w args) (s.post enc C.prog fn apart fresh handsOn again) := by
  refine returnsInHanded_of_calls own started noInit witness ?_
  intro w tape i _ hsh _ hok hpre _
  obtain ⟨_, _, _, fn', hfn', _, _, _, _, hval⟩ := hok
  have e : fn' = fn := Option.some.inj (hfn'.symm.trans hfn)
  subst e
  obtain ⟨⟨⟨ds, gs, before, hw, hc⟩, hx⟩, hz⟩ := hpre
  have hw' := DataW.Whole.of_heap (w' := w.forCall tape i) (by rfl) hw
  refine (contract (w.forCall tape i) w.heap.size i.args ds gs before hval hw' (hX _ _ _ (by rfl) hx) hsh).mono fun e W' ⟨v, he, hp⟩ => ?_
  subst he
  exact ChangeSpec.post_blind hp

set_option maxRecDepth 100000 in
theorem lifted (os : Os) (started : os.Started) (H : Type) (enc : TypeId × Value → H) :
    ReturnsInHanded {} Tryd.checked os 3 .any (fun w args => (Rows.fnAsksSpec.pre enc Tryd.prog Tryd.f3 [] false w args ∧ laidMetH Tryd.prog laidL w) ∧ sizedMet enc Tryd.prog Tryd.f3 (OpenSpec.ofChange Rows.fnAsksSpec) false w args)
      (Rows.fnAsksSpec.post enc Tryd.prog Tryd.f3 false true false false) := by
  refine returns_laid_shaped (C := Tryd.checked) (X := fun w _ => laidMetH Tryd.prog laidL w) (fun _ _ _ hh h => h.of_heap hh) own started (by kernel_rfl) Tryd.func3
    (ChangeSpec.witness_shaped (enc := enc) (C := Tryd.checked) (os := os) (X := fun w _ => laidMetH Tryd.prog laidL w) false (World.laidAll Tryd.prog os laidL) #[.slice none 0 0] 8 (World.laidAll_os _ _ _) (World.shaped_of_ZipB (by kernel_rfl) (by kernel_rfl)) (by kernel_rfl) (by kernel_rfl) (by kernel_rfl) (door_met os _)) ?_
  intro W base args ds gs before hval0 hW hL hsh

  have hval : ∀ (j : Nat) t v, Tryd.f3.params[j]? = some t → args[j]? = some v → Value.okWide Tryd.prog W .any base t v := hval0
  have hW' := hW
  obtain ⟨p, q, hA0, hV, rfl, hfz, hnd⟩ := hW
  have hA : DataW.TrodAll enc Tryd.prog W 0 (fun _ => true) true Tryd.f3.params.toList args.toList ds p := hA0
  rw [Tryd.params3] at hA hval
  obtain ⟨v0, vs0, d0, ds0, p0, q0, hargs, rfl, rfl, h0, r0⟩ := trodAll_cons hA
  obtain ⟨rfl, rfl, rfl⟩ := trodAll_nil r0
  obtain rfl : args = #[v0] := by cases args; simp_all
  have hV2 : DataW.TrodVars enc Tryd.prog W (fun _ => true) ["loop.example/g00411/impl.errNoAsk"] gs q := hV
  obtain ⟨g0, rfl⟩ : ∃ g0, gs = [g0] := by
    have := vars_len hV2
    match gs, this with
    | [g0], _ => exact ⟨g0, rfl⟩
  have k0 := h0
  have lt0 : ∀ x ∈ p0, x.block < W.heap.size := by obtain ⟨m, hm⟩ := k0; exact DataW.trod_lt m _ _ _ hm
  obtain ⟨a0, len0, cap0, rfl⟩ := okWide_slice Tryd.underlying22 (hval 0 22 v0 rfl rfl)
  obtain ⟨z0, w0⟩ : ∃ zs, IsRow .u8 W a0 len0 cap0 zs := by
    obtain ⟨fuel, hf⟩ := h0
    rcases open_ints Tryd.underlying22 Tryd.underlying5 (by kernel_rfl) hf with ⟨hcs, _⟩ | ⟨x, l, c, zs, hcs, _, hl, hm, hz, _, hcell, hwz⟩
    · simp [Value.cells] at hcs
      obtain ⟨rfl, rfl, rfl⟩ := hcs
      exact ⟨[], .inl ⟨rfl, rfl, rfl, rfl⟩⟩
    · simp [Value.cells] at hcs
      obtain ⟨rfl, rfl, rfl⟩ := hcs
      exact ⟨zs, .inr ⟨_, rfl, hl, hm, by simpa using hz, hcell, hwz⟩⟩
  have hm : ∃ m, W.cell? ⟨4, 0, none⟩ = some (.int .i64 m) := cell_of_shapedOpen_int (zero := #[.int .i64 0]) (t := 3) hsh (of_decide_eq_true (by kernel_rfl)) (by kernel_rfl) rfl (by kernel_rfl) (by kernel_rfl) Tryd.underlying3
  rw [MakeChecks.laidMetH_plain _ _ _ (by kernel_rfl)] at hL
  have hS := hL
  have hno : ∃ a, W.cell? ⟨0, 0, none⟩ = some (.iface 173 (.pointer (some a))) := sent_cell hS.tail (by kernel_rfl) (by kernel_rfl)
  clear hA0 hval0
  refine (walk a0 len0 cap0 z0 W w0 hm hno).mono fun e W' ⟨he, bel⟩ => ?_
  subst he
  exact ⟨_, rfl, _, _, _, [], _, _, hW', trodAll_mk1 (shut_bool Tryd.underlying4 _), (trodAll_cons_mk (Below.trod laidOut (by kernel_rfl) (of_decide_eq_true (by kernel_rfl)) k0 bel lt0) trodAll_mk0), vars_below bel (List.forall_mem_cons.2 ⟨⟨0, 55, _, by kernel_rfl, by kernel_rfl, Tryd.underlying55⟩, List.forall_mem_nil _⟩) hV2, bel.frame _, fun h => by cases h⟩

theorem over : Rows.fnAsksRow.holds Tryd.pinned (OpenSpec.ofChange Rows.fnAsksSpec) :=
  OpenClaim.holds_of_wide 3 Tryd.f3 rfl rfl rfl rfl rfl rfl rfl ⟨rfl, rfl, rfl, rfl, rfl⟩ rfl rfl rfl rfl rfl (by kernel_rfl) Tryd.func3 (by kernel_rfl)
    (of_decide_eq_true (by kernel_rfl)) (by unfold Func.isWrapper; first | (rw [if_pos (by decide +kernel)]; kernel_rfl) | (rw [if_neg (by decide +kernel)]; exact ⟨rfl, rfl⟩))
    (fun os started H enc _ => lifted os started H enc)

theorem carded : Rows.FnAsksCardSaid :=
  Claim7.holds_tied_plain_at .later [] [.data, .sentinel, .pinned] true (true, "43c504520087371bce286e546cab3ff60ebee0599631351e9d9a17ed5ac33bd1") true
    over (fun _ h => by cases h) (by kernel_rfl) (fun _ h => by cases h) fnAsks_row_tie rfl ⟨rfl, rfl⟩ (by kernel_rfl) rfl
    (fun f fn hf hfn => by
      obtain rfl : f = 3 := Option.some.inj ((show Tryd.prog.funcNamed "loop.example/g00411/laws.FnAsks" = some 3 by kernel_rfl).symm.trans hf) |>.symm
      obtain rfl : fn = Tryd.f3 := (Option.some.inj (Tryd.func3.symm.trans hfn)).symm
      exact ⟨by kernel_rfl, fun j t ht => by
        rw [Tryd.params3] at ht
        have hm : t ∈ [22] := by simpa using Array.mem_of_getElem? ht
        have hall : ([22].all fun u => !Tryd.prog.wantsStandIn u) = true := by kernel_rfl
        exact (show Tryd.prog.wantsStandIn t = false by simpa using List.all_eq_true.1 hall t hm)⟩)
    (by kernel_rfl)
#print axioms carded
end Go.Proofs.YtflehmepjhikcaaDoor.fnAsks
namespace Go.Proofs.YtflehmepjhikcaaDoor
theorem fnAsks_holds : Rows.FnAsksCardSaid := fnAsks.carded
end Go.Proofs.YtflehmepjhikcaaDoor
