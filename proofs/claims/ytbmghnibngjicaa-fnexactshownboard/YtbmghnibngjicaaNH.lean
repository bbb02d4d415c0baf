/- Gathered texts. -/
import Derived.Test.YtbmghnibngjicaaME
import Derived.Outline
import Derived.RegionTactic
import Derived.Deep.QuietTactic
import Derived.BigQuiet
import Derived.Test.YtbmghnibngjicaaMB
set_option maxRecDepth 100000
set_option maxHeartbeats 8000000
namespace Go.Proofs.Ytbmghnibngjicaa
open Go.ChangeShapes Go.WideShapes Go.ChangeAt Go.RowKit
def marks (k : Int) : Nat → List Int
  | 0 => []
  | n + 1 => marks k n ++ [k + n]
theorem marks_len (k : Int) (n : Nat) : (marks k n).length = n := by
  induction n with
  | zero => rfl
  | succ n ih => simp [marks, ih]
theorem marks_getD (k : Int) (n i : Nat) (h : i < n) : (marks k n).getD i 0 = k + i := by
  induction n with
  | zero => omega
  | succ n ih =>
    unfold marks
    by_cases hi : i < n
    · rw [List.getD_eq_getElem?_getD, List.getElem?_append_left (by rw [marks_len]; exact hi), ← List.getD_eq_getElem?_getD, ih hi]
    · have : i = n := by omega
      subst this
      rw [List.getD_eq_getElem?_getD, List.getElem?_append_right (by rw [marks_len]; exact Nat.le_refl _), marks_len]
      simp
theorem marked_len (zs : List Int) (k : Int) (j : Nat) (hj : j ≤ zs.length) : (marks k j ++ zs.drop j).length = zs.length := by
  rw [List.length_append, marks_len, List.length_drop]; omega
theorem set_mark (zs : List Int) (k : Int) (j : Nat) (hj : j < zs.length) : (marks k j ++ zs.drop j).set j (k + j) = marks k (j + 1) ++ zs.drop (j + 1) := by
  rw [List.set_append_right _ _ (by rw [marks_len]; exact Nat.le_refl _), marks_len, Nat.sub_self, List.drop_eq_getElem_cons hj, List.set_cons_zero]
  show _ = (marks k j ++ [k + (j : Int)]) ++ _
  rw [List.append_assoc]; rfl
theorem mark_row (w : World) (base : Nat) (v : Value) (k : Int) (zs : List Int) (h : Row w base v zs) (hn : zs.length ≤ 1048576) (h0 : 1 ≤ k) (h1 : k ≤ 16777216) :
    Calls Try.prog 28 #[v, .int .i64 k] w fun e w' => e = .returned (.int .i64 (k + zs.length)) ∧ Row w' base v (marks k zs.length) ∧ w.grownBy w' v.ownBlock := by
  rcases h with ⟨rfl, rfl⟩ | ⟨g, cap, rfl, hb, hr⟩
  · go_enter Try.func28, Try.ntmps28
    go_wp2
    refine wp_loop_rounds 1 ?_
    rw [rounds_succ]
    go_wp2
    go_ret
    exact ⟨by simp, .inl ⟨rfl, rfl⟩, World.grownBy.refl _ _⟩
  · go_enter Try.func28, Try.ntmps28
    go_wp2
    go_loopw [1, 5] (fun q i wr => ∃ j : Nat, j ≤ zs.length ∧ i = .int .i64 j ∧ q = .int .i64 (k + j) ∧ RowAt wr g (marks k j ++ zs.drop j) ∧ w.grownBy wr (some g)) (fun _ i _ => zs.length - (intOf i).toNat)
    case atStart => exact ⟨0, Nat.zero_le _, rfl, by simp, hr, World.grownBy.refl _ _⟩
    case round =>
      obtain ⟨j, hj, rfl, rfl, ho, hg⟩ := hrel
      clear hr
      by_cases hlt : j < zs.length
      · have d1 := ho.cell (j := j) (by rw [marked_len zs k j hj]; exact hlt)
        have d2 := ho.free j
        have hs := ho.set j (k + j)
        rw [set_mark zs k j hlt] at hs
        generalize (marks k j ++ zs.drop j).getD j 0 = u at d1
        have HG := grown_trans hg (grown_set wr g j (.int .i64 (k + j)))
        go_wp2
        go_roundw
        case rel => exact ⟨j + 1, by omega, by go_num, by go_num, hs, HG⟩
        case measure => simp [intOf]; omega
      · have : j = zs.length := by omega
        subst this
        go_wp2
        go_ret
        refine ⟨rfl, row_new ?_ hb (by rw [marks_len]), hg⟩
        simpa using ho
theorem held_row (w : World) (v : Value) (k : Int) (n : Nat) (h : Rd w v (marks k n)) (hn : n ≤ 1048576) (h0 : 1 ≤ k) (h1 : k ≤ 16777216) :
    Calls Try.prog 29 #[v, .int .i64 k] w fun e w' => e = .returned (.int .i64 (k + n)) ∧ Keep w w' := by
  obtain ⟨a, c, rfl, h⟩ := h
  rw [marks_len]
  go_enter Try.func29, Try.ntmps29
  go_wp2
  go_loopw [1, 5] (fun q i wr => ∃ j : Nat, j ≤ n ∧ i = .int .i64 j ∧ q = .int .i64 (k + j) ∧ Keep w wr) (fun _ i _ => n - (intOf i).toNat)
  case atStart => exact ⟨0, Nat.zero_le _, rfl, by simp, Keep.refl _⟩
  case round =>
    obtain ⟨j, hj, rfl, rfl, hK⟩ := hrel
    by_cases hlt : j < n
    · rcases h with h | ⟨b, o, rfl, hb, hc⟩
      · exfalso; have := marks_len k n; rw [h] at this; simp at this; omega
      have d1 := (hK.cell hb).trans (hc j (by rw [marks_len]; exact hlt))
      rw [marks_getD k n j hlt] at d1
      clear hc
      go_wp2
      go_roundw
      case rel => exact ⟨j + 1, by omega, by go_num, by go_num, hK⟩
      case measure => simp [intOf]; omega
    · have : j = n := by omega
      subst this
      go_wp2
      go_ret
      exact ⟨rfl, hK⟩
end Go.Proofs.Ytbmghnibngjicaa
