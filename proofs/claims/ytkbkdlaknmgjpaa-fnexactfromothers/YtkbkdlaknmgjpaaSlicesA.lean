/- Contracts of the law's own helpers on lists of numbers: to compare two, to copy one, to mark one and to ask for the marks. -/
import Derived.Test.YtkbkdlaknmgjpaaSliceEq
import Derived.Outline
import Derived.RegionTactic
import Derived.Deep.QuietTactic
import Derived.BigQuiet
namespace Go.Proofs.Ytkbkdlaknmgjpaa
open Go.ChangeShapes Go.WideShapes Go.ChangeAt Go.RowKit

/-- Marks k, k + 1, .. -/
def marks (k : Int) : Nat → List Int
  | 0 => []
  | n + 1 => marks k n ++ [k + n]
theorem marks_len (k : Int) (n : Nat) : (marks k n).length = n := by
  induction n with
  | zero => rfl
  | succ n ih => simp [marks, ih]
theorem marks_getD (k : Int) (n i : Nat) (h : i < n) : (marks k n).getD i 0 = k + i := by
  induction n with
  | zero => omega
  | succ n ih =>
    unfold marks
    by_cases hi : i < n
    · rw [List.getD_eq_getElem?_getD, List.getElem?_append_left (by rw [marks_len]; exact hi), ← List.getD_eq_getElem?_getD, ih hi]
    · have : i = n := by omega
      subst this
      rw [List.getD_eq_getElem?_getD, List.getElem?_append_right (by rw [marks_len]; exact Nat.le_refl _), marks_len]
      simp
set_option maxHeartbeats 400000 in
theorem held_any (w : World) (v : Value) (k : Int) (n : Nat) (h : Rd w v (marks k n)) (hn : n ≤ 1048576) (h0 : 1 ≤ k) (h1 : k ≤ 1048576) :
    Calls Try.prog 13 #[v, .int .i64 k] w fun e w' => e = .returned (.int .i64 (k + n)) ∧ Keep w w' := by
  obtain ⟨a, c, rfl, h⟩ := h
  rw [marks_len]
  go_enter Try.func13, Try.ntmps13
  go_wp2
  go_loopw [1, 5] (fun q i wr => ∃ j : Nat, j ≤ n ∧ i = .int .i64 j ∧ q = .int .i64 (k + j) ∧ Keep w wr) (fun _ i _ => n - (intOf i).toNat)
  case atStart => exact ⟨0, Nat.zero_le _, rfl, by simp, Keep.refl _⟩
  case round =>
    obtain ⟨j, hj, rfl, rfl, hK⟩ := hrel
    by_cases hlt : j < n
    · rcases h with h | ⟨b, o, rfl, hb, hc⟩
      · exfalso; have := marks_len k n; rw [h] at this; simp at this; omega
      have d1 := (hK.cell hb).trans (hc j (by rw [marks_len]; exact hlt))
      rw [marks_getD k n j hlt] at d1
      clear hc
      go_wp2
      go_roundw
      case rel => exact ⟨j + 1, by omega, by go_num, by go_num, hK⟩
      case measure => simp [intOf]; omega
    · have : j = n := by omega
      subst this
      go_wp2
      go_ret
      exact ⟨rfl, hK⟩
/-- The first j are marked. -/
theorem set_marks (zs : List Int) (k : Int) (j : Nat) (hj : j < zs.length) :
    ((marks k j ++ zs.drop j).map (Value.int .i64)).set j (.int .i64 (k + j)) = (marks k (j + 1) ++ zs.drop (j + 1)).map (Value.int .i64) := by
  have e : (marks k j ++ zs.drop j).set j (k + j) = marks k (j + 1) ++ zs.drop (j + 1) := by
    rw [List.set_append_right _ _ (by rw [marks_len]; exact Nat.le_refl _), marks_len, Nat.sub_self, List.drop_eq_getElem_cons hj, List.set_cons_zero]
    show _ = (marks k j ++ [k + (j : Int)]) ++ _
    rw [List.append_assoc]; rfl
  rw [← e, List.map_set]
theorem marked_len (zs : List Int) (k : Int) (j : Nat) (hj : j ≤ zs.length) : (marks k j ++ zs.drop j).length = zs.length := by
  rw [List.length_append, marks_len, List.length_drop]; omega
set_option maxHeartbeats 400000 in
theorem mark_any (w : World) (base : Nat) (v : Value) (k : Int) (zs : List Int) (h : Own w base v zs) (hn : zs.length ≤ 1048576) (h0 : 1 ≤ k) (h1 : k ≤ 1048576) :
    Calls Try.prog 12 #[v, .int .i64 k] w fun e w' => e = .returned (.int .i64 (k + zs.length)) ∧ Own w' base v (marks k zs.length) ∧ w.grownBy w' v.ownBlock := by
  have hsh : v = .slice none 0 0 ∧ zs.length = 0 ∨ ∃ g cap, v = .slice (some ⟨g, 0, none⟩) zs.length cap := by
    rcases h.2 with h | ⟨g, cap, cur, hv, _⟩
    · exact .inl h
    · exact .inr ⟨g, cap, hv⟩
  rcases hsh with ⟨rfl, hz⟩ | ⟨g, cap, rfl⟩
  · have : zs = [] := List.eq_nil_of_length_eq_zero hz
    subst this
    go_enter Try.func12, Try.ntmps12
    go_wp2
    refine wp_loop_rounds 1 ?_
    rw [rounds_succ]
    go_wp2
    go_ret
    exact ⟨by simp, h, World.grownBy.refl _ _⟩
  · go_enter Try.func12, Try.ntmps12
    go_wp2
    go_loopw [1, 5] (fun q i wr => ∃ j : Nat, j ≤ zs.length ∧ i = .int .i64 j ∧ q = .int .i64 (k + j) ∧ wr.ownsRow base 2 1 (.slice (some ⟨g, 0, none⟩) zs.length cap) zs.length ((marks k j ++ zs.drop j).map (Value.int .i64)) ∧ w.grownBy wr (some g)) (fun _ i _ => zs.length - (intOf i).toNat)
    case atStart => exact ⟨0, Nat.zero_le _, rfl, by simp, h, World.grownBy.refl _ _⟩
    case round =>
      obtain ⟨j, hj, rfl, rfl, ho, hg⟩ := hrel
      by_cases hlt : j < zs.length
      · have d1 := World.ownsRow.cellAt ho j (by omega)
        have d2 := World.ownsRow.frozenAt ho j
        have hs := World.ownsRow.stored ho j (.int .i64 (k + j))
        rw [set_marks zs k j hlt] at hs
        obtain ⟨u, hu⟩ : ∃ u, ((marks k j ++ zs.drop j).map (Value.int .i64))[j]? = some u := ⟨_, List.getElem?_eq_getElem (by rw [List.length_map, marked_len zs k j hj]; exact hlt)⟩
        rw [hu] at d1
        clear hu
        go_wp2
        go_roundw
        case rel => exact ⟨j + 1, by omega, by go_num, by go_num, hs.1, grown_trans hg hs.2⟩
        case measure => simp [intOf]; omega
      · have : j = zs.length := by omega
        subst this
        go_wp2
        go_ret
        refine ⟨rfl, ?_, hg⟩
        unfold Own
        rw [marks_len]
        simpa using ho
end Go.Proofs.Ytkbkdlaknmgjpaa
