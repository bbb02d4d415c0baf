/- Gathered texts. -/
import Derived.Outline
import Derived.RegionTactic
import Derived.Deep.QuietTactic
import Derived.BigQuiet
import Derived.Test.YtgakfkjjkobpiaaMF
set_option maxRecDepth 100000
set_option maxHeartbeats 8000000
namespace Go.Proofs.Ytgakfkjjkobpiaa
open Go.ChangeShapes Go.WideShapes Go.ChangeAt Go.RowKit
theorem made_ints (n : Nat) : (madeCells (Value.int .i64 0).cells (n * 1)).toList = ((List.replicate n (0 : Int)).map (Value.int .i64)) := by
  rw [Nat.mul_one, List.map_replicate]
  exact toList_madeCells_one _ _
theorem set_copied (zs : List Int) (j : Nat) (hj : j < zs.length) :
    ((zs.take j ++ List.replicate (zs.length - j) 0).map (Value.int .i64)).set j (.int .i64 (zs.getD j 0)) = (zs.take (j + 1) ++ List.replicate (zs.length - (j + 1)) 0).map (Value.int .i64) := by
  have e : (zs.take j ++ List.replicate (zs.length - j) 0).set j (zs.getD j 0) = zs.take (j + 1) ++ List.replicate (zs.length - (j + 1)) 0 := by
    have hl : (zs.take j).length = j := by rw [List.length_take]; omega
    rw [List.set_append_right _ _ (by rw [hl]; exact Nat.le_refl _), hl, Nat.sub_self, show zs.length - j = (zs.length - (j + 1)) + 1 from by omega, List.replicate_succ, List.set_cons_zero, take_snoc zs j hj, List.append_assoc]
    rfl
  rw [← e, List.map_set]
theorem copied_len (zs : List Int) (j : Nat) (hj : j ≤ zs.length) : (zs.take j ++ List.replicate (zs.length - j) (0 : Int)).length = zs.length := by
  rw [List.length_append, List.length_take, List.length_replicate]; omega
theorem to_any (w : World) (v : Value) (zs : List Int) (h : Rd w v zs) (hn : zs.length ≤ 1048576) :
    Calls Try.prog 66 #[v] w fun e w' => ∃ v', e = .returned v' ∧ Own w' w.heap.size v' zs ∧ Keep w w' := by
  obtain ⟨a, c, rfl, h⟩ := h
  obtain ⟨i0, hi, hz0, hz1, hz2⟩ := info_parts Try.infoI
  go_enter Try.func66, Try.ntmps66
  go_wp2_with (at_make; refine wpList_make_full _ rfl _ _ 25 rfl w.heap.size 2 i0 (.int .i64 0) 1 Try.underlying25 hi hz0 hz1 .i64 .i64 _ _ zs.length rfl rfl rfl rfl (by rw [hz2]; omega) (by unfold maxLen; omega) (Nat.le_refl _) ?_; intro w1 hown hgrow)
  rw [made_ints] at hown
  have hk1 : Keep w w1 := (Keep.refl w).grown hgrow (by simp)
  clear hgrow
  go_loopw [4] (fun i wr => ∃ j : Nat, j ≤ zs.length ∧ i = .int .i64 j ∧ wr.ownsRow w.heap.size 2 1 (.slice (some ⟨w.heap.size, 0, none⟩) zs.length zs.length) zs.length ((zs.take j ++ List.replicate (zs.length - j) 0).map (Value.int .i64)) ∧ Keep w wr) (fun i _ => zs.length - (intOf i).toNat)
  case atStart => exact ⟨0, Nat.zero_le _, rfl, by simpa using hown, hk1⟩
  case round =>
    obtain ⟨j, hj, rfl, ho, hK⟩ := hrel
    by_cases hlt : j < zs.length
    · rcases h with h | ⟨b, o, rfl, hb, hc⟩
      · exfalso; rw [h] at hlt; simp at hlt
      have d0 := (hK.cell hb).trans (hc j hlt)
      have d1 := World.ownsRow.cellAt ho j (by omega)
      have d2 := World.ownsRow.frozenAt ho j
      have hs := World.ownsRow.stored ho j (.int .i64 (zs.getD j 0))
      rw [set_copied zs j hlt] at hs
      obtain ⟨u, hu⟩ : ∃ u, ((zs.take j ++ List.replicate (zs.length - j) 0).map (Value.int .i64))[j]? = some u := ⟨_, List.getElem?_eq_getElem (by rw [List.length_map, copied_len zs j hj]; exact hlt)⟩
      rw [hu] at d1
      obtain ⟨p, hp⟩ : ∃ p, p = zs.getD j 0 := ⟨_, rfl⟩
      rw [← hp] at d0 hs
      clear hu hc hp hown hk1
      go_wp2
      go_roundw
      case rel => exact ⟨j + 1, by omega, by go_num, hs.1, hK.grown hs.2 (by simp)⟩
      case measure => simp [intOf]; omega
    · have : j = zs.length := by omega
      subst this
      go_wp2
      go_ret
      refine ⟨_, rfl, ?_, hK⟩
      unfold Own
      simpa using ho
def marks (k : Int) : Nat → List Int
  | 0 => []
  | n + 1 => marks k n ++ [k + n]
theorem marks_len (k : Int) (n : Nat) : (marks k n).length = n := by
  induction n with
  | zero => rfl
  | succ n ih => simp [marks, ih]
theorem marks_getD (k : Int) (n i : Nat) (h : i < n) : (marks k n).getD i 0 = k + i := by
  induction n with
  | zero => omega
  | succ n ih =>
    unfold marks
    by_cases hi : i < n
    · rw [List.getD_eq_getElem?_getD, List.getElem?_append_left (by rw [marks_len]; exact hi), ← List.getD_eq_getElem?_getD, ih hi]
    · have : i = n := by omega
      subst this
      rw [List.getD_eq_getElem?_getD, List.getElem?_append_right (by rw [marks_len]; exact Nat.le_refl _), marks_len]
      simp
theorem marked_len (zs : List Int) (k : Int) (j : Nat) (hj : j ≤ zs.length) : (marks k j ++ zs.drop j).length = zs.length := by
  rw [List.length_append, marks_len, List.length_drop]; omega
theorem set_mark (zs : List Int) (k : Int) (j : Nat) (hj : j < zs.length) : (marks k j ++ zs.drop j).set j (k + j) = marks k (j + 1) ++ zs.drop (j + 1) := by
  rw [List.set_append_right _ _ (by rw [marks_len]; exact Nat.le_refl _), marks_len, Nat.sub_self, List.drop_eq_getElem_cons hj, List.set_cons_zero]
  show _ = (marks k j ++ [k + (j : Int)]) ++ _
  rw [List.append_assoc]; rfl
theorem mark_row (w : World) (base : Nat) (v : Value) (k : Int) (zs : List Int) (h : Row w base v zs) (hn : zs.length ≤ 1048576) (h0 : 1 ≤ k) (h1 : k ≤ 16777216) :
    Calls Try.prog 27 #[v, .int .i64 k] w fun e w' => e = .returned (.int .i64 (k + zs.length)) ∧ Row w' base v (marks k zs.length) ∧ w.grownBy w' v.ownBlock := by
  rcases h with ⟨rfl, rfl⟩ | ⟨g, cap, rfl, hb, hr⟩
  · go_enter Try.func27, Try.ntmps27
    go_wp2
    refine wp_loop_rounds 1 ?_
    rw [rounds_succ]
    go_wp2
    go_ret
    exact ⟨by simp, .inl ⟨rfl, rfl⟩, World.grownBy.refl _ _⟩
  · go_enter Try.func27, Try.ntmps27
    go_wp2
    go_loopw [1, 5] (fun q i wr => ∃ j : Nat, j ≤ zs.length ∧ i = .int .i64 j ∧ q = .int .i64 (k + j) ∧ RowAt wr g (marks k j ++ zs.drop j) ∧ w.grownBy wr (some g)) (fun _ i _ => zs.length - (intOf i).toNat)
    case atStart => exact ⟨0, Nat.zero_le _, rfl, by simp, hr, World.grownBy.refl _ _⟩
    case round =>
      obtain ⟨j, hj, rfl, rfl, ho, hg⟩ := hrel
      clear hr
      by_cases hlt : j < zs.length
      · have d1 := ho.cell (j := j) (by rw [marked_len zs k j hj]; exact hlt)
        have d2 := ho.free j
        have hs := ho.set j (k + j)
        rw [set_mark zs k j hlt] at hs
        generalize (marks k j ++ zs.drop j).getD j 0 = u at d1
        have HG := grown_trans hg (grown_set wr g j (.int .i64 (k + j)))
        go_wp2
        go_roundw
        case rel => exact ⟨j + 1, by omega, by go_num, by go_num, hs, HG⟩
        case measure => simp [intOf]; omega
      · have : j = zs.length := by omega
        subst this
        go_wp2
        go_ret
        refine ⟨rfl, row_new ?_ hb (by rw [marks_len]), hg⟩
        simpa using ho
theorem held_row (w : World) (v : Value) (k : Int) (n : Nat) (h : Rd w v (marks k n)) (hn : n ≤ 1048576) (h0 : 1 ≤ k) (h1 : k ≤ 16777216) :
    Calls Try.prog 28 #[v, .int .i64 k] w fun e w' => e = .returned (.int .i64 (k + n)) ∧ Keep w w' := by
  obtain ⟨a, c, rfl, h⟩ := h
  rw [marks_len]
  go_enter Try.func28, Try.ntmps28
  go_wp2
  go_loopw [1, 5] (fun q i wr => ∃ j : Nat, j ≤ n ∧ i = .int .i64 j ∧ q = .int .i64 (k + j) ∧ Keep w wr) (fun _ i _ => n - (intOf i).toNat)
  case atStart => exact ⟨0, Nat.zero_le _, rfl, by simp, Keep.refl _⟩
  case round =>
    obtain ⟨j, hj, rfl, rfl, hK⟩ := hrel
    by_cases hlt : j < n
    · rcases h with h | ⟨b, o, rfl, hb, hc⟩
      · exfalso; have := marks_len k n; rw [h] at this; simp at this; omega
      have d1 := (hK.cell hb).trans (hc j (by rw [marks_len]; exact hlt))
      rw [marks_getD k n j hlt] at d1
      clear hc
      go_wp2
      go_roundw
      case rel => exact ⟨j + 1, by omega, by go_num, by go_num, hK⟩
      case measure => simp [intOf]; omega
    · have : j = n := by omega
      subst this
      go_wp2
      go_ret
      exact ⟨rfl, hK⟩
end Go.Proofs.Ytgakfkjjkobpiaa
