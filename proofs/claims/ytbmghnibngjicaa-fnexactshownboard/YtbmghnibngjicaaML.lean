/- Gathered texts. -/
import Derived.Test.YtbmghnibngjicaaMA
import Derived.Outline
import Derived.RegionTactic
import Derived.Deep.QuietTactic
import Derived.BigQuiet
set_option maxRecDepth 100000
set_option maxHeartbeats 8000000
namespace Go.Proofs.Ytbmghnibngjicaa
open Go.ChangeShapes Go.WideShapes Go.ChangeAt Go.RowKit
theorem made_ints (n : Nat) : (madeCells (Value.int .i64 0).cells (n * 1)).toList = ((List.replicate n (0 : Int)).map (Value.int .i64)) := by
  rw [Nat.mul_one, List.map_replicate]
  exact toList_madeCells_one _ _
theorem set_copied (zs : List Int) (j : Nat) (hj : j < zs.length) :
    ((zs.take j ++ List.replicate (zs.length - j) 0).map (Value.int .i64)).set j (.int .i64 (zs.getD j 0)) = (zs.take (j + 1) ++ List.replicate (zs.length - (j + 1)) 0).map (Value.int .i64) := by
  have e : (zs.take j ++ List.replicate (zs.length - j) 0).set j (zs.getD j 0) = zs.take (j + 1) ++ List.replicate (zs.length - (j + 1)) 0 := by
    have hl : (zs.take j).length = j := by rw [List.length_take]; omega
    rw [List.set_append_right _ _ (by rw [hl]; exact Nat.le_refl _), hl, Nat.sub_self, show zs.length - j = (zs.length - (j + 1)) + 1 from by omega, List.replicate_succ, List.set_cons_zero, take_snoc zs j hj, List.append_assoc]
    rfl
  rw [← e, List.map_set]
theorem copied_len (zs : List Int) (j : Nat) (hj : j ≤ zs.length) : (zs.take j ++ List.replicate (zs.length - j) (0 : Int)).length = zs.length := by
  rw [List.length_append, List.length_take, List.length_replicate]; omega
theorem to_any (w : World) (v : Value) (zs : List Int) (h : Rd w v zs) (hn : zs.length ≤ 1048576) :
    Calls Try.prog 38 #[v] w fun e w' => ∃ v', e = .returned v' ∧ Own w' w.heap.size v' zs ∧ Keep w w' := by
  obtain ⟨a, c, rfl, h⟩ := h
  obtain ⟨i0, hi, hz0, hz1, hz2⟩ := info_parts Try.infoI
  go_enter Try.func38, Try.ntmps38
  go_wp2_with (at_make; refine wpList_make_full _ rfl _ _ 23 rfl w.heap.size 2 i0 (.int .i64 0) 1 Try.underlying23 hi hz0 hz1 .i64 .i64 _ _ zs.length rfl rfl rfl rfl (by rw [hz2]; omega) (by unfold maxLen; omega) (Nat.le_refl _) ?_; intro w1 hown hgrow)
  rw [made_ints] at hown
  have hk1 : Keep w w1 := (Keep.refl w).grown hgrow (by simp)
  clear hgrow
  go_loopw [4] (fun i wr => ∃ j : Nat, j ≤ zs.length ∧ i = .int .i64 j ∧ wr.ownsRow w.heap.size 2 1 (.slice (some ⟨w.heap.size, 0, none⟩) zs.length zs.length) zs.length ((zs.take j ++ List.replicate (zs.length - j) 0).map (Value.int .i64)) ∧ Keep w wr) (fun i _ => zs.length - (intOf i).toNat)
  case atStart => exact ⟨0, Nat.zero_le _, rfl, by simpa using hown, hk1⟩
  case round =>
    obtain ⟨j, hj, rfl, ho, hK⟩ := hrel
    by_cases hlt : j < zs.length
    · rcases h with h | ⟨b, o, rfl, hb, hc⟩
      · exfalso; rw [h] at hlt; simp at hlt
      have d0 := (hK.cell hb).trans (hc j hlt)
      have d1 := World.ownsRow.cellAt ho j (by omega)
      have d2 := World.ownsRow.frozenAt ho j
      have hs := World.ownsRow.stored ho j (.int .i64 (zs.getD j 0))
      rw [set_copied zs j hlt] at hs
      obtain ⟨u, hu⟩ : ∃ u, ((zs.take j ++ List.replicate (zs.length - j) 0).map (Value.int .i64))[j]? = some u := ⟨_, List.getElem?_eq_getElem (by rw [List.length_map, copied_len zs j hj]; exact hlt)⟩
      rw [hu] at d1
      obtain ⟨p, hp⟩ : ∃ p, p = zs.getD j 0 := ⟨_, rfl⟩
      rw [← hp] at d0 hs
      clear hu hc hp hown hk1
      go_wp2
      go_roundw
      case rel => exact ⟨j + 1, by omega, by go_num, hs.1, hK.grown hs.2 (by simp)⟩
      case measure => simp [intOf]; omega
    · have : j = zs.length := by omega
      subst this
      go_wp2
      go_ret
      refine ⟨_, rfl, ?_, hK⟩
      unfold Own
      simpa using ho
end Go.Proofs.Ytbmghnibngjicaa
