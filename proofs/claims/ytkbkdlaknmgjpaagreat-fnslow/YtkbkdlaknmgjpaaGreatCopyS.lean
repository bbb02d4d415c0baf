/- Contract of the specification's copy of a list, wherever it lies. -/
import Derived.Test.YtkbkdlaknmgjpaaGreatRdCells
import Derived.Outline
import Derived.Laws.AppendOwnNone
namespace Go.Proofs.YtkbkdlaknmgjpaaGreat
open Go.ChangeShapes Go.WideShapes Go.ChangeAt Go.RowKit

set_option maxHeartbeats 1000000 in
theorem l1Copy_rd (w : World) (v : Value) (zs : List Int) (h : Rd w v zs) (hn : zs.length ≤ 1048576) :
    Calls Tryz.prog 158 #[v] w fun e w' => ∃ v', e = .returned v' ∧ Own w' w.heap.size v' zs ∧ Keep w w' := by
  have ho : Own (w.alloc (.cells #[] 2)) w.heap.size (.slice (some ⟨w.heap.size, 0, none⟩) 0 0) [] := World.ownsRow_lit w #[] 0 (Nat.le_refl _) (by decide) rfl
  have hK : Keep w (w.alloc (.cells #[] 2)) := (Keep.refl w).alloc _
  obtain ⟨i0, hi, hz0, hz1, hz2⟩ := info_parts Tryz.infoI
  obtain ⟨a, cap, rfl, h⟩ := h
  rcases h with rfl | ⟨g, off, rfl, hg, hc⟩
  · cases a with
    | none =>
      go_enter Tryz.func158, Tryz.ntmps158
      go_wp2
      go_ret
      exact ⟨_, rfl, ho, hK⟩
    | some x =>
      go_enter Tryz.func158, Tryz.ntmps158
      go_wp2_with (at_builtin; refine wpList_append_own _ rfl _ _ 25 rfl w.heap.size 2 i0 (.int .i64 0) 1 8 Tryz.underlying25 hi hz0 hz1 hz2 rfl (by decide) _ _ _ rfl ho x 0 cap [] rfl rfl ?c1 ?c2 ?c3 ?c4 ?c5 ?_)
      case c1 => intro j u hj; simp at hj
      case c2 => intro u hu; simp at hu
      case c3 => simp
      case c4 => simp
      case c5 => simp
      intro v' w1 hown' hgrow _
      have k1 : Keep w w1 := hK.grown hgrow ho.ge
      have o1 : Own w1 w.heap.size v' [] := by unfold Own; simpa using hown'
      clear hgrow hown'
      go_wp2
      go_ret
      exact ⟨_, rfl, o1, k1⟩
  · have C := rd_cells (w := w.alloc (.cells #[] 2)) (b := g) (off := off) (zs := zs) (fun i hi => (hK.cell hg).trans (hc i hi))
    go_enter Tryz.func158, Tryz.ntmps158
    go_wp2_with (at_builtin; refine wpList_append_own _ rfl _ _ 25 rfl w.heap.size 2 i0 (.int .i64 0) 1 8 Tryz.underlying25 hi hz0 hz1 hz2 rfl (by decide) _ _ _ rfl ho ⟨g, off, none⟩ zs.length cap (zs.map (Value.int .i64)) rfl (by simp) ?c1 ?c2 ?c3 ?c4 ?c5 ?_)
    case c1 => exact C
    case c2 => exact ints_one zs
    case c3 => simp; unfold maxLen; omega
    case c4 => simp; omega
    case c5 => simp
    intro v' w1 hown' hgrow _
    have k1 : Keep w w1 := hK.grown hgrow ho.ge
    have o1 : Own w1 w.heap.size v' zs := by unfold Own; simpa using hown'
    clear hgrow hown'
    go_wp2
    go_ret
    exact ⟨_, rfl, o1, k1⟩
end Go.Proofs.YtkbkdlaknmgjpaaGreat
