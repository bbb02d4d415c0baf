/- Contract of the specification's l2Join: a new list of the sets mixed place by place. -/
import Derived.Test.YtkbkdlaknmgjpaaGreatMB
import Derived.Test.YtkbkdlaknmgjpaaGreatMA
import Derived.Test.YtkbkdlaknmgjpaaGreatL1Has
import Derived.Outline
import Derived.RegionTactic
import Derived.Deep.RegionHeld3
import Derived.Deep.AppendLies
import Derived.OwnWalk
import Derived.StillTactics
import Derived.Laws.Pointers
namespace Go.Proofs.YtkbkdlaknmgjpaaGreat
open Go.ChangeShapes Go.WideShapes Go.ChangeAt Go.RowKit

theorem zip_stepJ {a b : List Int} {k : Nat} (ha : k < a.length) (hb : k < b.length) : (List.zipWith orI a b).take (k + 1) = (List.zipWith orI a b).take k ++ [orI (a.getD k 0) (b.getD k 0)] := by
  have hz : k < (List.zipWith orI a b).length := by rw [List.length_zipWith]; omega
  rw [List.take_succ_eq_append_getElem hz, List.getElem_zipWith, List.getD_eq_getElem?_getD, List.getD_eq_getElem?_getD, List.getElem?_eq_getElem ha, List.getElem?_eq_getElem hb]
  rfl
set_option maxRecDepth 100000 in
set_option maxHeartbeats 3200000 in
theorem l2Join_any (w : World) (v1 v2 : Value) (xs ys : List Int) (h1 : Rd w v1 xs) (h2 : Rd w v2 ys) (n1 : xs.length ≤ 12) (hl : xs.length = ys.length) :
    Calls Tryz.prog 102 #[v1, v2] w fun e w' => ∃ v', e = .returned v' ∧ Own w' w.heap.size v' (List.zipWith orI xs ys) ∧ Keep w w' := by
  have r1 := h1
  have r2 := h2
  obtain ⟨a1, c1, rfl, h1⟩ := h1
  obtain ⟨a2, c2, rfl, h2⟩ := h2
  have hl1 : xs.length ≤ ys.length := by omega
  have hl2 : ys.length ≤ xs.length := by omega
  clear hl
  have hown0 : Own (w.alloc (.cells #[] 2)) w.heap.size (.slice (some ⟨w.heap.size, 0, none⟩) 0 0) [] := World.ownsRow_lit w #[] 0 (Nat.le_refl _) (by decide) rfl
  obtain ⟨i0, hi, hz0, hz1, hz2⟩ := info_parts Tryz.infoI
  go_enter Tryz.func102, Tryz.ntmps102
  go_wp2
  go_loopw [5, 6] (fun v0 i wr => ∃ (v : Value) (k : Nat), v = v0 ∧ k ≤ xs.length ∧ i = .int .i64 k ∧ Own wr w.heap.size v ((List.zipWith orI xs ys).take k) ∧ Keep w wr) (fun _ i _ => xs.length - (intOf i).toNat)
  case atStart => exact ⟨_, 0, rfl, Nat.zero_le _, rfl, hown0, (Keep.refl _).alloc _⟩
  case round =>
    obtain ⟨v, k, rfl, hk, rfl, ho, hK⟩ := hrel
    clear hown0
    by_cases hlt : k < xs.length
    · rcases h1 with h | ⟨b1, o1, rfl, hb1, hc1⟩
      · exfalso; rw [h] at hlt; simp at hlt
      have hlt2 : k < ys.length := by omega
      rcases h2 with h | ⟨b2, o2, rfl, hb2, hc2⟩
      · exfalso; rw [h] at hlt2; simp at hlt2
      have d1 := (hK.cell hb1).trans (hc1 k hlt)
      have d2 := (hK.cell hb2).trans (hc2 k hlt2)
      have HZ : Hid ((List.zipWith orI xs ys).take (k + 1) = (List.zipWith orI xs ys).take k ++ [orI (xs.getD k 0) (ys.getD k 0)]) := zip_stepJ hlt hlt2
      have hLl : ((List.zipWith orI xs ys).take k).length ≤ 12 := by rw [List.length_take, List.length_zipWith]; omega
      have ag1 := ho.ge b1
      have ag2 := ho.ge b2
      have hsz := hK.size
      have rr1 := r1.keep hK
      have rr2 := r2.keep hK
      clear hc1 hc2
      generalize xs.getD k 0 = p at *
      generalize ys.getD k 0 = q at *
      generalize (List.zipWith orI xs ys).take k = L at *
      have an1 : v.ownBlock ≠ some b1 := fun e => by have := ag1 e; omega
      have an2 : v.ownBlock ≠ some b2 := fun e => by have := ag2 e; omega
      clear ag1 ag2
      have i1 : (0 : Int) ≤ (k : Int) := Int.natCast_nonneg _
      have i2 : (k : Int) < (xs.length : Int) := by omega
      have i3 : (k : Int) < (ys.length : Int) := by omega
      have m1 : L.length + 1 ≤ maxLen := by unfold maxLen; omega
      have m2 : (L.length + 1) * 8 ≤ 140737488355328 := by omega
      go_wp2_with fail
      go_region_held3 (fun w' => w'.cell? ⟨b1, o1 + k, none⟩ = some (.int .i64 p) ∧ w'.cell? ⟨b2, o2 + k, none⟩ = some (.int .i64 q))
        (first
          | go_keep
          | (go_split_ands
             refine ⟨?_, ?_⟩
             · (rw [hgrow.cell_far _ (by simp; omega) (Ne.symm an1)]; assumption)
             · (rw [hgrow.cell_far _ (by simp; omega) (Ne.symm an2)]; assumption)))
        ((refine step_append_lies _ (by rfl) _ _ _ (by rfl) w.heap.size 2 i0 _ 1 8 Tryz.underlying25 hi hz0 hz1 hz2 rfl (by omega) v L.length (L.map (Value.int .i64)) (by rfl) ((World.ownsRow.alloc ho _).drew)
            ⟨wr.heap.size, 0, none⟩ 1 1 [.int .i64 (orI p q)] (by rfl) (by rfl) (World.news_of_block (cs := #[.int .i64 (orI p q)]) (t := 2) (fr := (0, 0)) (heap_alloc_new wr _)) (by simp [Value.oneCell'])
            (by omega) m1 m2 (by simp; omega) (wr.heap.size + 1) (by simp) ?_; intro gg cap w1 hown1 hgrow hat hlt1))
      have k1 : Keep w w1 := ((hK.alloc _).drew).grown hgrow ho.ge
      have o1' := own_hit hown1
      clear hgrow hown1 hat
      go_wp2
      go_roundw
      case rel => exact ⟨_, k + 1, rfl, by omega, by go_num, by rw [HZ.out]; exact o1', k1⟩
      case measure => simp [intOf]; omega
    · obtain rfl : k = xs.length := by omega
      go_wp2
      go_ret
      refine ⟨_, rfl, ?_, hK⟩
      rw [List.take_of_length_le (by rw [List.length_zipWith]; omega)] at ho
      exact ho
end Go.Proofs.YtkbkdlaknmgjpaaGreat
