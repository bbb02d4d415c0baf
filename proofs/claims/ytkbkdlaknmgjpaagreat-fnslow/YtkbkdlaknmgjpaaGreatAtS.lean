/- Contract of the specification's l8At: the n-th source, in a new list. -/
import Derived.Test.YtkbkdlaknmgjpaaGreatMC
import Derived.Test.YtkbkdlaknmgjpaaGreatMA
import Derived.Test.YtkbkdlaknmgjpaaGreatOwnSet
import Derived.BigRegion
import Derived.Lib.Hide
namespace Go.Proofs.YtkbkdlaknmgjpaaGreat
open Go.ChangeShapes Go.WideShapes Go.ChangeAt Go.RowKit

theorem made_at (n : Nat) : (madeCells (Value.int .i64 0).cells (n * 1)).toList = ((List.replicate n (0 : Int)).map (Value.int .i64)) := by
  rw [Nat.mul_one, List.map_replicate]
  exact toList_madeCells_one _ _
set_option maxRecDepth 100000 in
set_option maxHeartbeats 2000000 in
theorem l8At_any (w : World) (v : Value) (c : List (List Int)) (n : Int) (h : RdL w v c) (hl : c.length ≤ 12) (hf : Full c) (h0 : 0 ≤ n) (h1 : n ≤ 8916100448256) (hb : ∀ i, i < c.length → (c.getD i []).length ≤ 12) :
    Calls Tryz.prog 174 #[v, .int .i64 n] w fun e w' => ∃ v', e = .returned v' ∧ Own w' w.heap.size v' (atL c n) ∧ Keep w w' := by
  obtain ⟨a, cc, rfl, h⟩ := h
  obtain ⟨i0, hi, hz0, hz1, hz2⟩ := info_parts Tryz.infoI
  go_enter Tryz.func174, Tryz.ntmps174
  go_wp2_with (at_make; refine wpList_make_full _ rfl _ _ 25 rfl w.heap.size 2 i0 (.int .i64 0) 1 Tryz.underlying25 hi hz0 hz1 .i64 .i64 _ _ c.length rfl rfl rfl rfl (by rw [hz2]; omega) (by unfold maxLen; omega) (Nat.le_refl _) ?_; intro w1 hown hgrow)
  rw [made_at] at hown
  have k1 : Keep w w1 := (Keep.refl w).grown hgrow (by simp)
  have o1 : Own w1 w.heap.size (.slice (some ⟨w.heap.size, 0, none⟩) c.length c.length) (atF c n 0) := by
    unfold Own atF atK
    simpa using hown
  clear hgrow hown hi hz0 hz1 hz2
  have HA := Lib.hid (atF_all c n)
  go_loopw [1, 6] (fun x i wr => ∃ k : Nat, k ≤ c.length ∧ x = .int .i64 (atK c n k).1 ∧ i = .int .i64 ((c.length : Int) - 1 - k) ∧ 0 ≤ (atK c n k).1 ∧ (atK c n k).1 ≤ 8916100448256 ∧ Own wr w.heap.size (.slice (some ⟨w.heap.size, 0, none⟩) c.length c.length) (atF c n k) ∧ Keep w wr) (fun _ i _ => (intOf i + 1).toNat)
  case atStart => exact ⟨0, Nat.zero_le _, rfl, by go_num, h0, h1, o1, k1⟩
  case round =>
    obtain ⟨k, hk, rfl, rfl, x0, x1, ho, hK⟩ := hrel
    clear o1 k1
    by_cases hlt : k < c.length
    · rcases h with h | ⟨b, o, rfl, hbl, hc⟩
      · exfalso; rw [h] at hlt; simp at hlt
      obtain ⟨m, hm⟩ : ∃ m : Nat, m = c.length - 1 - k := ⟨_, rfl⟩
      have em : (c.length : Int) - 1 - (k : Int) = (m : Int) := by omega
      have hml : m < c.length := by omega
      obtain ⟨vi, e1, r1⟩ := hc m hml
      have d1 := (hK.cell hbl).trans e1
      have r2 := r1.keep hK
      have HS := Lib.hid (atF_step c n k hlt)
      have HN : Hid ((atK c n (k + 1)).1 = (atK c n k).1 / (c.getD m []).length) := Lib.hid (by rw [hm]; rfl)
      rw [← hm] at HS
      have f1 := hf m hml
      have f2 := hb m hml
      have hal := atF_len c n k (by omega)
      clear hc e1 r1 hb hf
      rw [em]
      have HM := Lib.hid hm
      clear em hm
      generalize c.getD m [] = zs at *
      generalize (atK c n k).1 = x at *
      generalize atF c n k = S at *
      obtain ⟨az, cz, rfl, r2⟩ := r2
      rcases r2 with h | ⟨b2, o2, rfl, hb2, hc2⟩
      · exfalso; rw [h] at f1; simp at f1
      have zl : (0 : Int) < (zs.length : Int) := by omega
      have q0 : 0 ≤ x % (zs.length : Int) := Int.emod_nonneg _ (by omega)
      have q1 : x % (zs.length : Int) < (zs.length : Int) := Int.emod_lt_of_pos _ zl
      obtain ⟨q, hq⟩ := Int.eq_ofNat_of_zero_le q0
      have d2 := hc2 q (by omega)
      have e1 : x.tmod (zs.length : Int) = (q : Int) := by rw [Int.tmod_eq_emod_of_nonneg x0]; exact hq
      have e2 : x.tdiv (zs.length : Int) = x / (zs.length : Int) := Int.tdiv_eq_ediv_of_nonneg x0
      have y0 : 0 ≤ x / (zs.length : Int) := Int.ediv_nonneg x0 (by omega)
      have y1 : x / (zs.length : Int) ≤ x := Int.ediv_le_self _ x0
      have hR := ho.rowAt
      have fr := hR.free m
      have hgl := hR.lt
      have c1 := hR.cell (j := m) (by omega)
      go_wp2
      go_region
      all_goals
        go_wp2
        have em := HM.out
        refine ⟨⟨k + 1, by omega, by rw [HN.out], by congr 1; omega, by rw [HN.out]; exact y0, by rw [HN.out]; omega, ?_, ?_⟩, by simp [intOf]⟩
        · rw [HS.out, hq, Int.toNat_natCast, List.getD_eq_getElem?_getD]
          exact (ho.setAt m _).keep ((Keep.refl _).drew)
        · exact (hK.grown (grown_set wr w.heap.size m _) (by simp)).drew
    · obtain rfl : k = c.length := by omega
      rw [HA.out] at ho
      go_wp2
      go_ret
      exact ⟨_, rfl, ho, hK⟩
end Go.Proofs.YtkbkdlaknmgjpaaGreat
