/- What the law on sources asks of the lists. -/
import Derived.Test.YtdgalmimkhoanaaMB
namespace Go.Proofs.Ytdgalmimkhoanaa
open Go.RowKit

theorem idxB_range {f : Ev → Bool} {es : List Ev} (hx : es.length ≤ 12) {i : Nat} (hi : i < (idxB f es).length) : 0 ≤ (idxB f es).getD i 0 ∧ (idxB f es).getD i 0 < (es.length : Int) := by
  have hm : (idxB f es).getD i 0 ∈ idxB f es := by
    rw [List.getD_eq_getElem?_getD, List.getElem?_eq_getElem hi]
    exact List.getElem_mem hi
  unfold idxB at hm ⊢
  rw [if_pos hx] at hm ⊢
  exact idxK_lt f es _ _ hm
theorem rises_nodup : ∀ l : List Int, l.Pairwise (· < ·) → l.Nodup := fun l h => h.imp (fun h e => by omega)
theorem src_all {dss : List (List Dd)} {n : Int} (h0 : 0 ≤ n) (h1 : n < cntB dss) :
    workB dss = true ∧ sourceB dss (atB dss n) = true ∧ (fwB dss (atB dss n)).length = (eventsB dss).length ∧ (idxB rdE (eventsB dss)).length ≤ 12 ∧ (atB dss n).length = (idxB rdE (eventsB dss)).length ∧
    memN (fwB dss (atB dss n)) (eventsB dss).length = (idxB rdE (eventsB dss)).length ∧
    (∀ i, i < (idxB rdE (eventsB dss)).length → ∃ a j : Nat, (atB dss n).getD i 0 = (a : Int) ∧ (idxB rdE (eventsB dss)).getD i 0 = (j : Int) ∧ a < (eventsB dss).length ∧ j < (eventsB dss).length ∧ inSetB ((fwB dss (atB dss n)).getD a 0) j = true ∧ ((eventsB dss).getD a zE).2.2.2.1 = ((eventsB dss).getD j zE).2.2.2.1) ∧
    ∀ m, 0 ≤ m → m < cntB dss → decide (atB dss m = atB dss n) = decide (m = n) := by
  have hb : workB dss = true := by
    cases hb : workB dss with
    | true => rfl
    | false => rw [cntB, hb] at h1; simp at h1; omega
  have hx := eventsB_le dss
  obtain ⟨hf, hn⟩ := chc_full hb
  have hc : cntB dss = cntK (chcL (eventsB dss)) (chcL (eventsB dss)).length := by rw [cntB, if_pos hb]
  have ha : ∀ m, 0 ≤ m → m < cntB dss → atB dss m = atL (chcL (eventsB dss)) m := fun m g0 g1 => by unfold atB; rw [if_pos ⟨g0, g1⟩]
  have hs : srcB (chcL (eventsB dss)) (atB dss n) = true := by rw [ha n h0 h1]; exact at_src hf n
  have hso : sourceB dss (atB dss n) = true := by rw [sourceB, hb, hs]; rfl
  obtain ⟨sl, su⟩ := src_use hx hs
  have hw : fwB dss (atB dss n) = fwK (eventsB dss).length (idxB rdE (eventsB dss)) (atB dss n) (idxB rdE (eventsB dss)).length := by rw [fwB, if_pos hso]; rfl
  have rr : ∀ i, i < (idxB rdE (eventsB dss)).length → 0 ≤ (idxB rdE (eventsB dss)).getD i 0 ∧ (idxB rdE (eventsB dss)).getD i 0 < ((eventsB dss).length : Int) := fun i hi => idxB_range hx hi
  have hnd : (idxB rdE (eventsB dss)).Nodup := by
    unfold idxB
    rw [if_pos hx]
    exact rises_nodup _ (idxK_rises rdE _ _)
  have l12 : (idxB rdE (eventsB dss)).length ≤ 12 := by
    unfold idxB
    rw [if_pos hx]
    have := idxK_len rdE (eventsB dss) (eventsB dss).length
    omega
  have fl := fw_line hx (idxB rdE (eventsB dss)).length rr (fun i hi => (su i hi).1)
  refine ⟨hb, hso, by rw [hw, fwK_len], l12, sl.symm, ?_, fun i hi => ?_, fun m g0 g1 => ?_⟩
  · rw [hw]
    exact fw_count hx hnd _ (Nat.le_refl _) rr (fun i hi => (su i hi).1)
  · obtain ⟨⟨f0, f1⟩, pl⟩ := su i hi
    obtain ⟨r0, r1⟩ := rr i hi
    obtain ⟨a, ea⟩ := Int.eq_ofNat_of_zero_le f0
    obtain ⟨j, ej⟩ := Int.eq_ofNat_of_zero_le r0
    refine ⟨a, j, ea, ej, by omega, by omega, ?_, ?_⟩
    · rw [hw]
      exact (fl.2 a j (by omega)).2 ⟨i, hi, ea, ej⟩
    · unfold plE at pl
      rw [ea, ej, Int.toNat_natCast, Int.toNat_natCast] at pl
      exact pl
  · rw [ha m g0 g1, ha n h0 h1]
    rw [hc] at h1 g1
    exact decide_eq_decide.2 (at_one' hf hn g0 g1 h0 h1)
theorem mem_le (s : Int) : (mem s 12).length ≤ 12 := by
  rw [mem_cnt]
  have := List.countP_le_length (p := fun j : Nat => inSetB s (j : Int)) (l := List.range 12)
  rw [List.length_range] at this
  exact this
theorem memN_le (l : List Int) : ∀ m : Nat, memN l m ≤ 12 * m
  | 0 => by simp [memN]
  | m + 1 => by
    have h1 := memN_le l m
    have h2 := mem_le (l.getD m 0)
    rw [memN]
    omega
end Go.Proofs.Ytdgalmimkhoanaa
