/- Contracts of the library's heap on the program's list of those that wait. -/
import Derived.Test.YtgclnfhkjnomaaaHeapP
namespace Go.Proofs.Ytgclnfhkjnomaaa
open Go.ChangeShapes Go.WideShapes Go.ChangeAt Go.RowKit

theorem meth_len {w : World} {hb : Nat} {v : Value} (h : w.cell? ⟨hb, 0, none⟩ = some v) : Sem.run Try.prog (method 200 72 (.pointer (some ⟨hb, 0, none⟩)) "Len") w = .ok (107, v) w := by
  have e : Sem.run Try.prog (method 200 72 (.pointer (some ⟨hb, 0, none⟩)) "Len") w = Sem.run Try.prog (do let v ← loadVar 70 ⟨hb, 0, none⟩; pure (107, v)) w := by kernel_rfl
  rw [e]
  have ha : ∀ w : World, (isAgg 70).run Try.prog w = .ok false w := fun _ => by kernel_rfl
  simp [loadVar, ha, h, Result.andThen]
theorem meth_less {w : World} {hb : Nat} {v : Value} (h : w.cell? ⟨hb, 0, none⟩ = some v) : Sem.run Try.prog (method 200 72 (.pointer (some ⟨hb, 0, none⟩)) "Less") w = .ok (108, v) w := by
  have e : Sem.run Try.prog (method 200 72 (.pointer (some ⟨hb, 0, none⟩)) "Less") w = Sem.run Try.prog (do let v ← loadVar 70 ⟨hb, 0, none⟩; pure (108, v)) w := by kernel_rfl
  rw [e]
  have ha : ∀ w : World, (isAgg 70).run Try.prog w = .ok false w := fun _ => by kernel_rfl
  simp [loadVar, ha, h, Result.andThen]
theorem meth_swap {w : World} {hb : Nat} {v : Value} (h : w.cell? ⟨hb, 0, none⟩ = some v) : Sem.run Try.prog (method 200 72 (.pointer (some ⟨hb, 0, none⟩)) "Swap") w = .ok (109, v) w := by
  have e : Sem.run Try.prog (method 200 72 (.pointer (some ⟨hb, 0, none⟩)) "Swap") w = Sem.run Try.prog (do let v ← loadVar 70 ⟨hb, 0, none⟩; pure (109, v)) w := by kernel_rfl
  rw [e]
  have ha : ∀ w : World, (isAgg 70).run Try.prog w = .ok false w := fun _ => by kernel_rfl
  simp [loadVar, ha, h, Result.andThen]
theorem Turn.keeps {w w' w2 : World} {a : Nat} {b : Option Nat} (h : Turn w w' a b) (k : Keep w' w2) : Turn w w2 a b := h.trans (Turn.of_keep (b := b) k) (.inl rfl)
theorem Hp.swap {w w' : World} {hb g n cap : Nat} {q q' : List Int} (h : Hp w hb (.slice (some ⟨g, 0, none⟩) n cap) q) (hg : hb < g) (o : Own w' (hb + 1) (.slice (some ⟨g, 0, none⟩) n cap) q') (G : w.grownBy w' (some g)) : Hp w' hb (.slice (some ⟨g, 0, none⟩) n cap) q' :=
  ⟨by rw [G.block hb h.lt (by simp; omega)]; exact h.cell, o⟩
set_option maxHeartbeats 4000000 in
theorem heapUp_any (w : World) (hb : Nat) (v : Value) (q : List Int) (j : Nat) (h : Hp w hb v q) (hj : j < q.length) (hu : UpAt q q.length j) (h12 : q.length ≤ 13) :
    Calls Try.prog 89 #[.iface 72 (.pointer (some ⟨hb, 0, none⟩)), .int .i64 j] w fun e w' => e = .returned (.tuple #[]) ∧ ∃ q', q'.Perm q ∧ HeapN q' q'.length ∧ Hp w' hb v q' ∧ Turn w w' hb v.ownBlock := by
  obtain ⟨g, cap, rfl, hg⟩ := h.shape (by omega)
  generalize hN : q.length = N at *
  have HN : Hid (q.length = N) := hN
  clear hN
  go_enter Try.func89, Try.ntmps89
  go_wp2_with fail
  go_loopw [1] (fun i wr => ∃ (k : Nat) (q' : List Int), i = .int .i64 k ∧ k < N ∧ q'.length = N ∧ q'.Perm q ∧ UpAt q' N k ∧ Hp wr hb (.slice (some ⟨g, 0, none⟩) N cap) q' ∧ Turn w wr hb (some g)) (fun i _ => (intOf i).toNat)
  case atStart => exact ⟨j, q, rfl, hj, HN.out, List.Perm.refl _, hu, h, Turn.refl _ _ _⟩
  case round =>
    clear h hu hj
    obtain ⟨k, q', rfl, hk, hl, hp, hu, h, hT⟩ := hrel
    have HL : Hid (q'.length = N) := hl
    have HP : Hid (q'.Perm q) := hp
    have HU : Hid (UpAt q' N k) := hu
    clear hl hp hu
    by_cases hk0 : k = 0
    · subst hk0
      have HH : Hid (HeapN q' q'.length) := by show HeapN _ _; rw [HL.out]; exact up_stop HU.out (by omega)
      go_wp2
      go_end0
      exact ⟨rfl, q', HP.out, HH.out, h, hT⟩
    · obtain ⟨p, hp1, hp2⟩ : ∃ p : Nat, Int.tdiv ((k : Int) - 1) 2 = (p : Int) ∧ p = (k - 1) / 2 := ⟨(k - 1) / 2, by rw [Int.tdiv_eq_ediv_of_nonneg (by omega)]; omega, rfl⟩
      have HQ : Hid (p = (k - 1) / 2) := hp2
      have hpk : p < k := by omega
      have hpb : ((p : Int) == (k : Int)) = false := by simp; omega
      clear hp2
      have h0 := h.at
      have m0 := meth_less h0
      have hrow := h.own.rowAt
      have hk1 : (0 : Int) ≤ (k : Int) - 1 := by omega
      cases hless : ltB q' k p
      · have HH : Hid (HeapN q' q'.length) := by
          show HeapN _ _
          rw [HL.out]
          refine up_stop HU.out fun _ => ?_
          rw [← HQ.out]
          exact ltB_no hless
        go_wp2_with fail
        refine (wLess_any _ g N cap q' hrow HL.out.symm k p hk (by omega) h12).mono ?_
        rintro e w2 ⟨rfl, m⟩
        go_wp2
        go_end0
        exact ⟨rfl, q', HP.out, HH.out, h.keep m, hT.keeps m⟩
      · have HV : Hid (UpAt (swapL q' p k) N p) := by
          show UpAt _ _ _
          have h1 : UpAt q' q'.length k := by rw [HL.out]; exact HU.out
          have := up_step h1 (by omega) (by have := HL.out; omega) (by rw [← HQ.out]; exact ltB_yes hless)
          rw [← HQ.out, HL.out] at this
          exact this
        have HW : Hid ((swapL q' p k).Perm q) := (swap_perm (by have := HL.out; omega) (by have := HL.out; omega)).trans HP.out
        go_wp2_with fail
        refine (wLess_any _ g N cap q' hrow HL.out.symm k p hk (by omega) h12).mono ?_
        rintro e w2 ⟨rfl, m⟩
        have h2 := h.keep m
        have T2 := hT.keeps m
        have h02 := h2.at
        have m1 := meth_swap h02
        clear h0 m0 h hT hrow
        go_wp2_with fail
        refine (wSwap_any _ (hb + 1) g N cap q' h2.own p k (by omega) hk h12).mono ?_
        rintro e w3 ⟨rfl, o3, g3⟩
        have h3 := h2.swap hg o3 g3
        have T3 := T2.trans (Turn.of_b (a := hb) g3) (.inl rfl)
        clear h2 T2 h02 m1 o3 g3
        go_wp2
        go_roundw
        case rel => exact ⟨p, swapL q' p k, by first | rfl | go_num, by omega, by rw [swap_len]; exact HL.out, HW.out, HV.out, h3, T3⟩
        case measure => simp [intOf]; omega
end Go.Proofs.Ytgclnfhkjnomaaa
