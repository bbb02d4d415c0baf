/- Contract of the program's Sorted. -/
import Derived.Test.YtgclnfhkjnomaaaInOrderI
import Derived.Test.YtgclnfhkjnomaaaRoundI
import Derived.Test.YtgclnfhkjnomaaaSortPlain
namespace Go.Proofs.Ytgclnfhkjnomaaa
open Go.ChangeShapes Go.WideShapes Go.ChangeAt Go.RowKit

set_option maxHeartbeats 1000000 in
theorem implSorted_any (w : World) (v : Value) (zs : List Int) (h : Rd w v zs) (hn : zs.length ≤ 1048576) :
    Calls Try.prog 43 #[v] w fun e w' => ∃ v', e = .returned (.tuple #[v', .bool (sortedB zs)]) ∧ Row w' w.heap.size v' (sortedL zs) ∧ Keep w w' := by
  cases ht : webB zs
  · have HN : Hid (sortedO zs = none) := sorted_bad ht
    have HB : Hid (sortedB zs = false) := sortedB_none HN.out
    go_enter Try.func43, Try.ntmps43
    go_wp2_with fail
    refine (implWebOk_any _ _ _ h hn).mono ?_
    rintro e w' ⟨rfl, rfl⟩
    go_wp2
    go_ret2
    exact ⟨_, ret_two HB.out.symm, by rw [sortedL_none HN.out]; exact row_empty _ _, (Keep.refl _).alloc _⟩
  · cases hr : roundB zs
    · have HB : Hid (sortedB zs = true) := by show _ = _; rw [sorted_iff (web_iff.1 ht), hr]; rfl
      have HT : Hid (webB zs = true) := ht
      have HR : Hid (roundB zs = false) := hr
      go_enter Try.func43, Try.ntmps43
      go_wp2_with fail
      refine (implWebOk_any _ _ _ h hn).mono ?_
      rintro e w' ⟨rfl, rfl⟩
      go_wp2_with fail
      refine (implRound_any _ _ _ h hn).mono ?_
      rintro e w1 ⟨rfl, k1⟩
      have h1 := h.keep k1
      clear h
      go_wp2_with fail
      refine (inOrder_any _ _ _ h1 HT.out HR.out).mono ?_
      rintro e w2 ⟨v2, rfl, r2, k2⟩
      have hs := k1.size
      go_wp2
      go_ret2
      exact ⟨_, ret_two HB.out.symm, r2.base_le hs, k1.trans k2⟩
    · have HB : Hid (sortedB zs = false) := by show _ = _; rw [sorted_iff (web_iff.1 ht), hr]; rfl
      have HN : Hid (sortedO zs = none) := sorted_of_b HB.out
      go_enter Try.func43, Try.ntmps43
      go_wp2_with fail
      refine (implWebOk_any _ _ _ h hn).mono ?_
      rintro e w' ⟨rfl, rfl⟩
      go_wp2_with fail
      refine (implRound_any _ _ _ h hn).mono ?_
      rintro e w1 ⟨rfl, k1⟩
      have hs := k1.size
      go_wp2
      go_ret2
      exact ⟨_, ret_two HB.out.symm, by rw [sortedL_none HN.out]; exact (row_empty _ _).base_le hs, k1.alloc _⟩
end Go.Proofs.Ytgclnfhkjnomaaa
