/- Contracts of what the law FnWorks draws: some work, some text. -/
import Derived.Test.YtljamlgnobpjeaaGreatDoorWorkDrawE
import Derived.Test.YtljamlgnobpjeaaGreatDoorBendS
import Derived.Test.YtljamlgnobpjeaaGreatDoorShowWS
namespace Go.Proofs.YtljamlgnobpjeaaGreatDoor
open Go.ChangeShapes Go.WideShapes Go.ChangeAt Go.RowKit

theorem drawShowWork_any (w : World) (a : Option Addr) (cap : Nat) (zs : List Int) (hb : RdB w w.heap.size a zs) :
    Calls Tryz.prog 5 #[.slice a zs.length cap] w fun e w' => ∃ v dss, e = .returned v ∧ RdW w' v dss ∧ (dss.length ≤ 6 ∧ ∀ i, i < dss.length → (dss.getD i []).length ≤ 7) ∧ Keep w w' := by
  go_enter Tryz.func5, Tryz.ntmps5
  go_wp2_with fail
  refine (drawWork_any _ a cap zs hb).mono ?_
  rintro e w2 ⟨v, dss, rfl, hR, hs, K2⟩
  have HR := Lib.hid hR
  have HS := Lib.hid hs
  clear hR hs
  go_wp2
  go_ret
  exact ⟨_, _, rfl, HR.out, HS.out, K2⟩
theorem showB_len (dss : List (List Dd)) : (showB dss).length ≤ 300 := by
  unfold showB
  split
  · rename_i h
    simp only [workB, Bool.and_eq_true, decide_eq_true_eq] at h
    obtain ⟨⟨⟨⟨h1, h2⟩, _⟩, _⟩, _⟩ := h
    have := joinL_len [32, 124, 32] 80 (dss.map showC) (by
      intro t ht
      obtain ⟨ds, hd, rfl⟩ := List.mem_map.1 ht
      have h3 := List.all_eq_true.1 h2 ds hd
      simp only [okL, Bool.and_eq_true, decide_eq_true_eq] at h3
      exact showC_len ds h3.2)
    unfold showW
    simp at this
    omega
  · simp
theorem drawReadWork_any (w : World) (a : Option Addr) (cap : Nat) (zs : List Int) (hb : RdB w w.heap.size a zs) :
    Calls Tryz.prog 8 #[.slice a zs.length cap] w fun e w' => ∃ l, e = .returned (strV l) ∧ l.length ≤ 302 ∧ Keep w w' := by
  go_enter Tryz.func8, Tryz.ntmps8
  go_wp2_with fail
  refine (new_any _ a cap zs hb).mono ?_
  rintro e w1 ⟨rfl, c1, k1⟩
  go_wp2_with fail
  refine (l5DrawAny_any _ _ _ c1).mono ?_
  rintro e w2 ⟨v, dss, rfl, hR, hs, D2⟩
  have l1 : dss.length ≤ 1048576 := by have := hs.1; omega
  have l2 : ∀ i, i < dss.length → (dss.getD i []).length ≤ 1048576 := fun i hi => by have := hs.2 i hi; omega
  clear hs
  go_wp2_with fail
  refine (specShowWork_any _ _ _ hR l1 l2).mono ?_
  rintro e w3 ⟨rfl, k3⟩
  have D3 : Dr w1 w3 w.heap.size w.heap.size := D2.keep k3
  have hl := showB_len dss
  clear hR l1 l2 D2
  generalize showB dss = l at *
  go_wp2_with fail
  refine (once_any _ _ _ _ D3.1 (by omega)).mono ?_
  rintro e w4 ⟨b, rfl, c4, g4⟩
  have D4 := D3.step c4 g4
  cases b
  · go_wp2
    go_ret
    exact ⟨l, rfl, by omega, D4.newE k1 (Nat.le_refl _)⟩
  · go_wp2_with fail
    refine (l1Bend_any _ _ _ l [120, 121, 122, 32, 48, 49, 59, 124, 45] D4.1 (by omega) (by decide) (by decide)).mono ?_
    rintro e w5 ⟨l', rfl, hl', D5⟩
    go_wp2
    go_ret
    exact ⟨l', rfl, by omega, (Dr.step D4 D5.1 D5.2).newE k1 (Nat.le_refl _)⟩
end Go.Proofs.YtljamlgnobpjeaaGreatDoor
