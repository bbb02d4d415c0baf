/- The program's iterator over the sources of no read: the empty one alone. -/
import Derived.Test.YtgolhjmbloiakaaMB
import Derived.Test.YtgolhjmbloiakaaSrcSeq
import Derived.Test.YtgolhjmbloiakaaCloneI
import Derived.RangeFuncBound
import Derived.RangeFuncLeaves
import Derived.Shelf.Abstract
import Derived.Shelf.RegionOpen
import Derived.WalkKit
import Derived.OwnWalkIn
import Derived.TacticsInMore
import Derived.LoopNIn
import Derived.LoopIn
import Derived.Lib.Hide
namespace Go.Proofs.Ytgolhjmbloiakaa
open Go.ChangeShapes Go.WideShapes Go.ChangeAt Go.RowKit Go.Shelf

/-- What the iterator reads. -/
abbrev PrS (s1 s2 Bc : Nat) (b : Nat) : Prop := (s1 ≤ b ∧ b < s2) ∨ b = Bc
/-- The k-th source of the first n reads lies in memory. -/
abbrev LieS (css : List (List Int)) (n : Nat) (s k : Nat) (v : Value) (W : World) : Prop := Own W s v (atP css n k)
theorem lieS_but (css : List (List Int)) (n : Nat) : ∀ s k v A B, LieS css n s k v A → But (fun b => b < s) A B → LieS css n s k v B :=
  fun _ _ _ _ _ h k => Own.but h k (fun b h1 _ => by omega)
theorem own_emptyI (w : World) : Own (w.alloc (.cells #[] 2)) w.heap.size (.slice (some ⟨w.heap.size, 0, none⟩) 0 0) [] := World.ownsRow_lit w #[] 0 (Nat.le_refl _) (by decide) rfl
set_option maxRecDepth 100000 in
set_option maxHeartbeats 2000000 in
theorem sources0_seq (css : List (List Int)) (s1 s2 : Nat) (w0 : World) (Bc : Nat) (v : Value) (hP : RdP s1 s2 w0 v 0 css) (hc : w0.cell? ⟨Bc, 0, none⟩ = some v) (hBl : Bc < w0.heap.size) :
    SeqM Try.prog 115 #[.pointer (some ⟨Bc, 0, none⟩)] (PrS s1 s2 Bc) (srcN css 0) (LieS css 0) w0 := by
  intro C l J Jx W hW hC hJ hJx hY h0
  have hWs := hW.size
  have hcW : W.cell? ⟨Bc, 0, none⟩ = some v := (hW.cell hBl (fun h => h (.inr rfl))).trans hc
  have hBW : Bc < W.heap.size := by omega
  obtain ⟨_, a, cap, rfl, -, -⟩ := hP
  have K1 : But (NC W.heap.size W) W ((W.alloc (.cells #[.func (.yield l) #[] #[]] 130)).alloc (.cells #[] 2)) := ((But.refl _ W).alloc _).alloc _
  have o1 : Own ((W.alloc (.cells #[.func (.yield l) #[] #[]] 130)).alloc (.cells #[] 2)) W.heap.size (.slice (some ⟨W.heap.size + 1, 0, none⟩) 0 0) (atP css 0 0) := by
    have := own_emptyI (W.alloc (.cells #[.func (.yield l) #[] #[]] 130))
    rw [World.size_alloc] at this
    rw [atP_zero]
    exact this.base_le (by omega)
  obtain ⟨fn, tmps, assign, body, hy, hR⟩ := hY 0 0 _ _ (by rw [srcN_zero]; omega) (hJ 0 _ _ h0 K1) o1
  clear o1
  refine (callsIn_wide (n := 0)).1 (callsIn_of_wp Try.func115 rfl trivial ?_ rfl)
  simp only [Try.ntmps115, List.size_toArray, List.length_cons, List.length_nil, Nat.reduceAdd, Nat.reduceSub, Array.replicate_succ, Array.replicate_zero, List.push_toArray, List.append_toArray, List.nil_append, List.cons_append]
  gi_wp2
  refine ⟨rfl, hR.mono ?_⟩
  rintro e W3 ⟨b, rfl, hB, h1, h2⟩
  gi_wp2
  refine bodyPost_ret (results_none rfl _ _ _) rfl ?_
  refine ⟨⟨_, rfl⟩, ?_⟩
  cases b
  · exact .inr ⟨0, by rw [srcN_zero]; omega, h2 rfl⟩
  · exact .inl (by rw [srcN_zero]; exact h1 rfl)
end Go.Proofs.Ytgolhjmbloiakaa
