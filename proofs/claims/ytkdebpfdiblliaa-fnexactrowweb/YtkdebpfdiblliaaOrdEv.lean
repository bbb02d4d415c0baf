/- Plain mathematics: in which order the events of one clerk stand. -/
import Derived.Test.YtkdebpfdiblliaaKeptPlain
namespace Go.Proofs.Ytkdebpfdiblliaa
open Go.RowKit

/-- Of two events of one clerk the later one is of a later deed, or both are of one swap. -/
def OrdE (dss : List (List Dd)) (a b : Ev) : Prop := a.1 = b.1 → 0 ≤ a.1 → a.2.1 < b.2.1 ∨ (a.2.1 = b.2.1 ∧ (dOf dss a).1 = 3)
theorem one_ord {dss : List (List Dd)} {i k : Nat} {c : Int} (d : Dd) (hd : d = (dss.getD i []).getD k zD) : (oneE i k d c).Pairwise (OrdE dss) ∧ ∀ e ∈ oneE i k d c, e.1 = (i : Int) ∧ e.2.1 = (k : Int) ∧ (dOf dss e).1 ≠ 4 := by
  have key : ∀ e : Ev, e.1 = (i : Int) → e.2.1 = (k : Int) → dOf dss e = d := fun e h1 h2 => by
    unfold dOf
    rw [h1, h2, Int.toNat_natCast, Int.toNat_natCast]
    exact hd.symm
  have h1 : ∀ e ∈ oneE i k d c, e.1 = (i : Int) ∧ e.2.1 = (k : Int) := by
    intro e he
    unfold oneE at he
    split at he
    · simp at he
    · split at he
      · simp only [List.mem_cons, List.not_mem_nil, or_false] at he
        rcases he with rfl | rfl <;> exact ⟨rfl, rfl⟩
      · split at he
        · simp only [List.mem_cons, List.not_mem_nil, or_false] at he
          subst he; exact ⟨rfl, rfl⟩
        · simp only [List.mem_cons, List.not_mem_nil, or_false] at he
          subst he; exact ⟨rfl, rfl⟩
  refine ⟨?_, fun e he => ⟨(h1 e he).1, (h1 e he).2, ?_⟩⟩
  · have h1' := h1
    unfold oneE at h1' ⊢
    split
    · exact List.Pairwise.nil
    · rename_i h4
      rw [if_neg h4] at h1'
      split
      · rename_i h3
        rw [if_pos h3] at h1'
        rw [List.pairwise_cons]
        refine ⟨fun b hb => ?_, by simp⟩
        simp only [List.mem_cons, List.not_mem_nil, or_false] at hb
        subst hb
        intro _ _
        refine .inr ⟨rfl, ?_⟩
        rw [key _ rfl rfl]
        exact h3
      · split <;> simp
  · rw [key e (h1 e he).1 (h1 e he).2]
    intro h4
    unfold oneE at he
    rw [if_pos h4] at he
    simp at he
theorem clk_ord {dss : List (List Dd)} {i : Nat} {out : List Ev} (ho : out.Pairwise (OrdE dss)) (hl : ∀ e ∈ out, e.1 < (i : Int)) (h4 : ∀ e ∈ out, 0 ≤ e.1 → (dOf dss e).1 ≠ 4) : ∀ k : Nat,
    (clkE i (dss.getD i []) out k).1.Pairwise (OrdE dss) ∧ (∀ e ∈ (clkE i (dss.getD i []) out k).1, e.1 < (i : Int) ∨ (e.1 = (i : Int) ∧ e.2.1 < (k : Int))) ∧ ∀ e ∈ (clkE i (dss.getD i []) out k).1, 0 ≤ e.1 → (dOf dss e).1 ≠ 4
  | 0 => ⟨ho, fun e he => .inl (hl e he), h4⟩
  | k + 1 => by
    obtain ⟨h1, h2, h3⟩ := clk_ord ho hl h4 k
    rw [clkE, stepE]
    split
    · refine ⟨h1, fun e he => ?_, h3⟩
      rcases h2 e he with h | ⟨h, h'⟩
      · exact .inl h
      · exact .inr ⟨h, by omega⟩
    · obtain ⟨g1, g2⟩ := one_ord (dss := dss) (i := i) (k := k) (c := clsE ((dss.getD i []).getD k zD).2.2.2 (clkE i (dss.getD i []) out k).1.length (clkE i (dss.getD i []) out k).2) _ rfl
      refine ⟨?_, fun e he => ?_, fun e he => ?_⟩
      · simp only
        rw [List.pairwise_append]
        refine ⟨h1, g1, fun a ha b hb => ?_⟩
        intro he _
        obtain ⟨b1, b2, _⟩ := g2 b hb
        rcases h2 a ha with h | ⟨h, h'⟩
        · omega
        · left; omega
      · rcases List.mem_append.1 he with he | he
        · rcases h2 e he with h | ⟨h, h'⟩
          · exact .inl h
          · exact .inr ⟨h, by omega⟩
        · obtain ⟨b1, b2, _⟩ := g2 e he
          exact .inr ⟨b1, by omega⟩
      · rcases List.mem_append.1 he with he | he
        · exact h3 e he
        · exact fun _ => (g2 e he).2.2
theorem evs_ord (dss : List (List Dd)) : ∀ n : Nat, (evsW dss n).Pairwise (OrdE dss) ∧ (∀ e ∈ evsW dss n, e.1 < (n : Int)) ∧ ∀ e ∈ evsW dss n, 0 ≤ e.1 → (dOf dss e).1 ≠ 4
  | 0 => by
    have neg : ∀ e ∈ evBeg, e.1 = -1 := by
      intro e he
      simp only [evBeg, List.mem_cons, List.not_mem_nil, or_false] at he
      rcases he with rfl | rfl | rfl <;> rfl
    refine ⟨?_, fun e he => by rw [neg e he]; omega, fun e he h0 => by rw [neg e he] at h0; omega⟩
    refine List.Pairwise.imp_of_mem (R := fun _ _ => True) ?_ (List.pairwise_of_forall (fun _ _ => trivial))
    intro a b ha _ _
    intro _ h0
    rw [neg a ha] at h0
    omega
  | n + 1 => by
    obtain ⟨h1, h2, h3⟩ := evs_ord dss n
    obtain ⟨g1, g2, g3⟩ := clk_ord (i := n) h1 h2 h3 (dss.getD n []).length
    rw [evsW]
    exact ⟨g1, fun e he => by rcases g2 e he with h | ⟨h, _⟩ <;> omega, g3⟩
end Go.Proofs.Ytkdebpfdiblliaa
