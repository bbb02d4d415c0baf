/- How long a work's events are; a list of events that others' turns leave. -/
import Derived.Test.YtdgalmimkhoanaaMA
import Derived.Test.YtdgalmimkhoanaaWorkOwn
namespace Go.Proofs.Ytdgalmimkhoanaa
open Go.ChangeShapes Go.WideShapes Go.ChangeAt Go.RowKit

theorem eventsB_len9 (dss : List (List Dd)) : (eventsB dss).length ≤ 9 := by
  unfold eventsB
  split
  · rename_i h
    simp only [workB, Bool.and_eq_true, decide_eq_true_eq] at h
    obtain ⟨⟨⟨⟨_, h2⟩, _⟩, h4⟩, _⟩ := h
    have := evsW_len (fun i hi => all_get [] h2 i hi) dss.length (Nat.le_refl _)
    omega
  · simp
theorem eventsB_len (dss : List (List Dd)) : (eventsB dss).length ≤ 1048576 := by
  have := eventsB_len9 dss
  omega
theorem appE_only {w w' : World} {base lo hi : Nat} {v : Value} {es : List Ev} (h : AppE w base v es) (k : Only lo hi w w') (hb : hi ≤ base) : AppE w' base v es := by
  have hlt := h.lt
  refine ⟨h.1, ?_⟩
  rcases h.2 with h | ⟨g, cap, cur, hv, hg, hh, rest⟩
  · exact .inl h
  · subst hv
    exact .inr ⟨g, cap, cur, rfl, hg, (k.block g (hlt g rfl).2 (.inr (Nat.le_trans hb hg))).trans hh, rest⟩
end Go.Proofs.Ytdgalmimkhoanaa
