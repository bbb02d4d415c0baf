/- A list of events that came in as an argument. -/
import Derived.Test.YtabafnfadophhaaEvRow
import Derived.Deep.Slices
import Derived.Lib.SmallJoins
namespace Go.Proofs.Ytabafnfadophhaa
open Go.ChangeShapes Go.WideShapes Go.ChangeAt Go.RowKit

theorem ev_add {b o i : Nat} : (⟨b, o, none⟩ : Addr).add i = ⟨b, o + i, none⟩ := by unfold Addr.add; split <;> simp_all
theorem ev_lt {w : World} {b o : Nat} {v : Value} (h : w.cell? ⟨b, o, none⟩ = some v) : b < w.heap.size := by
  apply Classical.byContradiction
  intro hn
  have h3 : w.heap[b]? = none := by simp; omega
  simp [World.cell?, h3] at h
section
variable {H : Type} {enc : TypeId × Value → H} {w : World} {base : Nat} {held : Bool}
set_option maxRecDepth 100000 in
set_option maxHeartbeats 1000000 in
theorem open_events {r : Reach} {b0 : Nat} {v : Value} {d : DataW H} {p : List MemPlace} (hv : Value.okWide Try.prog w r b0 51 v) (h : DataW.Trod enc Try.prog w base (fun _ => true) held 51 v d p) : ∃ es, RdE w v es ∧ es.length ≤ maxLen := by
  obtain ⟨a0, len0, cap0, rfl⟩ := okWide_slice Try.underlying51 hv
  obtain ⟨fuel, hf⟩ := h
  have c6 : Try.prog.cellsOf 87 = 6 := by kernel_rfl
  have c1 : Try.prog.cellsOf 2 = 1 := by kernel_rfl
  have cb : Try.prog.cellsOf 4 = 1 := by kernel_rfl
  rcases Deep.open_slice Try.underlying51 hf with ⟨hcs, _⟩ | ⟨a, len, cap, m, n, D, Pl, hcs, hb, hl, hm, hmm, _, hx⟩
  · simp [Value.cells] at hcs
    obtain ⟨rfl, rfl, rfl⟩ := hcs
    exact ⟨[], ⟨none, 0, rfl, .inl rfl⟩, by simp⟩
  · simp [Value.cells] at hcs
    obtain ⟨rfl, rfl, rfl⟩ := hcs
    have hlm : len0 ≤ m := by rw [hmm]; split <;> omega
    have each : ∀ i, i < len0 → ∃ e : Ev, ∀ q u, (cE e)[q]? = some u → w.cell? (a.add (i * 6 + q)) = some u := by
      intro i hi
      obtain ⟨cs', h1, h2⟩ := hx i (by omega)
      rw [c6] at h1
      obtain ⟨_, hlen, hcell⟩ := World.cells?_some h1
      obtain ⟨xs, k, hk, hxy, _, hxl, hf⟩ := DataW.trod_struct Try.underlying87 h2
      match xs, hxl, cs', hlen with
      | [y0, y1, y2, y3, y4, y5], _, [v0, v1, v2, v3, v4, v5], _ =>
        have g0 := hf 0 _ rfl
        have g1 := hf 1 _ rfl
        have g2 := hf 2 _ rfl
        have g3 := hf 3 _ rfl
        have g4 := hf 4 _ rfl
        have g5 := hf 5 _ rfl
        simp [c1, cb] at g0 g1 g2 g3 g4 g5
        obtain ⟨k0, e0, _, _⟩ := DataW.trod_int Try.underlying2 g0
        obtain ⟨k1, e1, _, _⟩ := DataW.trod_int Try.underlying2 g1
        obtain ⟨k2, e2, _⟩ := DataW.trod_bool Try.underlying4 g2
        obtain ⟨k3, e3, _, _⟩ := DataW.trod_int Try.underlying2 g3
        obtain ⟨k4, e4, _, _⟩ := DataW.trod_int Try.underlying2 g4
        obtain ⟨k5, e5, _, _⟩ := DataW.trod_int Try.underlying2 g5
        simp only [List.cons.injEq, and_true] at e0 e1 e2 e3 e4 e5
        subst e0 e1 e2 e3 e4 e5
        refine ⟨(k0, k1, k2, k3, k4, k5), fun q u hq => ?_⟩
        have hq6 : q < 6 := by
          have := (List.getElem?_eq_some_iff.1 hq).1
          simpa [cE] using this
        have f0 := hcell q (by omega)
        rw [Deep.add_add] at f0
        rw [f0]
        exact hq
    obtain ⟨f, hf⟩ := Deep.choose_lt each
    refine ⟨(List.range len0).map f, ⟨some a, cap0 - len0, by simp; omega, ?_⟩, by simp; omega⟩
    by_cases h0 : len0 = 0
    · left; subst h0; rfl
    · right
      obtain ⟨b, off, spot⟩ := a
      have hc0 := hf 0 (by omega) 0 _ rfl
      have hspot : spot = none := by simpa [Addr.add] using World.cell?_spot hc0
      subst hspot
      have hbl : b < w.heap.size := by
        rw [ev_add] at hc0
        exact ev_lt hc0
      refine ⟨b, off, rfl, hbl, fun i x hi q u hq => ?_⟩
      have hi' : i < len0 := by
        have := (List.getElem?_eq_some_iff.1 hi).1
        simpa using this
      rw [List.getElem?_map, List.getElem?_range hi'] at hi
      simp at hi
      subst hi
      have := hf i hi' q u hq
      rw [ev_add] at this
      rw [Nat.add_assoc]
      exact this
end
end Go.Proofs.Ytabafnfadophhaa
