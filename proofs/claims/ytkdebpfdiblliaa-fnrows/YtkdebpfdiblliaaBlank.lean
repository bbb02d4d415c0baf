/- Contract of the program's copy of a web. -/
import Derived.Test.YtkdebpfdiblliaaMC
import Derived.Outline
import Derived.Laws.CopyOwn
namespace Go.Proofs.Ytkdebpfdiblliaa
open Go.ChangeShapes Go.WideShapes Go.ChangeAt Go.RowKit

set_option maxHeartbeats 400000 in
theorem owned_any (w : World) (v : Value) (zs : List Int) (h : Rd w v zs) (hn : zs.length ≤ 12) :
    Calls Try.prog 88 #[v] w fun e w' => e = .returned (.slice (some ⟨w.heap.size, 0, none⟩) zs.length zs.length) ∧ RowAt w' w.heap.size zs ∧ Keep w w' := by
  obtain ⟨a, c, rfl, h⟩ := h
  go_enter Try.func88, Try.ntmps88
  go_wp2_with fail
  refine (blank_any _ _ hn).mono ?_
  rintro e w1 ⟨rfl, ⟨cur, t, hh, ht⟩, k1⟩
  have hl : zs.length ≤ cur.size := by
    have := congrArg List.length ht
    simp at this
    omega
  have hsz : (Try.prog.info? 2).map (·.size) = some 1 := by
    have := Try.infoI
    cases hi : Try.prog.info? 2 with
    | none => rw [hi] at this; cases this
    | some i => rw [hi] at this; simp at this ⊢; exact this.2.1
  have hg0 : w1.heap[w.heap.size]? = some (.cells cur.toList.toArray t (0, 0)) := by simpa using hh
  have hn0 : (zs.map (Value.int .i64)).length = Nat.min zs.length zs.length := by simp
  have hp0 : 0 < (zs.map (Value.int .i64)).length → ∃ ad, a = some ad ∧ ∀ j v, (zs.map (Value.int .i64))[j]? = some v → w1.cell? (ad.add j) = some v := by
    intro hpos
    rcases h with h | ⟨b, o, rfl, hb, hc⟩
    · rw [h] at hpos; simp at hpos
    · refine ⟨_, rfl, fun j u hj => ?_⟩
      rw [List.getElem?_map] at hj
      have hjl : j < zs.length := by
        apply Classical.byContradiction
        intro hno
        rw [List.getElem?_eq_none (by omega)] at hj
        cases hj
      have e1 : (⟨b, o, none⟩ : Addr).add j = ⟨b, o + j, none⟩ := by unfold Addr.add; split <;> simp_all
      rw [e1, k1.cell hb, hc j hjl, List.getD_eq_getElem?_getD]
      rw [List.getElem?_eq_getElem hjl] at hj ⊢
      simpa using hj
  have hf0 : 0 + (zs.map (Value.int .i64)).length ≤ cur.toList.length := by simp; omega
  have h10 : ∀ v ∈ zs.map (Value.int .i64), v.oneCell' = true := by
    intro u hu
    obtain ⟨x, _, rfl⟩ := List.mem_map.1 hu
    rfl
  clear h hh ht hl
  go_wp2_with (refine wpList_copy_splice rfl _ _ _ _ rfl 2 Try.underlying63 hsz _ _ _ _ _ _ rfl rfl w.heap.size 0 cur.toList t hg0 (zs.map (Value.int .i64)) hn0 (fun hp => ⟨rfl, hp0 hp⟩) hf0 h10 w.heap.size w k1 (Nat.le_refl _) ?_)
  intro w2 hh2 k2
  have HH := hh2.out
  clear hh2
  go_wp2
  go_ret
  refine ⟨rfl, ⟨_, t, HH, ?_⟩, k2⟩
  simp [splice]
end Go.Proofs.Ytkdebpfdiblliaa
