/- Contracts of the heap's Push and Pop, and which methods the library's heap comes to. -/
import Derived.Test.YtgclnfhkjnomaaaHeapM
import Derived.Deep.RegionLaw
namespace Go.Proofs.Ytgclnfhkjnomaaa
open Go.ChangeShapes Go.WideShapes Go.ChangeAt Go.RowKit

theorem Turn.of_keep {w w' : World} {a : Nat} {b : Option Nat} (h : Keep w w') : Turn w w' a b := ⟨h.grownBy.os, h.grownBy.tape, h.grownBy.output, h.size, fun k hk _ _ => Below.block h k hk⟩
theorem Hp.put {w : World} {hb : Nat} {v v' : Value} {q' : List Int} (h : w.heap[hb]? = some (.cells #[v] 70 (0, 0))) (o : Own w (hb + 1) v' q') : Hp (w.setCell ⟨hb, 0, none⟩ v') hb v' q' := by
  refine ⟨by rw [heap_setCell_same w hb 0 _ _ _ h]; rfl, o.kept (grown_set w hb 0 v') ?_⟩
  cases hv : v'.ownBlock with
  | none => exact .inl rfl
  | some k => exact .inr (fun e => by have := o.ge k hv; simp at e; omega)
theorem Hp.store {w : World} {hb : Nat} {v v' : Value} {q q' : List Int} (h : Hp w hb v q) (o : Own w (hb + 1) v' q') : Hp (w.setCell ⟨hb, 0, none⟩ v') hb v' q' := Hp.put h.cell o
theorem Hp.shape {w : World} {hb : Nat} {v : Value} {q : List Int} (h : Hp w hb v q) (hq : 0 < q.length) : ∃ g cap, v = .slice (some ⟨g, 0, none⟩) q.length cap ∧ hb < g := by
  rcases h.own.2 with ⟨_, h0⟩ | ⟨g, cap, cur, rfl, hg, _⟩
  · omega
  · exact ⟨g, cap, rfl, by omega⟩
set_option maxHeartbeats 2000000 in
theorem wPop_any (w : World) (hb : Nat) (v : Value) (q : List Int) (n : Nat) (h : Hp w hb v q) (hn : q.length = n + 1) (h12 : q.length ≤ 13) :
    Calls Try.prog 110 #[.pointer (some ⟨hb, 0, none⟩)] w fun e w' => e = .returned (.iface 2 (.int .i64 (q.getD n 0))) ∧ ∃ v', Hp w' hb v' (q.take n) ∧ v'.ownBlock = v.ownBlock ∧ Turn w w' hb v.ownBlock := by
  obtain ⟨g, cap, rfl, hg⟩ := h.shape (by omega)
  have hcap : n + 1 ≤ cap ∧ cap ≤ maxLen := by
    rcases h.own.2 with ⟨h, _⟩ | ⟨g', cap', cur, e, _, _, r1, r2, _⟩
    · cases h
    · cases e; exact ⟨by omega, r2⟩
  obtain ⟨hc1, hc2⟩ := hcap
  unfold maxLen at hc2
  have hr := h.own.rowAt
  have cn := hr.cell (j := n) (by omega)
  have ch := h.at
  have fh := h.free
  have hs := h.store (h.own.cut (m := n) (by omega))
  have G := grown_set w hb 0 (.slice (some ⟨g, 0, none⟩) n cap)
  generalize q.getD n 0 = x at *
  rw [hn] at ch
  have hT : Turn w (w.setCell ⟨hb, 0, none⟩ (.slice (some ⟨g, 0, none⟩) n cap)) hb (Value.slice (some ⟨g, 0, none⟩) q.length cap).ownBlock := Turn.of_a G
  clear hr h G
  have j1 : (n : Int) < (n : Int) + 1 := by omega
  have j2 : (0 : Int) ≤ (n : Int) := Int.natCast_nonneg _
  have j3 : (n : Int) ≤ (cap : Int) := by omega
  go_enter Try.func110, Try.ntmps110
  go_wp2
  go_ret
  exact ⟨rfl, _, hs, rfl, hT⟩
set_option maxHeartbeats 2000000 in
theorem wPush_any (w : World) (hb : Nat) (v : Value) (q : List Int) (x : Int) (h : Hp w hb v q) (h12 : q.length ≤ 12) :
    Calls Try.prog 111 #[.pointer (some ⟨hb, 0, none⟩), .iface 2 (.int .i64 x)] w fun e w' => e = .returned (.tuple #[]) ∧ ∃ v', Hp w' hb v' (q ++ [x]) ∧ (v'.ownBlock = v.ownBlock ∨ ∀ k, v'.ownBlock = some k → w.heap.size ≤ k) ∧ Turn w w' hb v.ownBlock := by
  obtain ⟨i0, hi, hz0, hz1, hz2⟩ := info_parts Try.infoI
  have ta : ∀ W : World, Sem.run Try.prog (Instr.typeAssert (.iface 2 (.int .i64 x)) 20 2 false) W = .ok (.int .i64 x) W := fun _ => by kernel_rfl
  have ch := h.at
  have fh := h.free
  have ho := h.own
  have hlt := h.lt
  have an : v.ownBlock ≠ some hb := fun e => by have := ho.ge hb e; omega
  have hp1 : Hp (w.alloc (.cells #[.int .i64 x] 2)).drew hb v q := h.keep (((Keep.refl w).alloc _).drew)
  have m1 : q.length + 1 ≤ maxLen := by unfold maxLen; omega
  have m2 : (q.length + 1) * 8 ≤ 140737488355328 := by omega
  go_enter Try.func111, Try.ntmps111
  go_wp2_with fail
  have ch1 := hp1.at
  have fh1 := hp1.free
  go_region_law
    ((refine step_append_lies _ (by rfl) _ _ _ (by rfl) (hb + 1) 2 i0 _ 1 8 Try.underlying70 hi hz0 hz1 hz2 rfl (by omega) v q.length (q.map (Value.int .i64)) (by rfl) ((World.ownsRow.alloc ho _).drew)
        ⟨w.heap.size, 0, none⟩ 1 1 [.int .i64 x] (by rfl) (by rfl) (World.news_of_block (cs := #[.int .i64 x]) (t := 2) (fr := (0, 0)) (heap_alloc_new w _)) (by simp [Value.oneCell'])
        (by omega) m1 m2 (by simp; omega) (w.heap.size + 1) (by simp) ?_; intro gg cap w1 hown1 hgrow hat hlt1; have cb2 := (hgrow.block hb hp1.lt (Ne.symm an)).trans hp1.cell; have fh2 := frozen_of_row w1 hb 0 _ _ cb2; have ch2 : w1.cell? ⟨hb, 0, none⟩ = some v := by (rw [cell_of_row w1 hb 0 _ _ _ cb2]; rfl)))
  all_goals
    have o1 := own_hit hown1
    have hp3 := Hp.put cb2 o1
    have hT : Turn w (w1.setCell ⟨hb, 0, none⟩ (.slice (some ⟨gg, 0, none⟩) (q.length + 1) cap)) hb v.ownBlock :=
      ((Turn.of_keep (((Keep.refl w).alloc (.cells #[.int .i64 x] 2)).drew)).trans (Turn.of_b hgrow) (.inl rfl)).trans (Turn.of_a (grown_set w1 hb 0 _)) (.inl rfl)
    have hB : (Value.slice (some ⟨gg, 0, none⟩) (q.length + 1) cap).ownBlock = v.ownBlock ∨ ∀ k, (Value.slice (some ⟨gg, 0, none⟩) (q.length + 1) cap).ownBlock = some k → w.heap.size ≤ k := by
      rcases hat with e | e
      · exact .inl (by rw [e]; rfl)
      · exact .inr (fun k hk => by simp [Value.ownBlock] at hk; omega)
    clear hgrow hown1 hat
    go_wp2
    go_end0
    exact ⟨rfl, _, hp3, hB, hT⟩
end Go.Proofs.Ytgclnfhkjnomaaa
