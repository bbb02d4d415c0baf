/- Contracts of the program's Behind, AtOnePlace and Kept. -/
import Derived.Test.YtefdhogmjijkgaaLinesI
namespace Go.Proofs.Ytefdhogmjijkgaa
open Go.ChangeShapes Go.WideShapes Go.ChangeAt Go.RowKit

theorem col_beh (dss : List (List Dd)) : colAll (tQ (fun _ _ => true) (eventsB dss)) (eventsB dss).length (eventsB dss).length = behL (eventsB dss) := by
  cases hb : workB dss with
  | false => rw [eventsB, hb]; rfl
  | true =>
    rw [eventsB, if_pos hb, ← beh_same hb]
    congr 1
    funext i j
    exact Bool.and_true _
theorem col_plc (dss : List (List Dd)) : colAll (tQ onpE (eventsB dss)) (eventsB dss).length (eventsB dss).length = plcL (eventsB dss) := by
  cases hb : workB dss with
  | false => rw [eventsB, hb]; rfl
  | true => rw [eventsB, if_pos hb, ← plc_same hb]
theorem col_kep (dss : List (List Dd)) : colAll (tQ (keepE dss) (eventsB dss)) (eventsB dss).length (eventsB dss).length = kepL dss (eventsB dss) := by
  cases hb : workB dss with
  | false => rw [eventsB, hb]; rfl
  | true => rw [eventsB, if_pos hb, ← kep_same hb]
/-- What the program's test asks of two events of which one stands behind the other. -/
theorem kep_pair {dss : List (List Dd)} {i j : Nat} (hij : i < j) (hj : j < (eventsB dss).length) {x0 x1 : Int} {x2 : Bool} {x3 x4 x5 y0 y1 : Int} {y2 : Bool} {y3 y4 y5 : Int}
    (hx : (eventsB dss).getD i zE = (x0, x1, x2, x3, x4, x5)) (hy : (eventsB dss).getD j zE = (y0, y1, y2, y3, y4, y5)) (hi : isbE (x0, x1, x2, x3, x4, x5) (y0, y1, y2, y3, y4, y5) = true) :
    x0 = -1 ∨ ∃ c p q : Nat, x0 = (c : Int) ∧ x1 = (p : Int) ∧ y0 = (c : Int) ∧ y1 = (q : Int) ∧ c < dss.length ∧ (p < q ∨ (p = q ∧ ((dss.getD c []).getD p zD).1 = 3)) ∧ q < (dss.getD c []).length := by
  cases hb : workB dss with
  | false => rw [eventsB, hb] at hj; simp at hj
  | true =>
    rw [eventsB, if_pos hb] at hj hx hy
    by_cases i3 : i < 3
    · have := (evs_who hb (show i < _ by omega)).1 i3
      rw [hx] at this
      exact .inl this
    · have h0 := (evs_who hb (show i < _ by omega)).2 (by omega)
      rw [hx] at h0
      have hc : ((evsW dss dss.length).getD i zE).1 = ((evsW dss dss.length).getD j zE).1 := by
        rw [hx, hy]
        unfold isbE at hi
        simp only [Bool.and_eq_true, Bool.or_eq_true, beq_iff_eq] at hi h0
        rcases hi.2 with h | h
        · omega
        · exact h
      obtain ⟨c, p, q, h1, h2, h3, h4, h5, h6, _⟩ := evs_two hb (by omega) hij hj hc
      rw [hc, hy] at h1
      rw [hx] at h2
      rw [hx, hy] at hc
      rw [hy] at h3
      simp only at h1 h2 h3 hc
      exact .inr ⟨c, p, q, by omega, h2, h1, h3, h4, h5, h6⟩
set_option maxHeartbeats 1000000 in
theorem implBehind_any (w : World) (v : Value) (dss : List (List Dd)) (h : RdW w v dss) (hx : dss.length ≤ 1048576) (hm : ∀ i, i < dss.length → (dss.getD i []).length ≤ 1048576) :
    Calls Try.prog 10 #[v] w fun e w' => ∃ v', e = .returned v' ∧ Row w' w.heap.size v' (behL (eventsB dss)) ∧ Keep w w' := by
  have C := linesOf_any w v (.slice none 0 0) dss (fun _ _ => true) h hx hm (fun i j _ _ x0 x1 x2 x3 x4 x5 y0 y1 y2 y3 y4 y5 _ _ _ w1 _ => pass_none w1 x0 x1 x2 x3 x4 x5 y0 y1 y2 y3 y4 y5)
  rw [col_beh] at C
  go_enter Try.func10, Try.ntmps10
  go_wp2_with fail
  refine C.mono ?_
  rintro e w1 ⟨v1, rfl, r1, k1⟩
  go_wp2
  go_ret
  exact ⟨_, rfl, r1, k1⟩
set_option maxHeartbeats 1000000 in
theorem implAtOnePlace_any (w : World) (v : Value) (dss : List (List Dd)) (h : RdW w v dss) (hx : dss.length ≤ 1048576) (hm : ∀ i, i < dss.length → (dss.getD i []).length ≤ 1048576) :
    Calls Try.prog 11 #[v] w fun e w' => ∃ v', e = .returned v' ∧ Row w' w.heap.size v' (plcL (eventsB dss)) ∧ Keep w w' := by
  have C := fun (w0 : World) (k0 : Keep w w0) (g : Nat) (hg : w0.cell? ⟨g, 0, none⟩ = some (.func (Fn.func 33) #[] #[])) =>
    linesOf_any w0 v (.slice (some ⟨g, 0, none⟩) 1 1) dss onpE (h.keep k0) hx hm (fun i j _ _ x0 x1 x2 x3 x4 x5 y0 y1 y2 y3 y4 y5 _ _ _ w1 k1 => pass_at w1 g x0 x1 x2 x3 x4 x5 y0 y1 y2 y3 y4 y5 ((k1.cell (block_lt hg)).trans hg))
  rw [col_plc] at C
  go_enter Try.func11, Try.ntmps11
  go_wp2_with fail
  refine (C _ ((Keep.refl w).alloc _) _ ?_).mono ?_
  · simp
  rintro e w1 ⟨v1, rfl, r1, k1⟩
  go_wp2
  go_ret
  exact ⟨_, rfl, r1.base_le (by rw [heap_size]; omega), ((Keep.refl w).alloc _).trans k1⟩
set_option maxHeartbeats 1000000 in
theorem implKept_any (w : World) (v : Value) (dss : List (List Dd)) (h : RdW w v dss) (hx : dss.length ≤ 1048576) (hm : ∀ i, i < dss.length → (dss.getD i []).length ≤ 1048576) :
    Calls Try.prog 9 #[v] w fun e w' => ∃ v', e = .returned v' ∧ Row w' w.heap.size v' (kepL dss (eventsB dss)) ∧ Keep w w' := by
  have C := fun (w0 : World) (k0 : Keep w w0) (g : Nat) (hg : w0.cell? ⟨g, 0, none⟩ = some (.func (Fn.func 32) #[v] #[])) =>
    linesOf_any w0 v (.slice (some ⟨g, 0, none⟩) 1 1) dss (keepE dss) (h.keep k0) hx hm (fun i j hij hj x0 x1 x2 x3 x4 x5 y0 y1 y2 y3 y4 y5 ex ey hi w1 k1 => pass_keep w1 g v dss (h.keep (k0.trans k1)) hm x0 x1 x2 x3 x4 x5 y0 y1 y2 y3 y4 y5 (kep_pair hij hj ex ey hi) ((k1.cell (block_lt hg)).trans hg))
  rw [col_kep] at C
  go_enter Try.func9, Try.ntmps9
  go_wp2_with fail
  refine (C _ ((Keep.refl w).alloc _) _ ?_).mono ?_
  · simp
  rintro e w1 ⟨v1, rfl, r1, k1⟩
  go_wp2
  go_ret
  exact ⟨_, rfl, r1.base_le (by rw [heap_size]; omega), ((Keep.refl w).alloc _).trans k1⟩
end Go.Proofs.Ytefdhogmjijkgaa
