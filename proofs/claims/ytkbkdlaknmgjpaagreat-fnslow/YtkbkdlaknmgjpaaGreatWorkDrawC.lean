/- Contracts of the other draws of works: the known ones, and all: some list of at most six lists of at most seven deeds. -/
import Derived.Test.YtkbkdlaknmgjpaaGreatMG
import Derived.Test.YtkbkdlaknmgjpaaGreatWorkDrawB
import Derived.Deep.RegionLaw
import Derived.RegionTactic
namespace Go.Proofs.YtkbkdlaknmgjpaaGreat
open Go.ChangeShapes Go.WideShapes Go.ChangeAt Go.RowKit

theorem some_ne {a : Option Nat} {k : Nat} (h : a ≠ some k) : a = none ∨ a ≠ some k := .inr h
/-- The first list of deeds has grown and is written back. -/
theorem AppX.first {w w2 : World} {base N g n cx : Nat} {V : Nat → Value} {dss : List (List Dd)} {v' : Value} {es : List Dd} (h : AppX w base N (.slice (some ⟨g, 0, none⟩) n cx) V dss) (h1 : 0 < dss.length) (hn : n = dss.length) (hA : AppD w2 base v' es)
    (hgrow : w.grownBy w2 (V 0).ownBlock) (hblk : v'.ownBlock = (V 0).ownBlock ∨ v'.ownBlock = some w.heap.size) :
    RdX (w2.setCell ⟨g, 0, none⟩ v') base (.slice (some ⟨g, 0, none⟩) n cx) (dss.set 0 es) := by
  subst hn
  have hgw := (h.cellAt h1).2
  have hgb : base ≤ g := (World.ownsRow.lt h.row g rfl).1
  have hgv : (V 0).ownBlock ≠ some g := fun e => h.out 0 h1 g e rfl
  have hv'g : v'.ownBlock ≠ some g := by
    rcases hblk with e | e
    · rw [e]; exact hgv
    · rw [e]; simp only [ne_eq, Option.some.injEq]; omega
  have hb : w2.heap[g]? = w.heap[g]? := hgrow.block g hgw (fun e => hgv e.symm)
  have hp := grown_put w2 g 0 v'
  refine ⟨_, cx, by rw [List.length_set], .inr ⟨g, 0, rfl, hgb, Nat.lt_of_lt_of_le (Nat.lt_of_lt_of_le hgw hgrow.size) hp.size, fun i hi => ?_⟩⟩
  rw [List.length_set] at hi
  rw [getD_setW dss 0 i es [] h1, Nat.zero_add]
  by_cases e : 0 = i
  · subst e
    rw [if_pos rfl]
    exact ⟨v', World.cell?_setCell_same _ _ _ ((cell_same hb 0).trans (h.cellAt h1).1), hA.kept hp (some_ne hv'g)⟩
  · rw [if_neg e]
    refine ⟨V i, ?_, ?_⟩
    · rw [World.cell?_setCell_other _ _ _ _ (by intro q; injection q with q1 q2; exact e q2)]
      exact (cell_same hb i).trans (h.cellAt hi).1
    · have k1 : AppD w2 base (V i) (dss.getD i []) := (h.each i hi).kept hgrow (by
        cases hv : (V i).ownBlock with
        | none => exact .inl rfl
        | some q => exact .inr (fun e2 => h.apart 0 i (by omega) hi q e2.symm hv))
      exact k1.kept hp (some_ne (fun e2 => h.out i hi g e2 rfl))
/-- The list, written behind itself. -/
theorem AppX.twice {w w2 : World} {base N : Nat} {v v' : Value} {V : Nat → Value} {dss : List (List Dd)} (h : AppX w base N v V dss) (h1 : 0 < dss.length)
    (hown : w2.ownsRow base 80 1 v' (dss.length + dss.length) ((List.range dss.length).map V ++ (List.range dss.length).map V)) (hgrow : w.grownBy w2 v.ownBlock) : RdX w2 base v' (dss ++ dss) := by
  have hd : ∀ i, i < dss.length → AppD w2 base (V i) (dss.getD i []) := fun i hi => (h.each i hi).kept hgrow (by
    cases hv : (V i).ownBlock with
    | none => exact .inl rfl
    | some q => exact .inr (fun e2 => h.out i hi q hv e2.symm))
  have hlt := World.ownsRow.lt hown
  have h2 := hown
  rcases hown.2 with ⟨_, hz⟩ | ⟨g, cap, cur, rfl, hb, hg, _⟩
  · omega
  · refine ⟨_, cap, by rw [List.length_append], .inr ⟨g, 0, rfl, hb, (hlt g rfl).2, fun i hi => ?_⟩⟩
    rw [List.length_append] at hi
    rw [Nat.zero_add]
    by_cases e : i < dss.length
    · refine ⟨V i, ?_, by rw [getD_left dss dss i [] e]; exact hd i e⟩
      rw [World.ownsRow.cellAt h2 i (by simp; omega), List.getElem?_append_left (by simpa using e), range_getV V _ i e]
    · have e2 : i - dss.length < dss.length := by omega
      refine ⟨V (i - dss.length), ?_, ?_⟩
      · rw [World.ownsRow.cellAt h2 i (by simp; omega), List.getElem?_append_right (by simp; omega), List.length_map, List.length_range, range_getV V _ _ e2]
      · have : (dss ++ dss).getD i [] = dss.getD (i - dss.length) [] := by
          rw [List.getD_eq_getElem?_getD, List.getElem?_append_right (by omega), List.getD_eq_getElem?_getD]
        rw [this]
        exact hd _ e2
theorem AppX.low {w : World} {base base' N : Nat} {v : Value} {V : Nat → Value} {dss : List (List Dd)} (h : AppX w base N v V dss) (hb : base' ≤ base) : AppX w base' N v V dss := by
  refine ⟨⟨h.row.1, ?_⟩, h.lt, fun i hi => (h.each i hi).base_le hb, h.lts, h.out, h.apart⟩
  rcases h.row.2 with q | ⟨g, cap, cur, e, hg, r⟩
  · exact .inl q
  · exact .inr ⟨g, cap, cur, e, Nat.le_trans hb hg, r⟩
theorem frozen_same {w w' : World} {b : Nat} (h : w'.heap[b]? = w.heap[b]?) (o : Nat) : w'.frozen? ⟨b, o, none⟩ = w.frozen? ⟨b, o, none⟩ := by
  simp only [World.frozen?, h]
theorem flat_size (xs : List Dd) : (xs.flatMap cD).toArray.size = xs.length * 4 := by
  induction xs with
  | nil => rfl
  | cons d r ih => simp [cD] at ih ⊢; omega
/-- Two lists of deeds, written out. -/
theorem appX_two (w : World) (base : Nat) (xs ys : List Dd) (hb : base ≤ w.heap.size) (hx : xs.length ≤ 9) (hy : ys.length ≤ 9) :
    AppX (((w.alloc (.cells (xs.flatMap cD).toArray 96)).alloc (.cells (ys.flatMap cD).toArray 96)).alloc (.cells #[.slice (some ⟨w.heap.size, 0, none⟩) xs.length xs.length, .slice (some ⟨w.heap.size + 1, 0, none⟩) ys.length ys.length] 80)) base (w.heap.size + 3)
      (.slice (some ⟨w.heap.size + 2, 0, none⟩) 2 2) (fun i => if i = 0 then .slice (some ⟨w.heap.size, 0, none⟩) xs.length xs.length else .slice (some ⟨w.heap.size + 1, 0, none⟩) ys.length ys.length) [xs, ys] := by
  have a1 : AppD (w.alloc (.cells (xs.flatMap cD).toArray 96)) base (.slice (some ⟨w.heap.size, 0, none⟩) xs.length xs.length) xs :=
    World.ownsRow_lit w (xs.flatMap cD).toArray xs.length hb (by unfold maxLen; omega) (flat_size xs)
  have a2 : AppD ((w.alloc (.cells (xs.flatMap cD).toArray 96)).alloc (.cells (ys.flatMap cD).toArray 96)) base (.slice (some ⟨w.heap.size + 1, 0, none⟩) ys.length ys.length) ys := by
    have := World.ownsRow_lit (base := base) (e := 96) (size := 4) (w.alloc (.cells (xs.flatMap cD).toArray 96)) (ys.flatMap cD).toArray ys.length (by rw [heap_size]; omega) (by unfold maxLen; omega) (flat_size ys)
    rw [heap_size] at this
    exact this
  have a3 : (((w.alloc (.cells (xs.flatMap cD).toArray 96)).alloc (.cells (ys.flatMap cD).toArray 96)).alloc (.cells #[.slice (some ⟨w.heap.size, 0, none⟩) xs.length xs.length, .slice (some ⟨w.heap.size + 1, 0, none⟩) ys.length ys.length] 80)).ownsRow base 80 1 (.slice (some ⟨w.heap.size + 2, 0, none⟩) 2 2) 2 [.slice (some ⟨w.heap.size, 0, none⟩) xs.length xs.length, .slice (some ⟨w.heap.size + 1, 0, none⟩) ys.length ys.length] := by
    have := World.ownsRow_lit (base := base) (e := 80) (size := 1) ((w.alloc (.cells (xs.flatMap cD).toArray 96)).alloc (.cells (ys.flatMap cD).toArray 96)) #[.slice (some ⟨w.heap.size, 0, none⟩) xs.length xs.length, .slice (some ⟨w.heap.size + 1, 0, none⟩) ys.length ys.length] 2 (by rw [heap_size, heap_size]; omega) (by unfold maxLen; omega) rfl
    rw [heap_size, heap_size] at this
    exact this
  have two : ∀ i, i < ([xs, ys] : List (List Dd)).length → i = 0 ∨ i = 1 := fun i hi => by simp at hi; omega
  refine ⟨a3, fun k hk => by simp [Value.ownBlock] at hk; omega, fun i hi => ?_, fun i hi k hk => ?_, fun i hi k hk => ?_, fun i j hij hj k hk => ?_⟩
  · rcases two i hi with rfl | rfl
    · exact (a1.keep ((Keep.refl _).alloc _)).keep ((Keep.refl _).alloc _)
    · exact a2.keep ((Keep.refl _).alloc _)
  · rcases two i hi with rfl | rfl
    · simp [Value.ownBlock] at hk; omega
    · simp [Value.ownBlock] at hk; omega
  · rcases two i hi with rfl | rfl
    · simp [Value.ownBlock] at hk ⊢; omega
    · simp [Value.ownBlock] at hk ⊢; omega
  · rcases two j hj with rfl | rfl
    · omega
    · obtain rfl : i = 0 := by omega
      simp [Value.ownBlock] at hk ⊢; omega
theorem box_five (w : World) (a0 a1 a2 a3 b0 b1 b2 b3 c0 c1 c2 c3 d0 d1 d2 d3 e0 e1 e2 e3 : Int) {W : World} (hW : W = ((((w.alloc (deedC a0 a1 a2 a3)).alloc (deedC b0 b1 b2 b3)).alloc (deedC c0 c1 c2 c3)).alloc (deedC d0 d1 d2 d3)).alloc (deedC e0 e1 e2 e3)) :
    Box W w.heap.size a0 a1 a2 a3 ∧ Box W (w.heap.size + 1) b0 b1 b2 b3 ∧ Box W (w.heap.size + 1 + 1) c0 c1 c2 c3 ∧ Box W (w.heap.size + 1 + 1 + 1) d0 d1 d2 d3 ∧ Box W (w.heap.size + 1 + 1 + 1 + 1) e0 e1 e2 e3 := by
  subst hW
  unfold Box
  refine ⟨?_, ?_, ?_, ?_, ?_⟩
  all_goals
    simp only [heap_at, heap_size]
    repeat (first | exact if_pos rfl | exact if_pos trivial | rw [if_neg (by omega)])
theorem two_le {xs ys : List Dd} (hx : xs.length ≤ 4) (hy : ys.length ≤ 4) : ∀ i, i < ([xs, ys] : List (List Dd)).length → (([xs, ys] : List (List Dd)).getD i []).length ≤ 4 := by
  intro i hi
  have : i = 0 ∨ i = 1 := by simp at hi; omega
  rcases this with rfl | rfl
  · exact hx
  · exact hy
set_option maxRecDepth 100000 in
set_option maxHeartbeats 4000000 in
theorem l5DrawKnown_any (w : World) (B c : Nat) (hc : Cur w B c) :
    Calls Tryz.prog 171 #[.pointer (some ⟨c, 0, none⟩)] w fun e w' => ∃ v V dss, e = .returned v ∧ AppX w' w.heap.size w'.heap.size v V dss ∧ 1 ≤ dss.length ∧ dss.length ≤ 3 ∧ (∀ i, i < dss.length → (dss.getD i []).length ≤ 4) ∧ Dr w w' B c := by
  have hcl := hc.lt
  have hB := hc.1
  obtain ⟨q0, q1, q2, q3, q4⟩ := box_five w 2 0 1 0 2 1 1 0 1 0 0 0 1 1 0 0 4 0 0 0 rfl
  have D0 := (((((Dr.refl hc).alloc (deedC 2 0 1 0)).alloc (deedC 2 1 1 0)).alloc (deedC 1 0 0 0)).alloc (deedC 1 1 0 0)).alloc (deedC 4 0 0 0)
  go_enter Tryz.func171, Tryz.ntmps171
  go_wp2_with fail
  refine (below_any _ B c _ D0.1 (by omega)).mono ?_
  rintro e w1 ⟨x, rfl, x0, x1, c1, g1⟩
  have D1 := D0.step c1 g1
  have hsz := D1.2.size
  have p0 := q0.kept g1 (by simp; omega)
  have p1 := q1.kept g1 (by simp; omega)
  have p2 := q2.kept g1 (by simp; omega)
  have p3 := q3.kept g1 (by simp; omega)
  have p4 := q4.kept g1 (by simp; omega)
  clear q0 q1 q2 q3 q4 D0 c1 g1
  obtain ⟨s00, s01, s02, s03⟩ := p0.cells
  obtain ⟨s10, s11, s12, s13⟩ := p1.cells
  obtain ⟨s20, s21, s22, s23⟩ := p2.cells
  obtain ⟨s30, s31, s32, s33⟩ := p3.cells
  obtain ⟨s40, s41, s42, s43⟩ := p4.cells
  have l0 := p0.lt
  have l1 := p1.lt
  have l2 := p2.lt
  have l3 := p3.lt
  have l4 := p4.lt
  clear p0 p1 p2 p3 p4
  have hx : x = 0 ∨ x = 1 ∨ x = 2 ∨ x = 3 ∨ x = 4 := by omega
  clear x0 x1
  rcases hx with rfl | rfl | rfl | rfl | rfl
  · go_wp2
    go_ret
    exact ⟨_, _, _, rfl, (appX_two w1 w.heap.size [(2, 0, 1, 0), (1, 1, 0, 0)] [(2, 1, 1, 0), (1, 0, 0, 0)] hsz (by simp) (by simp)).up (by rw [heap_size, heap_size, heap_size]; omega), by simp, by simp, two_le (by simp) (by simp), ((D1.alloc _).alloc _).alloc _⟩
  · go_wp2
    go_ret
    exact ⟨_, _, _, rfl, (appX_two w1 w.heap.size [(2, 0, 1, 0), (4, 0, 0, 0), (1, 1, 0, 0)] [(2, 1, 1, 0), (4, 0, 0, 0), (1, 0, 0, 0)] hsz (by simp) (by simp)).up (by rw [heap_size, heap_size, heap_size]; omega), by simp, by simp, two_le (by simp) (by simp), ((D1.alloc _).alloc _).alloc _⟩
  · go_wp2
    go_ret
    exact ⟨_, _, _, rfl, (appX_two w1 w.heap.size [(2, 0, 1, 0), (2, 1, 1, 0)] [(1, 1, 0, 0), (1, 0, 0, 0)] hsz (by simp) (by simp)).up (by rw [heap_size, heap_size, heap_size]; omega), by simp, by simp, two_le (by simp) (by simp), ((D1.alloc _).alloc _).alloc _⟩
  · go_wp2
    go_ret
    exact ⟨_, _, _, rfl, (appX_two w1 w.heap.size [(2, 0, 1, 0), (1, 0, 0, 0), (1, 1, 0, 0)] [(2, 1, 1, 0), (1, 1, 0, 0), (1, 0, 0, 0)] hsz (by simp) (by simp)).up (by rw [heap_size, heap_size, heap_size]; omega), by simp, by simp, two_le (by simp) (by simp), ((D1.alloc _).alloc _).alloc _⟩
  · go_wp2
    go_ret
    exact ⟨_, _, _, rfl, (appX_two w1 w.heap.size [(2, 0, 1, 0), (4, 0, 0, 0), (1, 1, 0, 0)] [(2, 1, 1, 0), (1, 0, 0, 0)] hsz (by simp) (by simp)).up (by rw [heap_size, heap_size, heap_size]; omega), by simp, by simp, two_le (by simp) (by simp), ((D1.alloc _).alloc _).alloc _⟩
end Go.Proofs.YtkbkdlaknmgjpaaGreat
