/- Several texts in one. -/
import Derived.Test.YtefdhogmjijkgaaWorkDrawB
import Derived.Deep.RegionLaw
import Derived.RegionTactic
/- Contracts of the other draws of works: the known ones, and all: some list of at most six lists of at most seven deeds. -/
namespace Go.Proofs.Ytefdhogmjijkgaa
open Go.ChangeShapes Go.WideShapes Go.ChangeAt Go.RowKit

theorem step_append_at {P : Program} {w : World} {ops : Array Oper} {o : Oper} {a : Act} {K : Act → World → Prop} {Q : Exit → Act → World → Prop} {E : Prop} (hgd : o.guard = none) (s x : Operand) (t : TypeId)
    (ho : o.op = .call { callee := .builtin .append, args := #[s, x], argTypes := #[t, t] })
    (base : Nat) (e : TypeId) (i : TypeInfo) (z : Value) (size bytes : Nat) (ht : P.underlying t = some (.slice e)) (hi : P.info? e = some i) (hz : i.zero = some z)
    (hsize : i.size = size) (hby : i.bytes = bytes) (hzs : z.cells.size = size) (hsz : 0 < size)
    (v : Value) (n : Nat) (xs : List Value) (hs : a.eval s = v) (hown : w.ownsRow base e size v n xs)
    (ad : Addr) (m c : Nat) (news : List Value) (hx : a.eval x = .slice (some ad) m c) (hl : news.length = m * size) (hnews : ∀ j u, news[j]? = some u → w.cell? (ad.add j) = some u) (h1 : ∀ u ∈ news, u.oneCell' = true)
    (h63 : n + m ≤ maxLen) (hbytes : (n + m) * bytes ≤ 140737488355328) (hbase : base ≤ w.heap.size)
    (h : ∀ v' w', w'.ownsRow base e size v' (n + m) (xs ++ news) → w.grownBy w' v.ownBlock → (v'.ownBlock = v.ownBlock ∨ v'.ownBlock = some w.heap.size) → K (a.put o.dst v') w') :
    if Region.wanted o (yielded ops a.tmps) = true then Oper.wp P o a w K Q else E := by
  have hw : Region.wanted o (yielded ops a.tmps) = true := by simp [Region.wanted, hgd]
  rw [if_pos hw]
  obtain ⟨v', w', hr, h2, h3, h4, h5⟩ := run_append_own_at (P := P) w base t o.type e i z size bytes ht hi hz hsize hby hzs hsz v n xs hown ad m c news hl hnews h1 h63 hbytes hbase
  unfold Oper.wp execOp
  simp only [ho, resolve, invoke, builtin, Sem.run_bind, Sem.run_pure, Result.andThen_ok, List.map_toArray, List.map_cons, List.map_nil, hs, hx, hr]
  exact h v' w' h2 h3 h5
theorem some_ne {a : Option Nat} {k : Nat} (h : a ≠ some k) : a = none ∨ a ≠ some k := .inr h
/-- The first list of deeds has grown and is written back. -/
theorem AppX.first {w w2 : World} {base N g n cx : Nat} {V : Nat → Value} {dss : List (List Dd)} {v' : Value} {es : List Dd} (h : AppX w base N (.slice (some ⟨g, 0, none⟩) n cx) V dss) (h1 : 0 < dss.length) (hn : n = dss.length) (hA : AppD w2 base v' es)
    (hgrow : w.grownBy w2 (V 0).ownBlock) (hblk : v'.ownBlock = (V 0).ownBlock ∨ v'.ownBlock = some w.heap.size) :
    RdW (w2.setCell ⟨g, 0, none⟩ v') (.slice (some ⟨g, 0, none⟩) n cx) (dss.set 0 es) := by
  subst hn
  have hgw := (h.cellAt h1).2
  have hgv : (V 0).ownBlock ≠ some g := fun e => h.out 0 h1 g e rfl
  have hv'g : v'.ownBlock ≠ some g := by
    rcases hblk with e | e
    · rw [e]; exact hgv
    · rw [e]; simp only [ne_eq, Option.some.injEq]; omega
  have hb : w2.heap[g]? = w.heap[g]? := hgrow.block g hgw (fun e => hgv e.symm)
  have hp := grown_put w2 g 0 v'
  refine ⟨_, cx, by rw [List.length_set], .inr ⟨g, 0, rfl, Nat.lt_of_lt_of_le (Nat.lt_of_lt_of_le hgw hgrow.size) hp.size, fun i hi => ?_⟩⟩
  rw [List.length_set] at hi
  rw [getD_setW dss 0 i es [] h1, Nat.zero_add]
  by_cases e : 0 = i
  · subst e
    rw [if_pos rfl]
    exact ⟨v', World.cell?_setCell_same _ _ _ ((cell_same hb 0).trans (h.cellAt h1).1), (hA.kept hp (some_ne hv'g)).ownD.rd⟩
  · rw [if_neg e]
    refine ⟨V i, ?_, ?_⟩
    · rw [World.cell?_setCell_other _ _ _ _ (by intro q; injection q with q1 q2; exact e q2)]
      exact (cell_same hb i).trans (h.cellAt hi).1
    · have k1 : AppD w2 base (V i) (dss.getD i []) := (h.each i hi).kept hgrow (by
        cases hv : (V i).ownBlock with
        | none => exact .inl rfl
        | some q => exact .inr (fun e2 => h.apart 0 i (by omega) hi q e2.symm hv))
      exact (k1.kept hp (some_ne (fun e2 => h.out i hi g e2 rfl))).ownD.rd
/-- The list, written behind itself. -/
theorem AppX.twice {w w2 : World} {base N : Nat} {v v' : Value} {V : Nat → Value} {dss : List (List Dd)} (h : AppX w base N v V dss) (h1 : 0 < dss.length)
    (hown : w2.ownsRow base 51 1 v' (dss.length + dss.length) ((List.range dss.length).map V ++ (List.range dss.length).map V)) (hgrow : w.grownBy w2 v.ownBlock) : RdW w2 v' (dss ++ dss) := by
  have hd : ∀ i, i < dss.length → RdD w2 (V i) (dss.getD i []) := fun i hi => ((h.each i hi).kept hgrow (by
    cases hv : (V i).ownBlock with
    | none => exact .inl rfl
    | some q => exact .inr (fun e2 => h.out i hi q hv e2.symm))).ownD.rd
  have hlt := World.ownsRow.lt hown
  have h2 := hown
  rcases hown.2 with ⟨_, hz⟩ | ⟨g, cap, cur, rfl, hb, hg, _⟩
  · omega
  · refine ⟨_, cap, by rw [List.length_append], .inr ⟨g, 0, rfl, (hlt g rfl).2, fun i hi => ?_⟩⟩
    rw [List.length_append] at hi
    rw [Nat.zero_add]
    by_cases e : i < dss.length
    · refine ⟨V i, ?_, by rw [getD_left dss dss i [] e]; exact hd i e⟩
      rw [World.ownsRow.cellAt h2 i (by simp; omega), List.getElem?_append_left (by simpa using e), range_getV V _ i e]
    · have e2 : i - dss.length < dss.length := by omega
      refine ⟨V (i - dss.length), ?_, ?_⟩
      · rw [World.ownsRow.cellAt h2 i (by simp; omega), List.getElem?_append_right (by simp; omega), List.length_map, List.length_range, range_getV V _ _ e2]
      · have : (dss ++ dss).getD i [] = dss.getD (i - dss.length) [] := by
          rw [List.getD_eq_getElem?_getD, List.getElem?_append_right (by omega), List.getD_eq_getElem?_getD]
        rw [this]
        exact hd _ e2
theorem AppX.low {w : World} {base base' N : Nat} {v : Value} {V : Nat → Value} {dss : List (List Dd)} (h : AppX w base N v V dss) (hb : base' ≤ base) : AppX w base' N v V dss := by
  refine ⟨⟨h.row.1, ?_⟩, h.lt, fun i hi => (h.each i hi).base_le hb, h.lts, h.out, h.apart⟩
  rcases h.row.2 with q | ⟨g, cap, cur, e, hg, r⟩
  · exact .inl q
  · exact .inr ⟨g, cap, cur, e, Nat.le_trans hb hg, r⟩
theorem frozen_same {w w' : World} {b : Nat} (h : w'.heap[b]? = w.heap[b]?) (o : Nat) : w'.frozen? ⟨b, o, none⟩ = w.frozen? ⟨b, o, none⟩ := by
  simp only [World.frozen?, h]
theorem flat_size (xs : List Dd) : (xs.flatMap cD).toArray.size = xs.length * 4 := by
  induction xs with
  | nil => rfl
  | cons d r ih => simp [cD] at ih ⊢; omega
/-- Two lists of deeds, written out. -/
theorem appX_two (w : World) (base : Nat) (xs ys : List Dd) (hb : base ≤ w.heap.size) (hx : xs.length ≤ 9) (hy : ys.length ≤ 9) :
    AppX (((w.alloc (.cells (xs.flatMap cD).toArray 54)).alloc (.cells (ys.flatMap cD).toArray 54)).alloc (.cells #[.slice (some ⟨w.heap.size, 0, none⟩) xs.length xs.length, .slice (some ⟨w.heap.size + 1, 0, none⟩) ys.length ys.length] 51)) base (w.heap.size + 3)
      (.slice (some ⟨w.heap.size + 2, 0, none⟩) 2 2) (fun i => if i = 0 then .slice (some ⟨w.heap.size, 0, none⟩) xs.length xs.length else .slice (some ⟨w.heap.size + 1, 0, none⟩) ys.length ys.length) [xs, ys] := by
  have a1 : AppD (w.alloc (.cells (xs.flatMap cD).toArray 54)) base (.slice (some ⟨w.heap.size, 0, none⟩) xs.length xs.length) xs :=
    World.ownsRow_lit w (xs.flatMap cD).toArray xs.length hb (by unfold maxLen; omega) (flat_size xs)
  have a2 : AppD ((w.alloc (.cells (xs.flatMap cD).toArray 54)).alloc (.cells (ys.flatMap cD).toArray 54)) base (.slice (some ⟨w.heap.size + 1, 0, none⟩) ys.length ys.length) ys := by
    have := World.ownsRow_lit (base := base) (e := 54) (size := 4) (w.alloc (.cells (xs.flatMap cD).toArray 54)) (ys.flatMap cD).toArray ys.length (by rw [heap_size]; omega) (by unfold maxLen; omega) (flat_size ys)
    rw [heap_size] at this
    exact this
  have a3 : (((w.alloc (.cells (xs.flatMap cD).toArray 54)).alloc (.cells (ys.flatMap cD).toArray 54)).alloc (.cells #[.slice (some ⟨w.heap.size, 0, none⟩) xs.length xs.length, .slice (some ⟨w.heap.size + 1, 0, none⟩) ys.length ys.length] 51)).ownsRow base 51 1 (.slice (some ⟨w.heap.size + 2, 0, none⟩) 2 2) 2 [.slice (some ⟨w.heap.size, 0, none⟩) xs.length xs.length, .slice (some ⟨w.heap.size + 1, 0, none⟩) ys.length ys.length] := by
    have := World.ownsRow_lit (base := base) (e := 51) (size := 1) ((w.alloc (.cells (xs.flatMap cD).toArray 54)).alloc (.cells (ys.flatMap cD).toArray 54)) #[.slice (some ⟨w.heap.size, 0, none⟩) xs.length xs.length, .slice (some ⟨w.heap.size + 1, 0, none⟩) ys.length ys.length] 2 (by rw [heap_size, heap_size]; omega) (by unfold maxLen; omega) rfl
    rw [heap_size, heap_size] at this
    exact this
  have two : ∀ i, i < ([xs, ys] : List (List Dd)).length → i = 0 ∨ i = 1 := fun i hi => by simp at hi; omega
  refine ⟨a3, fun k hk => by simp [Value.ownBlock] at hk; omega, fun i hi => ?_, fun i hi k hk => ?_, fun i hi k hk => ?_, fun i j hij hj k hk => ?_⟩
  · rcases two i hi with rfl | rfl
    · exact (a1.keep ((Keep.refl _).alloc _)).keep ((Keep.refl _).alloc _)
    · exact a2.keep ((Keep.refl _).alloc _)
  · rcases two i hi with rfl | rfl
    · simp [Value.ownBlock] at hk; omega
    · simp [Value.ownBlock] at hk; omega
  · rcases two i hi with rfl | rfl
    · simp [Value.ownBlock] at hk ⊢; omega
    · simp [Value.ownBlock] at hk ⊢; omega
  · rcases two j hj with rfl | rfl
    · omega
    · obtain rfl : i = 0 := by omega
      simp [Value.ownBlock] at hk ⊢; omega
theorem box_five (w : World) (a0 a1 a2 a3 b0 b1 b2 b3 c0 c1 c2 c3 d0 d1 d2 d3 e0 e1 e2 e3 : Int) {W : World} (hW : W = ((((w.alloc (deedC a0 a1 a2 a3)).alloc (deedC b0 b1 b2 b3)).alloc (deedC c0 c1 c2 c3)).alloc (deedC d0 d1 d2 d3)).alloc (deedC e0 e1 e2 e3)) :
    Box W w.heap.size a0 a1 a2 a3 ∧ Box W (w.heap.size + 1) b0 b1 b2 b3 ∧ Box W (w.heap.size + 1 + 1) c0 c1 c2 c3 ∧ Box W (w.heap.size + 1 + 1 + 1) d0 d1 d2 d3 ∧ Box W (w.heap.size + 1 + 1 + 1 + 1) e0 e1 e2 e3 := by
  subst hW
  unfold Box
  refine ⟨?_, ?_, ?_, ?_, ?_⟩
  all_goals
    simp only [heap_at, heap_size]
    repeat (first | exact if_pos rfl | exact if_pos trivial | rw [if_neg (by omega)])
theorem two_le {xs ys : List Dd} (hx : xs.length ≤ 4) (hy : ys.length ≤ 4) : ∀ i, i < ([xs, ys] : List (List Dd)).length → (([xs, ys] : List (List Dd)).getD i []).length ≤ 4 := by
  intro i hi
  have : i = 0 ∨ i = 1 := by simp at hi; omega
  rcases this with rfl | rfl
  · exact hx
  · exact hy
set_option maxRecDepth 100000 in
set_option maxHeartbeats 4000000 in
theorem l5DrawKnown_any (w : World) (B c : Nat) (hc : Cur w B c) :
    Calls Try.prog 71 #[.pointer (some ⟨c, 0, none⟩)] w fun e w' => ∃ v V dss, e = .returned v ∧ AppX w' w.heap.size w'.heap.size v V dss ∧ 1 ≤ dss.length ∧ dss.length ≤ 3 ∧ (∀ i, i < dss.length → (dss.getD i []).length ≤ 4) ∧ Dr w w' B c := by
  have hcl := hc.lt
  have hB := hc.1
  obtain ⟨q0, q1, q2, q3, q4⟩ := box_five w 2 0 1 0 2 1 1 0 1 0 0 0 1 1 0 0 4 0 0 0 rfl
  have D0 := (((((Dr.refl hc).alloc (deedC 2 0 1 0)).alloc (deedC 2 1 1 0)).alloc (deedC 1 0 0 0)).alloc (deedC 1 1 0 0)).alloc (deedC 4 0 0 0)
  go_enter Try.func71, Try.ntmps71
  go_wp2_with fail
  refine (below_any _ B c _ D0.1 (by omega)).mono ?_
  rintro e w1 ⟨x, rfl, x0, x1, c1, g1⟩
  have D1 := D0.step c1 g1
  have hsz := D1.2.size
  have p0 := q0.kept g1 (by simp; omega)
  have p1 := q1.kept g1 (by simp; omega)
  have p2 := q2.kept g1 (by simp; omega)
  have p3 := q3.kept g1 (by simp; omega)
  have p4 := q4.kept g1 (by simp; omega)
  clear q0 q1 q2 q3 q4 D0 c1 g1
  obtain ⟨s00, s01, s02, s03⟩ := p0.cells
  obtain ⟨s10, s11, s12, s13⟩ := p1.cells
  obtain ⟨s20, s21, s22, s23⟩ := p2.cells
  obtain ⟨s30, s31, s32, s33⟩ := p3.cells
  obtain ⟨s40, s41, s42, s43⟩ := p4.cells
  have l0 := p0.lt
  have l1 := p1.lt
  have l2 := p2.lt
  have l3 := p3.lt
  have l4 := p4.lt
  clear p0 p1 p2 p3 p4
  have hx : x = 0 ∨ x = 1 ∨ x = 2 ∨ x = 3 ∨ x = 4 := by omega
  clear x0 x1
  rcases hx with rfl | rfl | rfl | rfl | rfl
  · go_wp2
    go_ret
    exact ⟨_, _, _, rfl, (appX_two w1 w.heap.size [(2, 0, 1, 0), (1, 1, 0, 0)] [(2, 1, 1, 0), (1, 0, 0, 0)] hsz (by simp) (by simp)).up (by rw [heap_size, heap_size, heap_size]; omega), by simp, by simp, two_le (by simp) (by simp), ((D1.alloc _).alloc _).alloc _⟩
  · go_wp2
    go_ret
    exact ⟨_, _, _, rfl, (appX_two w1 w.heap.size [(2, 0, 1, 0), (4, 0, 0, 0), (1, 1, 0, 0)] [(2, 1, 1, 0), (4, 0, 0, 0), (1, 0, 0, 0)] hsz (by simp) (by simp)).up (by rw [heap_size, heap_size, heap_size]; omega), by simp, by simp, two_le (by simp) (by simp), ((D1.alloc _).alloc _).alloc _⟩
  · go_wp2
    go_ret
    exact ⟨_, _, _, rfl, (appX_two w1 w.heap.size [(2, 0, 1, 0), (2, 1, 1, 0)] [(1, 1, 0, 0), (1, 0, 0, 0)] hsz (by simp) (by simp)).up (by rw [heap_size, heap_size, heap_size]; omega), by simp, by simp, two_le (by simp) (by simp), ((D1.alloc _).alloc _).alloc _⟩
  · go_wp2
    go_ret
    exact ⟨_, _, _, rfl, (appX_two w1 w.heap.size [(2, 0, 1, 0), (1, 0, 0, 0), (1, 1, 0, 0)] [(2, 1, 1, 0), (1, 1, 0, 0), (1, 0, 0, 0)] hsz (by simp) (by simp)).up (by rw [heap_size, heap_size, heap_size]; omega), by simp, by simp, two_le (by simp) (by simp), ((D1.alloc _).alloc _).alloc _⟩
  · go_wp2
    go_ret
    exact ⟨_, _, _, rfl, (appX_two w1 w.heap.size [(2, 0, 1, 0), (4, 0, 0, 0), (1, 1, 0, 0)] [(2, 1, 1, 0), (1, 0, 0, 0)] hsz (by simp) (by simp)).up (by rw [heap_size, heap_size, heap_size]; omega), by simp, by simp, two_le (by simp) (by simp), ((D1.alloc _).alloc _).alloc _⟩
end Go.Proofs.Ytefdhogmjijkgaa

/- Contract of the draw of any work: some list of at most six lists of at most seven deeds; nothing but the cursor's own block and new memory is written. -/
namespace Go.Proofs.Ytefdhogmjijkgaa
open Go.ChangeShapes Go.WideShapes Go.ChangeAt Go.RowKit

theorem flat_one (xs : List Dd) : ∀ u, u ∈ xs.flatMap cD → u.oneCell' = true := by
  intro u hu
  obtain ⟨d, _, hd⟩ := List.mem_flatMap.1 hu
  simp [cD] at hd
  rcases hd with rfl | rfl | rfl | rfl <;> rfl
theorem Dr.drew {w wr : World} {B c : Nat} (h : Dr w wr B c) : Dr w wr.drew B c :=
  ⟨h.1.keep (Keep.refl wr).drew, grown_trans h.2 ⟨rfl, rfl, rfl, Nat.le_refl _, fun _ _ _ => rfl⟩⟩
theorem new_cells (w : World) (d : Dd) : ∀ j u, (cD d)[j]? = some u → (w.alloc (.cells #[.int .i64 d.1, .int .i64 d.2.1, .int .i64 d.2.2.1, .int .i64 d.2.2.2] 54)).cell? ((⟨w.heap.size, 0, none⟩ : Addr).add j) = some u := by
  intro j u hj
  rw [plain_add, new_cell _ _ _ _ j rfl]
  rw [← List.getElem?_toArray] at hj
  exact hj
theorem set0_small {dss : List (List Dd)} {es : List Dd} (h1 : 0 < dss.length) (h3 : dss.length ≤ 3) (h4 : ∀ i, i < dss.length → (dss.getD i []).length ≤ 4) (he : es.length ≤ 7) : (dss.set 0 es).length ≤ 6 ∧ ∀ i, i < (dss.set 0 es).length → ((dss.set 0 es).getD i []).length ≤ 7 := by
  refine ⟨by rw [List.length_set]; omega, fun i hi => ?_⟩
  rw [List.length_set] at hi
  rw [getD_setW dss 0 i es [] h1]
  split
  · exact he
  · have := h4 i hi; omega
theorem twice_small {dss : List (List Dd)} (h3 : dss.length ≤ 3) (h4 : ∀ i, i < dss.length → (dss.getD i []).length ≤ 4) : (dss ++ dss).length ≤ 6 ∧ ∀ i, i < (dss ++ dss).length → ((dss ++ dss).getD i []).length ≤ 7 := by
  refine ⟨by rw [List.length_append]; omega, fun i hi => ?_⟩
  rw [List.length_append] at hi
  by_cases e : i < dss.length
  · rw [getD_left dss dss i [] e]; have := h4 i e; omega
  · have : (dss ++ dss).getD i [] = dss.getD (i - dss.length) [] := by
      rw [List.getD_eq_getElem?_getD, List.getElem?_append_right (by omega), List.getD_eq_getElem?_getD]
    rw [this]
    have := h4 (i - dss.length) (by omega)
    omega
set_option maxRecDepth 100000 in
set_option maxHeartbeats 8000000 in
theorem l5DrawAny_any (w : World) (B c : Nat) (hc : Cur w B c) :
    Calls Try.prog 51 #[.pointer (some ⟨c, 0, none⟩)] w fun e w' => ∃ v dss, e = .returned v ∧ RdW w' v dss ∧ (dss.length ≤ 6 ∧ ∀ i, i < dss.length → (dss.getD i []).length ≤ 7) ∧ Dr w w' B c := by
  have hcl := hc.lt
  have hB := hc.1
  obtain ⟨i0, hi, hz0, hz1, hz2⟩ := info_parts Try.infoD
  obtain ⟨j0, hj, hy0, hy1, hy2⟩ := info_parts Try.infoDS
  go_enter Try.func51, Try.ntmps51
  go_wp2_with fail
  refine (l5Draw_any _ B c hc).mono ?_
  rintro e w1 ⟨v1, V1, dss1, rfl, hX1, n1, n3, l4, D1⟩
  go_wp2_with fail
  refine (once_any _ B c _ D1.1 (by omega)).mono ?_
  rintro e w2 ⟨b, rfl, c2, g2⟩
  have hX2 := (hX1.kept g2 hcl).up g2.size
  have D2 := D1.step c2 g2
  clear hX1 D1 c2 g2
  go_upto_if 7 with fail
  go_cut [3] from 4 (fun s3 wx => ∃ V dss, AppX wx w.heap.size wx.heap.size s3 V dss ∧ 1 ≤ dss.length ∧ dss.length ≤ 3 ∧ Hid (∀ i, i < dss.length → (dss.getD i []).length ≤ 4) ∧ Dr w wx B c)
  case first =>
    cases b
    · go_wp2
      go_meet
      case rel => exact ⟨_, _, hX2, n1, n3, Lib.hid l4, D2⟩
    · go_wp2_with fail
      refine (l5DrawKnown_any _ B c D2.1).mono ?_
      rintro e w3 ⟨v3, V3, dss3, rfl, hX3, m1, m3, k4, D3⟩
      go_wp2
      go_meet
      case rel => exact ⟨_, _, hX3.low D2.2.size, m1, m3, Lib.hid k4, D2.trans D3⟩
  case rest =>
    clear hX2 D2 n1 n3 l4
    obtain ⟨V, dss, hX, n1, n3, l4, D2⟩ := hcut
    go_wp2_with fail
    refine (once_any _ B c _ D2.1 (by omega)).mono ?_
    rintro e w4 ⟨b2, rfl, c4, g4⟩
    have hX4 := (hX.kept g4 hcl).up g4.size
    have D4 := D2.step c4 g4
    clear hX D2 c4 g4
    have HN : Hid (dss.length ≤ 6 ∧ ∀ i, i < dss.length → (dss.getD i []).length ≤ 7) := Lib.hid ⟨by omega, fun i hi => by have := l4.out i hi; omega⟩
    cases b2
    · have HR := Lib.hid hX4.rdW
      go_wp2
      go_ret
      exact ⟨_, dss, rfl, HR.out, HN.out, D4⟩
    · go_wp2_with fail
      refine (below_any _ B c _ D4.1 (by omega)).mono ?_
      rintro e w5 ⟨x, rfl, x0, x1, c5, g5⟩
      have hX5 := (hX4.kept g5 hcl).up g5.size
      have D5 := D4.step c5 g5
      clear hX4 D4 c5 g5 HN
      have hx : x = 0 ∨ x = 1 ∨ x = 2 ∨ x = 3 := by omega
      clear x0 x1
      obtain ⟨g, cx, rfl, hgb, hgN, hgw, hcx, hcell, hfree⟩ := hX5.at (by omega)
      have d0 := hcell 0 (by omega)
      have f0 := hfree 0
      have hA0 := hX5.each 0 (by omega)
      have hl0 := l4.out 0 (by omega)
      have hout0 : ∀ k, (V 0).ownBlock = some k → w.heap.size ≤ k ∧ k < w5.heap.size := hA0.lt
      have i1 : (0 : Int) < (dss.length : Int) := by omega
      have h01 : 0 < dss.length := by omega
      rcases hx with rfl | rfl | rfl | rfl
      · obtain ⟨a5, c5, hV0⟩ := hA0.shape
        have HV := Lib.hid hV0
        rw [hV0] at d0 hA0 hout0
        clear hV0
        obtain ⟨L, hL⟩ : ∃ L, L = dss.getD 0 [] := ⟨_, rfl⟩
        rw [← hL] at d0 hA0 hl0 hout0 HV
        clear hL hcell hfree
        have hsz5 := D5.2.size
        have D5' := D5.drew
        have hX5' := hX5.keep (Keep.refl w5).drew
        have hA5' := hA0.keep (Keep.refl w5).drew
        have gne : (Value.slice a5 L.length c5).ownBlock ≠ some g := fun e => hX5.out 0 (by omega) g (by rw [HV.out]; exact e) rfl
        have cg : g ≠ c := by omega
        go_wp2
        go_region_law ((first
          | (refine step_append_at rfl (.tmp 19) (.tmp 22) 51 rfl w.heap.size 54 i0 (.agg #[.int .i64 0, .int .i64 0, .int .i64 0, .int .i64 0]) 4 32 Try.underlying51 hi hz0 hz1 hz2 rfl (by decide) (.slice a5 L.length c5) L.length (L.flatMap cD) (by simp [Act.eval]) (hA6.keep ((Keep.refl w6).alloc (.cells #[.int .i64 kq, .int .i64 pq, .int .i64 vq, .int .i64 gq] 54))) ⟨w6.heap.size, 0, none⟩ 1 1 (cD (kq, pq, vq, gq)) (by simp [Act.eval]) rfl (new_cells w6 (kq, pq, vq, gq)) (flat_one [(kq, pq, vq, gq)]) (by unfold maxLen; omega) (by omega) (by rw [heap_size]; omega) ?_
             intro v' w7 hown' hgrow hblk
             have hA7 : AppD w7 w.heap.size v' (L ++ [(kq, pq, vq, gq)]) := appD_hit hown'
             have hgV : (V 0).ownBlock = (Value.slice a5 L.length c5).ownBlock := by rw [HV.out]
             have HR := Lib.hid ((hX6.keep ((Keep.refl w6).alloc (.cells #[.int .i64 kq, .int .i64 pq, .int .i64 vq, .int .i64 gq] 54))).first (by omega) rfl hA7 (by rw [hgV]; exact hgrow) (by rw [hgV]; exact hblk))
             have HS := Lib.hid (set0_small (es := L ++ [(kq, pq, vq, gq)]) (by omega) n3 l4.out (by simp; omega))
             have D7 := ((D6.alloc (.cells #[.int .i64 kq, .int .i64 pq, .int .i64 vq, .int .i64 gq] 54)).grow hgrow (fun k hk => (hout0 k hk).1) hcl hB).set hgb hcl hB 0 v'
             have hb7 : w7.heap[g]? = w6.heap[g]? := (hgrow.block g (by rw [heap_size]; omega) (fun e => gne e.symm)).trans (by rw [heap_at, if_neg (by omega)])
             have d7 := (cell_same hb7 0).trans d6
             have f7 : w7.frozen? ⟨g, 0, none⟩ = false := by rw [frozen_same hb7 0]; exact f6
             have hg7 : g < w7.heap.size := Nat.lt_of_lt_of_le (by rw [heap_size]; omega) hgrow.size
             obtain ⟨a7, c7, hv7⟩ := hA7.shape
             generalize (L ++ [(kq, pq, vq, gq)]).length = n7 at hv7
             subst hv7
             clear hgrow hown' hblk hA7 hb7 d6 f6 hg6)
          | (go_simp
             refine (l4DrawAny_any _ B c D5'.1).mono ?_
             rintro e w6 ⟨kq, pq, vq, gq, rfl, D6'⟩
             have D6 := D5'.trans D6'
             have hX6 := hX5'.kept D6'.2 hcl
             have hA6 := hA5'.kept D6'.2 (ne_of_ge hA5'.ge hcl)
             have hb6 : w6.heap[g]? = w5.heap[g]? := D6'.2.block g hgw (by simp; omega)
             have d6 := (cell_same hb6 0).trans d0
             have f6 : w6.frozen? ⟨g, 0, none⟩ = false := by rw [frozen_same hb6 0]; exact f0
             have hg6 : g < w6.heap.size := Nat.lt_of_lt_of_le hgw D6'.2.size
             have hs6 := D6.2.size
             clear D6' hb6)))
        all_goals
          go_wp2
          go_ret
          exact ⟨_, _, rfl, HR.out, HS.out, D7⟩
      · have hN : Hid ((dss ++ dss).length ≤ 6 ∧ ∀ i, i < (dss ++ dss).length → ((dss ++ dss).getD i []).length ≤ 7) := Lib.hid (twice_small n3 l4.out)
        have hsz5 := D5.2.size
        go_wp2_with (at_builtin; refine wpList_append_own_at _ rfl _ _ 24 rfl w.heap.size 51 j0 (.slice none 0 0) 1 24 Try.underlying24 hj hy0 hy1 hy2 rfl (by decide) _ _ _ rfl hX5.row ⟨g, 0, none⟩ dss.length cx ((List.range dss.length).map V) rfl ?b1 ?b2 ?b3 ?b4 ?b5 ?b6 ?_)
        case b1 => simp
        case b2 =>
          intro j u hj
          have hj' : j < dss.length := by have := (List.getElem?_eq_some_iff.1 hj).1; simpa using this
          rw [range_getV V _ j hj'] at hj
          rw [plain_add, Nat.zero_add, hcell j hj']
          exact hj
        case b3 =>
          intro u hu
          obtain ⟨i, hi, rfl⟩ := List.mem_map.1 hu
          rw [List.mem_range] at hi
          obtain ⟨a, cc, e⟩ := (hX5.each i hi).shape
          rw [e]; rfl
        case b4 => unfold maxLen; omega
        case b5 => omega
        case b6 => exact hsz5
        intro v' w6 hown' hgrow _ _
        have HR := Lib.hid (hX5.twice (by omega) hown' hgrow)
        have D6 := D5.grow hgrow (fun k hk => (World.ownsRow.lt hX5.row k hk).1) hcl hB
        clear hgrow hown' hX5
        go_wp2
        go_ret
        exact ⟨_, _, rfl, HR.out, hN.out, D6⟩
      · go_wp2
        go_ret
        exact ⟨_, [], rfl, ⟨_, _, rfl, .inl rfl⟩, ⟨by simp, by simp⟩, D5.alloc _⟩
      · obtain ⟨a5, c5, hV0⟩ := hA0.shape
        have HV := Lib.hid hV0
        rw [hV0] at d0 hA0 hout0
        clear hV0
        obtain ⟨L, hL⟩ : ∃ L, L = dss.getD 0 [] := ⟨_, rfl⟩
        rw [← hL] at d0 hA0 hl0 hout0 HV
        clear hL hcell hfree
        have hsz5 := D5.2.size
        have hA1 := hA0.keep ((Keep.refl w5).alloc (.cells #[.int .i64 1, .int .i64 0, .int .i64 0, .int .i64 1, .int .i64 4, .int .i64 0, .int .i64 0, .int .i64 0, .int .i64 1, .int .i64 0, .int .i64 0, .int .i64 1] 54))
        have hX6 := hX5.keep ((Keep.refl w5).alloc (.cells #[.int .i64 1, .int .i64 0, .int .i64 0, .int .i64 1, .int .i64 4, .int .i64 0, .int .i64 0, .int .i64 0, .int .i64 1, .int .i64 0, .int .i64 0, .int .i64 1] 54))
        go_wp2_with (at_builtin; refine wpList_append_own_at _ rfl _ _ 51 rfl w.heap.size 54 i0 (.agg #[.int .i64 0, .int .i64 0, .int .i64 0, .int .i64 0]) 4 32 Try.underlying51 hi hz0 hz1 hz2 rfl (by decide) _ _ _ rfl hA1 ⟨_, 0, none⟩ 3 3 (([(1, 0, 0, 1), (4, 0, 0, 0), (1, 0, 0, 1)] : List Dd).flatMap cD) rfl rfl ?d1 ?d2 ?d3 ?d4 ?d5 ?_)
        case d1 =>
          intro j u hj
          rw [plain_add, new_cell _ _ _ _ j rfl]
          rw [← List.getElem?_toArray] at hj
          exact hj
        case d2 => exact flat_one _
        case d3 => unfold maxLen; first | omega | (simp; omega)
        case d4 => first | omega | (simp; omega)
        case d5 => first | omega | (simp; omega)
        intro v' w6 hown' hgrow _ hblk
        have hA6 : AppD w6 w.heap.size v' (L ++ [(1, 0, 0, 1), (4, 0, 0, 0), (1, 0, 0, 1)]) := by
          unfold AppD; rw [List.flatMap_append]; simpa using hown'
        have hgV : (V 0).ownBlock = (Value.slice a5 L.length c5).ownBlock := by rw [HV.out]
        have HR := Lib.hid (hX6.first (by omega) rfl hA6 (by rw [hgV]; exact hgrow) (by rw [hgV, heap_size]; exact hblk))
        have HS := Lib.hid (set0_small (es := L ++ [(1, 0, 0, 1), (4, 0, 0, 0), (1, 0, 0, 1)]) (by omega) n3 l4.out (by simp; omega))
        have D6 := (D5.alloc (.cells #[.int .i64 1, .int .i64 0, .int .i64 0, .int .i64 1, .int .i64 4, .int .i64 0, .int .i64 0, .int .i64 0, .int .i64 1, .int .i64 0, .int .i64 0, .int .i64 1] 54)).grow hgrow (fun k hk => (hout0 k hk).1) hcl hB
        have D7 := D6.set hgb hcl hB 0 v'
        have gne : (Value.slice a5 L.length c5).ownBlock ≠ some g := fun e => hX6.out 0 (by omega) g (by rw [hgV]; exact e) rfl
        have hb6 : w6.heap[g]? = w5.heap[g]? := (hgrow.block g (by rw [heap_size]; omega) (fun e => gne e.symm)).trans (by rw [heap_at, if_neg (by omega)])
        have d6 := (cell_same hb6 0).trans d0
        have f6 : w6.frozen? ⟨g, 0, none⟩ = false := by rw [← f0]; exact frozen_same hb6 0
        have hg6 : g < w6.heap.size := Nat.lt_of_lt_of_le (by rw [heap_size]; omega) hgrow.size
        obtain ⟨a7, c7, hv7⟩ := hA6.shape
        generalize (L ++ [(1, 0, 0, 1), (4, 0, 0, 0), (1, 0, 0, 1)]).length = n7 at hv7
        subst hv7
        clear hgrow hown' hblk hX5 hX6 hA1 hA0 hA6 D6
        go_wp2
        go_ret
        exact ⟨_, _, rfl, HR.out, HS.out, D7⟩
end Go.Proofs.Ytefdhogmjijkgaa

/- Contracts of what the laws on works draw: some list of lists of deeds, in new memory. -/
namespace Go.Proofs.Ytefdhogmjijkgaa
open Go.ChangeShapes Go.WideShapes Go.ChangeAt Go.RowKit

theorem Dr.newE {w W wr : World} {B c : Nat} (h : Dr W wr B c) (k : Keep w W) (hc : w.heap.size ≤ c) : Keep w wr := k.grown h.2 (fun j hj => by simp at hj; omega)
theorem drawWork_any (w : World) (a : Option Addr) (cap : Nat) (zs : List Int) (hb : RdB w w.heap.size a zs) :
    Calls Try.prog 30 #[.slice a zs.length cap] w fun e w' => ∃ v dss, e = .returned v ∧ RdW w' v dss ∧ (dss.length ≤ 6 ∧ ∀ i, i < dss.length → (dss.getD i []).length ≤ 7) ∧ Keep w w' := by
  go_enter Try.func30, Try.ntmps30
  go_wp2_with fail
  refine (new_any _ a cap zs hb).mono ?_
  rintro e w1 ⟨rfl, c1, k1⟩
  go_wp2_with fail
  refine (l5DrawAny_any _ _ _ c1).mono ?_
  rintro e w2 ⟨v, dss, rfl, hR, hs, D2⟩
  have K2 := D2.newE k1 (Nat.le_refl _)
  have HR := Lib.hid hR
  have HS := Lib.hid hs
  clear hR hs D2
  go_wp2
  go_ret
  exact ⟨_, _, rfl, HR.out, HS.out, K2⟩
end Go.Proofs.Ytefdhogmjijkgaa

/- Contract of what the law on kept lines draws: some work. -/
namespace Go.Proofs.Ytefdhogmjijkgaa
open Go.ChangeShapes Go.WideShapes Go.ChangeAt Go.RowKit

theorem drawKept_any (w : World) (a : Option Addr) (cap : Nat) (zs : List Int) (hb : RdB w w.heap.size a zs) :
    Calls Try.prog 8 #[.slice a zs.length cap] w fun e w' => ∃ v dss, e = .returned v ∧ RdW w' v dss ∧ (dss.length ≤ 6 ∧ ∀ i, i < dss.length → (dss.getD i []).length ≤ 7) ∧ Keep w w' := by
  go_enter Try.func8, Try.ntmps8
  go_wp2_with fail
  refine (drawWork_any _ a cap zs hb).mono ?_
  rintro e w2 ⟨v, dss, rfl, hR, hs, K2⟩
  have HR := Lib.hid hR
  have HS := Lib.hid hs
  clear hR hs
  go_wp2
  go_ret
  exact ⟨_, _, rfl, HR.out, HS.out, K2⟩
end Go.Proofs.Ytefdhogmjijkgaa
