/- Gathered texts. -/
import Derived.Test.YtgakfkjjkobpiaaMR
import Derived.Deep.Cut
import Derived.Lib.Hide
import Derived.Outline
import Derived.Test.YtgakfkjjkobpiaaMH
import Derived.Deep.QuietTactic
import Derived.BigQuiet
set_option maxRecDepth 100000
set_option maxHeartbeats 8000000
namespace Go.Proofs.Ytgakfkjjkobpiaa
open Go.ChangeShapes Go.WideShapes Go.ChangeAt Go.RowKit
section
section
variable {H : Type} {enc : TypeId × Value → H} {w : World} {base : Nat} {held : Bool}
theorem open_notes1 {fuel : Nat} {v : Value} {x : DataW H × List MemPlace} (h : DataW.trod enc Try.prog w base (fun _ => true) held fuel 115 [v] = some x) : ∃ ns, RdN w v ns ∧ ns.length ≤ maxLen := by
  have c4 : Try.prog.cellsOf 146 = 3 := by kernel_rfl
  have c2 : Try.prog.cellsOf 2 = 1 := by kernel_rfl
  rcases Deep.open_slice Try.underlying115 h with ⟨hcs, _⟩ | ⟨a, len, cap, m, n, D, Pl, hcs, hb, hl, hm, hmm, _, hx⟩
  · simp only [List.cons.injEq, and_true] at hcs
    subst hcs
    exact ⟨[], ⟨none, 0, rfl, .inl rfl⟩, by simp⟩
  · simp only [List.cons.injEq, and_true] at hcs
    subst hcs
    have hlm : len ≤ m := by rw [hmm]; split <;> omega
    have each : ∀ i, i < len → ∃ d : Nt, w.cell? (a.add (i * 3)) = some (.int .i64 d.1) ∧ w.cell? (a.add (i * 3 + 1)) = some (.int .i64 d.2.1) ∧ w.cell? (a.add (i * 3 + 2)) = some (.int .i64 d.2.2) := by
      intro i hi
      obtain ⟨cs', h1, h2⟩ := hx i (by omega)
      rw [c4] at h1
      obtain ⟨_, hlen, hcell⟩ := World.cells?_some h1
      obtain ⟨xs, k, hk, hxy, _, hxl, hf⟩ := DataW.trod_struct Try.underlying146 h2
      match xs, hxl, cs', hlen with
      | [y0, y1, y2], _, [v0, v1, v2], _ =>
        have g0 := hf 0 _ rfl
        have g1 := hf 1 _ rfl
        have g2 := hf 2 _ rfl
        simp [c2] at g0 g1 g2
        obtain ⟨k0, e0, _, _⟩ := DataW.trod_int Try.underlying2 g0
        obtain ⟨k1, e1, _, _⟩ := DataW.trod_int Try.underlying2 g1
        obtain ⟨k2, e2, _, _⟩ := DataW.trod_int Try.underlying2 g2
        simp only [List.cons.injEq, and_true] at e0 e1 e2
        subst e0 e1 e2
        have f0 := hcell 0 (by omega)
        have f1 := hcell 1 (by omega)
        have f2 := hcell 2 (by omega)
        rw [Deep.add_add] at f0 f1 f2
        exact ⟨(k0, k1, k2), by simpa using f0, by simpa using f1, by simpa using f2⟩
    obtain ⟨f, hf⟩ := Deep.choose_lt each
    refine ⟨(List.range len).map f, ⟨some a, cap - len, by simp; omega, ?_⟩, by simp; omega⟩
    by_cases h0 : len = 0
    · left; subst h0; rfl
    · right
      obtain ⟨b, off, spot⟩ := a
      have hc0 := (hf 0 (by omega)).1
      have hspot : spot = none := by simpa [Addr.add] using World.cell?_spot hc0
      subst hspot
      have hbl : b < w.heap.size := by
        rw [plain_add] at hc0
        exact block_lt hc0
      refine ⟨b, off, rfl, hbl, fun i x hix => ?_⟩
      have hi' : i < len := by have := (List.getElem?_eq_some_iff.1 hix).1; simpa using this
      rw [List.getElem?_map, List.getElem?_range hi'] at hix
      simp only [Option.map_some, Option.some.injEq] at hix
      subst hix
      obtain ⟨q0, q1, q2⟩ := hf i hi'
      rw [plain_add] at q0 q1 q2
      exact atN_mk q0 q1 q2
theorem open_notess {fuel : Nat} {v : Value} {x : DataW H × List MemPlace} (h : DataW.trod enc Try.prog w base (fun _ => true) held fuel 45 [v] = some x) : ∃ nss, RdNN w v nss ∧ nss.length ≤ maxLen ∧ ∀ i, i < nss.length → (nss.getD i []).length ≤ maxLen := by
  rcases Deep.open_slice1 Try.underlying45 (by kernel_rfl) h with ⟨hcs, _⟩ | ⟨a, len, cap, m, n, V, D, Pl, hcs, hb, hl, hm, hmm, _, hx⟩
  · simp at hcs
    subst hcs
    exact ⟨[], ⟨none, 0, rfl, .inl rfl⟩, by simp, by simp⟩
  · simp at hcs
    subst hcs
    have hlm : len ≤ m := by rw [hmm]; split <;> omega
    have each : ∀ i, i < len → ∃ ds : List Nt, w.cell? (a.add i) = some (V i) ∧ RdN w (V i) ds ∧ ds.length ≤ maxLen := by
      intro i hi
      obtain ⟨h1, h2⟩ := hx i (by omega)
      obtain ⟨ds, h3, h4⟩ := open_notes1 h2
      exact ⟨ds, h1, h3, h4⟩
    obtain ⟨f, hf⟩ := Deep.choose_lt each
    refine ⟨(List.range len).map f, ⟨some a, cap, by simp, ?_⟩, by simp; omega, fun i hi => by rw [range_getD f len i [] (by simpa using hi)]; exact (hf i (by simpa using hi)).2.2⟩
    by_cases h0 : len = 0
    · left; subst h0; rfl
    · right
      obtain ⟨b, off, spot⟩ := a
      have hc0 := (hf 0 (by omega)).1
      have hspot : spot = none := by simpa [Addr.add] using World.cell?_spot hc0
      subst hspot
      have hbl : b < w.heap.size := by
        rw [plain_add] at hc0
        exact block_lt hc0
      refine ⟨b, off, rfl, hbl, fun i hi => ?_⟩
      have hi' : i < len := by simpa using hi
      rw [range_getD f len i [] hi']
      obtain ⟨q0, q1, _⟩ := hf i hi'
      rw [plain_add] at q0
      exact ⟨V i, q0, q1⟩
theorem open_numss {fuel : Nat} {v : Value} {x : DataW H × List MemPlace} (h : DataW.trod enc Try.prog w base (fun _ => true) held fuel 27 [v] = some x) : ∃ zss, RdL w v zss ∧ zss.length ≤ maxLen ∧ ∀ i, i < zss.length → (zss.getD i []).length ≤ maxLen := by
  rcases Deep.open_slice1 Try.underlying27 (by kernel_rfl) h with ⟨hcs, _⟩ | ⟨a, len, cap, m, n, V, D, Pl, hcs, hb, hl, hm, hmm, _, hx⟩
  · simp at hcs
    subst hcs
    exact ⟨[], ⟨none, 0, rfl, .inl rfl⟩, by simp, by simp⟩
  · simp at hcs
    subst hcs
    have hlm : len ≤ m := by rw [hmm]; split <;> omega
    have each : ∀ i, i < len → ∃ ds : List Int, w.cell? (a.add i) = some (V i) ∧ Rd w (V i) ds ∧ ds.length ≤ maxLen := by
      intro i hi
      obtain ⟨h1, h2⟩ := hx i (by omega)
      obtain ⟨ds, h3, h4⟩ := open_num1 h2
      exact ⟨ds, h1, h3, h4⟩
    obtain ⟨f, hf⟩ := Deep.choose_lt each
    refine ⟨(List.range len).map f, ⟨some a, cap, by simp, ?_⟩, by simp; omega, fun i hi => by rw [range_getD f len i [] (by simpa using hi)]; exact (hf i (by simpa using hi)).2.2⟩
    by_cases h0 : len = 0
    · left; subst h0; rfl
    · right
      obtain ⟨b, off, spot⟩ := a
      have hc0 := (hf 0 (by omega)).1
      have hspot : spot = none := by simpa [Addr.add] using World.cell?_spot hc0
      subst hspot
      have hbl : b < w.heap.size := by
        rw [plain_add] at hc0
        exact block_lt hc0
      refine ⟨b, off, rfl, hbl, fun i hi => ?_⟩
      have hi' : i < len := by simpa using hi
      rw [range_getD f len i [] hi']
      obtain ⟨q0, q1, _⟩ := hf i hi'
      rw [plain_add] at q0
      exact ⟨V i, q0, q1⟩
theorem open_work1 {fuel : Nat} {v : Value} {x : DataW H × List MemPlace} (h : DataW.trod enc Try.prog w base (fun _ => true) held fuel 37 [v] = some x) : ∃ dss, RdW w v dss ∧ dss.length ≤ maxLen ∧ ∀ i, i < dss.length → (dss.getD i []).length ≤ maxLen := by
  rcases Deep.open_slice1 Try.underlying37 (by kernel_rfl) h with ⟨hcs, _⟩ | ⟨a, len, cap, m, n, V, D, Pl, hcs, hb, hl, hm, hmm, _, hx⟩
  · simp at hcs
    subst hcs
    exact ⟨[], ⟨none, 0, rfl, .inl rfl⟩, by simp, by simp⟩
  · simp at hcs
    subst hcs
    have hlm : len ≤ m := by rw [hmm]; split <;> omega
    have each : ∀ i, i < len → ∃ ds : List Dd, w.cell? (a.add i) = some (V i) ∧ RdD w (V i) ds ∧ ds.length ≤ maxLen := by
      intro i hi
      obtain ⟨h1, h2⟩ := hx i (by omega)
      obtain ⟨ds, h3, h4⟩ := open_deeds h2
      exact ⟨ds, h1, h3, h4⟩
    obtain ⟨f, hf⟩ := Deep.choose_lt each
    refine ⟨(List.range len).map f, ⟨some a, cap, by simp, ?_⟩, by simp; omega, fun i hi => by rw [range_getD f len i [] (by simpa using hi)]; exact (hf i (by simpa using hi)).2.2⟩
    by_cases h0 : len = 0
    · left; subst h0; rfl
    · right
      obtain ⟨b, off, spot⟩ := a
      have hc0 := (hf 0 (by omega)).1
      have hspot : spot = none := by simpa [Addr.add] using World.cell?_spot hc0
      subst hspot
      have hbl : b < w.heap.size := by
        rw [plain_add] at hc0
        exact block_lt hc0
      refine ⟨b, off, rfl, hbl, fun i hi => ?_⟩
      have hi' : i < len := by simpa using hi
      rw [range_getD f len i [] hi']
      obtain ⟨q0, q1, _⟩ := hf i hi'
      rw [plain_add] at q0
      exact ⟨V i, q0, q1⟩
structure TopBd (dss : List (List Dd)) (b : Bd) : Prop where
  w1 : dss.length ≤ maxLen
  w2 : ∀ i, i < dss.length → (dss.getD i []).length ≤ maxLen
  plc : b.plc.length ≤ maxLen
  lst : b.lst.length ≤ maxLen
  n1 : b.nts.length ≤ maxLen
  n2 : ∀ i, i < b.nts.length → (b.nts.getD i []).length ≤ maxLen
  nxt : b.nxt.length ≤ maxLen
  sn : b.sn.length ≤ maxLen
  fr : b.fr.length ≤ maxLen
  r1 : b.rws.length ≤ maxLen
  r2 : ∀ i, i < b.rws.length → (b.rws.getD i []).length ≤ maxLen
theorem array8 {α : Type} {cs : Array α} (h : cs.size = 8) : ∃ c0 c1 c2 c3 c4 c5 c6 c7, cs = #[c0, c1, c2, c3, c4, c5, c6, c7] := by
  obtain ⟨l⟩ := cs
  match l, h with
  | [c0, c1, c2, c3, c4, c5, c6, c7], _ => exact ⟨c0, c1, c2, c3, c4, c5, c6, c7, rfl⟩
theorem open_board {r : Reach} {b0 : Nat} {v : Value} {d : DataW H} {p : List MemPlace} (hv : Value.okWide Try.prog w r b0 47 v) (h : DataW.Trod enc Try.prog w base (fun _ => true) held 47 v d p) :
    ∃ (bv : BV) (dss : List (List Dd)) (b : Bd), v = bv.agg ∧ RdBd w bv dss b ∧ TopBd dss b := by
  have k1 : Try.prog.cellsOf 37 = 1 := by kernel_rfl
  have k2 : Try.prog.cellsOf 25 = 1 := by kernel_rfl
  have k3 : Try.prog.cellsOf 45 = 1 := by kernel_rfl
  have k4 : Try.prog.cellsOf 27 = 1 := by kernel_rfl
  obtain ⟨cs, rfl, hsz⟩ := okWide_struct Try.underlying47 hv
  obtain ⟨c0, c1, c2, c3, c4, c5, c6, c7, rfl⟩ := array8 (hsz.trans (by kernel_rfl))
  obtain ⟨fuel, hf⟩ := h
  obtain ⟨xs, n, _, _, _, hlen, hf⟩ := DataW.trod_struct Try.underlying47 hf
  match xs, hlen with
  | [y0, y1, y2, y3, y4, y5, y6, y7], _ =>
    have g0 := hf 0 _ rfl
    have g1 := hf 1 _ rfl
    have g2 := hf 2 _ rfl
    have g3 := hf 3 _ rfl
    have g4 := hf 4 _ rfl
    have g5 := hf 5 _ rfl
    have g6 := hf 6 _ rfl
    have g7 := hf 7 _ rfl
    simp [k1, k2, k3, k4, Value.cells] at g0 g1 g2 g3 g4 g5 g6 g7
    obtain ⟨dss, h0, t0, u0⟩ := open_work1 g0
    obtain ⟨z1, h1, t1⟩ := open_num1 g1
    obtain ⟨z2, h2, t2⟩ := open_num1 g2
    obtain ⟨z3, h3, t3, u3⟩ := open_notess g3
    obtain ⟨z4, h4, t4⟩ := open_num1 g4
    obtain ⟨z5, h5, t5⟩ := open_num1 g5
    obtain ⟨z6, h6, t6⟩ := open_num1 g6
    obtain ⟨z7, h7, t7, u7⟩ := open_numss g7
    exact ⟨⟨c0, c1, c2, c3, c4, c5, c6, c7⟩, dss, ⟨z1, z2, z3, z4, z5, z6, z7⟩, rfl, ⟨h0, h1, h2, h3, h4, h5, h6, h7⟩, ⟨t0, u0, t1, t2, t3, u3, t4, t5, t6, t7, u7⟩⟩
end
end
def nxD (dss : List (List Dd)) (b : Bd) (c : Nat) : Dd := if nxN b c < (dss.getD c []).length then dAt dss c (nxN b c) else zD
def nxI (dss : List (List Dd)) (b : Bd) (c : Nat) : Bool := decide (nxN b c < (dss.getD c []).length)
structure NxOk (dss : List (List Dd)) (b : Bd) (c : Nat) : Prop where
  ck : c < dss.length
  l : b.nxt.length = dss.length
  n0 : 0 ≤ b.nxt.getD c 0
  n1 : b.nxt.getD c 0 ≤ ((dss.getD c []).length : Int)
  top : (dss.getD c []).length ≤ 1048576
theorem l15Next_any (w : World) (v : BV) (dss : List (List Dd)) (b : Bd) (c : Nat) (h : RdBd w v dss b) (hc : NxOk dss b c) :
    Calls Try.prog 77 #[v.agg, .int .i64 c] w fun e w' => e = .returned (.tuple #[dV (nxD dss b c), .bool (nxI dss b c)]) ∧ Keep w w' := by
  obtain ⟨aW, aP, aL, aN, aX, aS, aF, aR, cW, cP, cL, cN, cX, cS, cF, cR, rfl⟩ := h.shapes
  obtain ⟨hcl, hl, hn0, hn1, htop⟩ := hc
  have hcx : c < b.nxt.length := by omega
  have KW : Keep w ((w.alloc (.cells #[.slice aW dss.length cW, .slice aP b.plc.length cP, .slice aL b.lst.length cL, .slice aN b.nts.length cN, .slice aX b.nxt.length cX, .slice aS b.sn.length cS, .slice aF b.fr.length cF, .slice aR b.rws.length cR] 29)).alloc (.cells #[.int .i64 0, .int .i64 0, .int .i64 0, .int .i64 0] 98)) := ((Keep.refl w).alloc _).alloc _
  have h' := h.keep KW
  obtain ⟨a', c', he', hX⟩ := h'.X
  simp only [Value.slice.injEq, true_and] at he'
  obtain ⟨rfl, rfl⟩ := he'
  rcases hX with h0 | ⟨bx, ox, rfl, hbx, hcx'⟩
  · exfalso; rw [h0] at hcx; simp at hcx
  obtain ⟨a', c', he', hW⟩ := h'.W
  simp only [Value.slice.injEq, true_and] at he'
  obtain ⟨rfl, rfl⟩ := he'
  rcases hW with h0 | ⟨bw, ow, rfl, hbw, hcw⟩
  · exfalso; rw [h0] at hcl; simp at hcl
  obtain ⟨vd, d3, r3⟩ := hcw c hcl
  obtain ⟨k, hk⟩ := Int.eq_ofNat_of_zero_le hn0
  have d1 := hcx' c hcx
  rw [hk] at d1 hn1
  have hkN : nxN b c = k := by unfold nxN; rw [hk, Int.toNat_natCast]
  have HB : Hid (nxI dss b c = decide (k < (dss.getD c []).length)) := Lib.hid (by rw [nxI, hkN])
  have HD : Hid (nxD dss b c = if k < (dss.getD c []).length then dAt dss c k else zD) := Lib.hid (by rw [nxD, hkN])
  generalize nxD dss b c = ND at HD ⊢
  generalize nxI dss b c = NI at HB ⊢
  obtain ⟨ad, cd, rfl, r3⟩ := r3
  unfold dAt at HD
  generalize dss.getD c [] = ds at *
  have j1 : (0 : Int) ≤ (c : Int) := Int.natCast_nonneg _
  have j2 : (c : Int) < (b.nxt.length : Int) := by omega
  have j3 : (c : Int) < (dss.length : Int) := by omega
  have k1 : (0 : Int) ≤ (k : Int) := Int.natCast_nonneg _
  clear hcw hcx' h h' hkN hl
  by_cases hlt : k < ds.length
  · have HB : Hid (NI = true) := Lib.hid (by rw [HB.out, decide_eq_true hlt])
    have HD : Hid (ND = ds.getD k zD) := Lib.hid (by rw [HD.out, if_pos hlt])
    rcases r3 with h0 | ⟨bd, od, rfl, hbd, hcd⟩
    · exfalso; rw [h0] at hlt; simp at hlt
    obtain ⟨q0, q1, q2, q3⟩ := hcd k hlt
    generalize ds.getD k zD = y at q0 q1 q2 q3 HD
    obtain ⟨y0, y1, y2, y3⟩ := y
    simp only at q0 q1 q2 q3
    have k2 : (k : Int) < (ds.length : Int) := by omega
    have k3 : ((k : Int) == (ds.length : Int)) = false := by simp; omega
    clear hcd hn1
    go_enter Try.func77, Try.ntmps77
    go_wp2
    refine bodyPost_ret (results_row_tmp (by rfl) _ _ (w.heap.size + 1) 98 #[.int .i64 y0, .int .i64 y1, .int .i64 y2, .int .i64 y3] (0, 0) _ (.bool true) rfl (by rw [heap_at, if_pos (by rw [heap_size])]) rfl Try.underlying98 rfl (by kernel_rfl)) rfl ?_
    exact ⟨by rw [HD.out, HB.out], ((Keep.refl w).alloc _).alloc _⟩
  · have HB2 : Hid (NI = false) := Lib.hid (by rw [HB.out, decide_eq_false hlt])
    have HD2 : Hid (ND = zD) := Lib.hid (by rw [HD.out, if_neg hlt])
    obtain rfl : k = ds.length := by omega
    have k3 : ((ds.length : Int) == (ds.length : Int)) = true := by simp
    clear hn1 HB HD
    go_enter Try.func77, Try.ntmps77
    go_wp2
    refine bodyPost_ret (results_row_tmp (by rfl) _ _ (w.heap.size + 1) 98 #[.int .i64 0, .int .i64 0, .int .i64 0, .int .i64 0] (0, 0) _ (.bool false) rfl (by rw [heap_at, if_pos (by rw [heap_size])]) rfl Try.underlying98 rfl (by kernel_rfl)) rfl ?_
    exact ⟨by rw [HD2.out, HB2.out]; rfl, ((Keep.refl w).alloc _).alloc _⟩
structure PsOk (dss : List (List Dd)) (b : Bd) : Prop where
  n : b.nts.length = dss.length
  x : b.nxt.length = dss.length
  m : dss.length ≤ 1048576
  each : ∀ c, c < dss.length → 0 ≤ b.nxt.getD c 0 ∧ b.nxt.getD c 0 ≤ ((dss.getD c []).length : Int) ∧ (dss.getD c []).length ≤ 1048576 ∧ (b.nts.getD c []).length ≤ 1048576
theorem PsOk.nx {dss : List (List Dd)} {b : Bd} (h : PsOk dss b) {c : Nat} (hc : c < dss.length) : NxOk dss b c :=
  ⟨hc, h.x, (h.each c hc).1, (h.each c hc).2.1, (h.each c hc).2.2.1⟩
theorem can_next (dss : List (List Dd)) (b : Bd) (c : Nat) : canM dss b c = (nxI dss b c && ((decide ((nxD dss b c).1 ≤ 2) && decide ((nxD dss b c).2.2.2 = 0)) || (b.nts.getD c []).isEmpty)) := by
  unfold canM nxI nxD gAt
  by_cases h : nxN b c < (dss.getD c []).length
  · rw [if_pos h, decide_eq_true h]
  · rw [decide_eq_false h]; rfl
theorem l15Can_any (w : World) (v : BV) (dss : List (List Dd)) (b : Bd) (c : Nat) (h : RdBd w v dss b) (hp : PsOk dss b) (hc : c < dss.length) :
    Calls Try.prog 36 #[v.agg, .int .i64 c] w fun e w' => e = .returned (.bool (canM dss b c)) ∧ Keep w w' := by
  have C := fun (W : World) (kW : Keep w W) => l15Next_any W v dss b c (h.keep kW) (hp.nx hc)
  have HC : Hid (canM dss b c = (nxI dss b c && ((decide ((nxD dss b c).1 ≤ 2) && decide ((nxD dss b c).2.2.2 = 0)) || (b.nts.getD c []).isEmpty))) := Lib.hid (can_next dss b c)
  have hcn : c < b.nts.length := by rw [hp.n]; exact hc
  have hN := h.N
  obtain ⟨aW, aP, aL, aN, aX, aS, aF, aR, cW, cP, cL, cN, cX, cS, cF, cR, rfl⟩ := h.shapes
  obtain ⟨a', c', he', hN⟩ := hN
  simp only [Value.slice.injEq, true_and] at he'
  obtain ⟨rfl, rfl⟩ := he'
  rcases hN with h0 | ⟨bn, on, rfl, hbn, hcn'⟩
  · exfalso; rw [h0] at hcn; simp at hcn
  obtain ⟨vn, d3, r3⟩ := hcn' c hcn
  obtain ⟨an, cn, rfl, -⟩ := r3
  generalize canM dss b c = ANS at HC ⊢
  generalize nxD dss b c = D at C HC
  generalize nxI dss b c = I at C HC
  generalize b.nts.getD c [] = ns at *
  obtain ⟨y0, y1, y2, y3⟩ := D
  simp only at HC
  have j1 : (0 : Int) ≤ (c : Int) := Int.natCast_nonneg _
  have j2 : (c : Int) < (b.nts.length : Int) := by omega
  clear hcn' h
  go_enter Try.func36, Try.ntmps36
  go_wp2_with fail
  refine (C _ ((Keep.refl w).alloc _)).mono ?_
  rintro e w1 ⟨rfl, k1⟩
  have K1 := ((Keep.refl w).alloc _).trans k1
  have e3 : w1.cell? ⟨w.heap.size, 3, none⟩ = some (.slice (some ⟨bn, on, none⟩) b.nts.length cN) := box_cell k1 3
  have d4 := (K1.cell hbn).trans d3
  have s1 := K1.size
  have z1 : w.heap.size < w1.heap.size := by have := k1.size; simp at this; omega
  have z2 : bn < w1.heap.size := Nat.lt_of_lt_of_le hbn s1
  have e5 : (w1.alloc (.cells #[.int .i64 y0, .int .i64 y1, .int .i64 y2, .int .i64 y3] 98)).cell? ⟨w.heap.size, 3, none⟩ = some (.slice (some ⟨bn, on, none⟩) b.nts.length cN) := (((Keep.refl w1).alloc _).cell z1).trans e3
  have e6 : (w1.alloc (.cells #[.int .i64 y0, .int .i64 y1, .int .i64 y2, .int .i64 y3] 98)).cell? ⟨bn, on + c, none⟩ = some (.slice an ns.length (ns.length + cn)) := (((Keep.refl w1).alloc _).cell z2).trans d4
  clear C d3
  cases I
  · have HE : Hid (ANS = false) := Lib.hid (by rw [HC.out]; rfl)
    go_wp2
    go_ret
    exact ⟨by rw [HE.out]; rfl, K1.alloc _⟩
  · by_cases h2 : y0 ≤ 2
    · by_cases h0 : y3 = 0
      · have HE : Hid (ANS = true) := Lib.hid (by rw [HC.out, decide_eq_true h2, decide_eq_true h0]; rfl)
        have b0 : (y3 == 0) = true := by simp [h0]
        clear HC
        subst h0
        go_wp2
        go_ret
        exact ⟨by rw [HE.out]; rfl, K1.alloc _⟩
      · have HE : Hid (ANS = ns.isEmpty) := Lib.hid (by rw [HC.out, decide_eq_true h2, decide_eq_false h0]; simp)
        have b0 : (y3 == 0) = false := by simp [h0]
        have HQ : Hid (((ns.length : Int) == 0) = ns.isEmpty) := Lib.hid (by cases ns <;> simp; omega)
        clear HC
        go_wp2
        go_ret
        exact ⟨by rw [HE.out, ← HQ.out]; rfl, K1.alloc _⟩
    · have HE : Hid (ANS = ns.isEmpty) := Lib.hid (by rw [HC.out, decide_eq_false h2]; simp)
      have HQ : Hid (((ns.length : Int) == 0) = ns.isEmpty) := Lib.hid (by cases ns <;> simp; omega)
      have h2' : ¬ (y0 ≤ 2) := h2
      clear HC
      go_wp2
      go_ret
      exact ⟨by rw [HE.out, ← HQ.out]; rfl, K1.alloc _⟩
theorem ps_of {dss : List (List Dd)} {b : Bd} (h : boardB dss b = true) : PsOk dss b := by
  have S := Shp.of h
  have u := workB_useR S.work
  refine ⟨S.nts, S.nxt, by omega, fun c hc => ?_⟩
  have h1 := board_clerk h hc
  have h2 := u.2 c hc
  simp only [okL, Bool.and_eq_true, decide_eq_true_eq] at h2
  have h3 := S.nl c
  exact ⟨h1.1, h1.2, by omega, by omega⟩
theorem l14All_any (w : World) (v : Value) (l : List Int) (lo hi : Int) (most : Nat) (h : Rd w v l) (hn : l.length ≤ 1048576) :
    Calls Try.prog 44 #[v, .int .i64 lo, .int .i64 hi, .int .i64 most] w fun e w' => e = .returned (.bool (allB l lo hi most)) ∧ w' = w := by
  obtain ⟨a, c, rfl, h⟩ := h
  go_enter Try.func44, Try.ntmps44
  go_wp2
  go_loop [9] (fun i => ∃ k : Nat, k ≤ l.length ∧ i = .int .i64 k ∧ Hid (∀ j, j < k → (decide (lo ≤ l.getD j 0) && decide (l.getD j 0 ≤ hi)) = true)) (fun i => l.length - (intOf i).toNat)
  case atStart => exact ⟨0, Nat.zero_le _, rfl, Lib.hid (fun j hj => absurd hj (Nat.not_lt_zero _))⟩
  case round =>
    obtain ⟨k, hk, rfl, hno⟩ := hrel
    by_cases hlt : k < l.length
    · rcases h with h | ⟨b, o, rfl, hb, hc⟩
      · exfalso; rw [h] at hlt; simp at hlt
      have d1 := hc k hlt
      have HF := fun e => Lib.hid (allB_far (most := most) (lo := lo) (hi := hi) hlt e)
      have HT : (decide (lo ≤ l.getD k 0) && decide (l.getD k 0 ≤ hi)) = true → Hid (∀ j, j < k + 1 → (decide (lo ≤ l.getD j 0) && decide (l.getD j 0 ≤ hi)) = true) := fun e => Lib.hid (fun j hj => by
        by_cases e' : j = k
        · rw [e']; exact e
        · exact hno.out j (by omega))
      have HB : Hid (inB (l.getD k 0) lo hi = (decide (lo ≤ l.getD k 0) && decide (l.getD k 0 ≤ hi))) := Lib.hid (by unfold inB; rw [Bool.eq_iff_iff]; simp)
      have CI := l1In_any (l.getD k 0) lo hi w
      rw [HB.out] at CI
      clear hc HB
      generalize l.getD k 0 = p at d1 HF HT CI
      generalize (decide (lo ≤ p) && decide (p ≤ hi)) = B at HF HT CI
      have i1 : (0 : Int) ≤ (k : Int) := Int.natCast_nonneg _
      have i2 : (k : Int) < (l.length : Int) := by omega
      cases B
      · have HE := HF rfl
        clear HF HT
        go_wp2_with fail
        refine CI.mono ?_
        rintro e w' ⟨rfl, rfl⟩
        go_wp2
        go_ret
        exact ⟨by rw [HE.out]; rfl, rfl⟩
      · have HE := HT rfl
        clear HF HT
        go_wp2_with fail
        refine CI.mono ?_
        rintro e w' ⟨rfl, rfl⟩
        go_wp2
        go_round
        case rel => exact ⟨k + 1, by omega, by go_num, HE⟩
        case measure => simp [intOf]; omega
    · obtain rfl : k = l.length := by omega
      have HE : Hid (allB l lo hi most = decide (l.length ≤ most)) := Lib.hid (allB_done hno.out)
      have HD : Hid (decide ((l.length : Int) ≤ (most : Int)) = decide (l.length ≤ most)) := Lib.hid (by rw [decide_eq_decide]; omega)
      go_wp2
      go_ret
      exact ⟨by rw [HE.out, ← HD.out]; rfl, rfl⟩
theorem specBoardOk_any (w : World) (v : BV) (dss : List (List Dd)) (b : Bd) (h : RdBd w v dss b) (hz : SzBd dss b) :
    Calls Try.prog 11 #[v.agg] w fun e w' => e = .returned (.bool (boardB dss b)) ∧ Keep w w' := by
  obtain ⟨aW, aP, aL, aN, aX, aS, aF, aR, cW, cP, cL, cN, cX, cS, cF, cR, rfl⟩ := h.shapes
  have HZ := Lib.hid hz
  have HH := Lib.hid h
  have HB : Hid (boardB dss b = (shapeB dss b && (fillB ((eventsB dss).length : Int) (idxB rdE (eventsB dss)).length b && (rowsBd ((eventsB dss).length : Int) b && (List.range dss.length).all (fun i => ckB dss ((eventsB dss).length : Int) b i))))) := Lib.hid rfl
  have CW := fun (W : World) (kW : Keep w W) => specWorkOk_any W _ dss (h.W.keep kW) hz.w1 hz.w2
  clear h hz
  go_enter Try.func11, Try.ntmps11
  go_wp2_with fail
  refine (CW _ ((Keep.refl w).alloc _)).mono ?_
  rintro e w1 ⟨rfl, k1⟩
  have K1 := ((Keep.refl w).alloc _).trans k1
  have c0 := box_cell k1 0
  have c1 := box_cell k1 1
  have c2 := box_cell k1 2
  have c3 := box_cell k1 3
  have c4 := box_cell k1 4
  have c5 := box_cell k1 5
  have c6 := box_cell k1 6
  have c7 := box_cell k1 7
  simp at c0 c1 c2 c3 c4 c5 c6 c7
  have z1 := box_size k1
  clear CW
  cases hb : workB dss
  · have HE : Hid (boardB dss b = false) := Lib.hid (by rw [HB.out, shapeB, hb]; rfl)
    go_wp2
    go_ret
    exact ⟨by rw [HE.out]; rfl, K1⟩
  by_cases qP : b.plc.length = 3
  rotate_left
  · have HE : Hid (boardB dss b = false) := Lib.hid (by rw [HB.out, shapeB, decide_eq_false qP]; simp)
    have tP : ((b.plc.length : Int) != (3 : Int)) = true := by simp; omega
    clear qP
    go_wp2
    go_ret
    exact ⟨by rw [HE.out]; rfl, K1⟩
  have tP : ((b.plc.length : Int) != (3 : Int)) = false := by simp [qP]
  have QP := Lib.hid qP
  clear qP
  by_cases qL : b.lst.length = 3
  rotate_left
  · have HE : Hid (boardB dss b = false) := Lib.hid (by rw [HB.out, shapeB, decide_eq_false qL]; simp)
    have tL : ((b.lst.length : Int) != (3 : Int)) = true := by simp; omega
    clear qL
    go_wp2
    go_ret
    exact ⟨by rw [HE.out]; rfl, K1⟩
  have tL : ((b.lst.length : Int) != (3 : Int)) = false := by simp [qL]
  have QL := Lib.hid qL
  clear qL
  by_cases qR : b.rws.length = 3
  rotate_left
  · have HE : Hid (boardB dss b = false) := Lib.hid (by rw [HB.out, shapeB, decide_eq_false qR]; simp)
    have tR : ((b.rws.length : Int) != (3 : Int)) = true := by simp; omega
    clear qR
    go_wp2
    go_ret
    exact ⟨by rw [HE.out]; rfl, K1⟩
  have tR : ((b.rws.length : Int) != (3 : Int)) = false := by simp [qR]
  have QR := Lib.hid qR
  clear qR
  by_cases qN : b.nts.length = dss.length
  rotate_left
  · have HE : Hid (boardB dss b = false) := Lib.hid (by rw [HB.out, shapeB, decide_eq_false qN]; simp)
    have tN : ((b.nts.length : Int) != (dss.length : Int)) = true := by simp; omega
    clear qN
    go_wp2
    go_ret
    exact ⟨by rw [HE.out]; rfl, K1⟩
  have tN : ((b.nts.length : Int) != (dss.length : Int)) = false := by simp [qN]
  have QN := Lib.hid qN
  clear qN
  by_cases qX : b.nxt.length = dss.length
  rotate_left
  · have HE : Hid (boardB dss b = false) := Lib.hid (by rw [HB.out, shapeB, decide_eq_false qX]; simp)
    have tX : ((b.nxt.length : Int) != (dss.length : Int)) = true := by simp; omega
    clear qX
    go_wp2
    go_ret
    exact ⟨by rw [HE.out]; rfl, K1⟩
  have tX : ((b.nxt.length : Int) != (dss.length : Int)) = false := by simp [qX]
  have QX := Lib.hid qX
  clear qX
  have HB2 : Hid (boardB dss b = (fillB ((evsW dss dss.length).length : Int) (idxB rdE (evsW dss dss.length)).length b && (rowsBd ((evsW dss dss.length).length : Int) b && (List.range dss.length).all (fun i => ckB dss ((evsW dss dss.length).length : Int) b i)))) := Lib.hid (by
    have e1 : eventsB dss = evsW dss dss.length := by rw [eventsB, if_pos hb]
    rw [HB.out, shapeB, hb, decide_eq_true QP.out, decide_eq_true QL.out, decide_eq_true QR.out, decide_eq_true QN.out, decide_eq_true QX.out, e1]; rfl)
  obtain ⟨u1, u2⟩ := workB_useR hb
  have L9 := evsW_9 hb
  clear HB
  go_wp2_with fail
  refine (l6Events_any _ _ dss (HH.out.W.keep K1) u1 u2).mono ?_
  rintro e w2 ⟨ve, rfl, ae, k2⟩
  have re := ae.rd
  generalize evsW dss dss.length = es at *
  obtain ⟨aE, cE', rfl, -⟩ := id re
  have K2 := K1.trans k2
  go_wp2_with fail
  refine (specReadsOf_any _ _ es re (by omega)).mono ?_
  rintro e w3 ⟨vr, rfl, or3, k3⟩
  have K3 := K2.trans k3
  have hrl : (idxB rdE es).length ≤ 12 := by
    unfold idxB
    rw [if_pos (by omega)]
    have := idxK_len rdE es es.length
    omega
  obtain ⟨ar, cr, rfl, -⟩ := id or3.rd
  generalize (idxB rdE es).length = rn at *
  have k13 := k2.trans k3
  replace c0 := (k13.cell z1).trans c0
  replace c1 := (k13.cell z1).trans c1
  replace c2 := (k13.cell z1).trans c2
  replace c3 := (k13.cell z1).trans c3
  replace c4 := (k13.cell z1).trans c4
  replace c5 := (k13.cell z1).trans c5
  replace c6 := (k13.cell z1).trans c6
  replace c7 := (k13.cell z1).trans c7
  replace z1 := Nat.lt_of_lt_of_le z1 k13.size
  clear k1 k2 k3 k13 K1 K2 ae re or3 tP tL tR tN tX
  by_cases qS : b.sn.length = rn
  rotate_left
  · have HE : Hid (boardB dss b = false) := Lib.hid (by rw [HB2.out, fillB, decide_eq_false qS]; simp)
    have tS : ((b.sn.length : Int) != (rn : Int)) = true := by simp; omega
    clear qS
    go_wp2
    go_ret
    exact ⟨by rw [HE.out]; rfl, K3⟩
  have tS : ((b.sn.length : Int) != (rn : Int)) = false := by simp [qS]
  have QS := Lib.hid qS
  clear qS
  by_cases qF : b.fr.length = rn
  rotate_left
  · have HE : Hid (boardB dss b = false) := Lib.hid (by rw [HB2.out, fillB, decide_eq_false qF]; simp)
    have tF : ((b.fr.length : Int) != (rn : Int)) = true := by simp; omega
    clear qF
    go_wp2
    go_ret
    exact ⟨by rw [HE.out]; rfl, K3⟩
  have tF : ((b.fr.length : Int) != (rn : Int)) = false := by simp [qF]
  have QF := Lib.hid qF
  clear qF
  have i1 : IntKind.i64.wrap ((es.length : Int) - 1) = (es.length : Int) - 1 := by rw [IntKind.wrap_i64]; omega
  have CP := l14All_any _ _ b.plc 0 9 3 (HH.out.P.keep K3) HZ.out.plc
  have CL := l14All_any _ _ b.lst 0 ((es.length : Int) - 1) 3 (HH.out.L.keep K3) HZ.out.lst
  have CS := l14All_any _ _ b.sn (-1) 9 12 (HH.out.S.keep K3) HZ.out.sn
  have CF := l14All_any _ _ b.fr (-1) ((es.length : Int) - 1) 12 (HH.out.F.keep K3) HZ.out.fr
  cases qP : allB b.plc 0 9 3
  · have HE : Hid (boardB dss b = false) := Lib.hid (by rw [HB2.out, fillB, qP]; simp)
    rw [qP] at CP
    go_wp2_with fail
    refine CP.mono ?_
    rintro e w4 ⟨rfl, rfl⟩
    go_wp2
    go_ret
    exact ⟨by rw [HE.out]; rfl, K3⟩
  rw [qP] at CP
  cases qL : allB b.lst 0 ((es.length : Int) - 1) 3
  · have HE : Hid (boardB dss b = false) := Lib.hid (by rw [HB2.out, fillB, qL]; simp)
    rw [qL] at CL
    go_wp2_with fail
    refine CP.mono ?_
    rintro e w4 ⟨rfl, rfl⟩
    go_wp2_with fail
    refine CL.mono ?_
    rintro e w5 ⟨rfl, rfl⟩
    go_wp2
    go_ret
    exact ⟨by rw [HE.out]; rfl, K3⟩
  rw [qL] at CL
  cases qS : allB b.sn (-1) 9 12
  · have HE : Hid (boardB dss b = false) := Lib.hid (by rw [HB2.out, fillB, qS]; simp)
    rw [qS] at CS
    go_wp2_with fail
    refine CP.mono ?_
    rintro e w4 ⟨rfl, rfl⟩
    go_wp2_with fail
    refine CL.mono ?_
    rintro e w5 ⟨rfl, rfl⟩
    go_wp2_with fail
    refine CS.mono ?_
    rintro e w6 ⟨rfl, rfl⟩
    go_wp2
    go_ret
    exact ⟨by rw [HE.out]; rfl, K3⟩
  rw [qS] at CS
  cases qF : allB b.fr (-1) ((es.length : Int) - 1) 12
  · have HE : Hid (boardB dss b = false) := Lib.hid (by rw [HB2.out, fillB, qF]; simp)
    rw [qF] at CF
    go_wp2_with fail
    refine CP.mono ?_
    rintro e w4 ⟨rfl, rfl⟩
    go_wp2_with fail
    refine CL.mono ?_
    rintro e w5 ⟨rfl, rfl⟩
    go_wp2_with fail
    refine CS.mono ?_
    rintro e w6 ⟨rfl, rfl⟩
    go_wp2_with fail
    refine CF.mono ?_
    rintro e w7 ⟨rfl, rfl⟩
    go_wp2
    go_ret
    exact ⟨by rw [HE.out]; rfl, K3⟩
  rw [qF] at CF
  have HB3 : Hid (boardB dss b = (rowsBd (es.length : Int) b && (List.range dss.length).all (fun i => ckB dss (es.length : Int) b i))) := Lib.hid (by rw [HB2.out, fillB, decide_eq_true QS.out, decide_eq_true QF.out, qP, qL, qS, qF]; rfl)
  clear HB2
  go_wp2_with fail
  refine CP.mono ?_
  rintro e w4 ⟨rfl, rfl⟩
  go_wp2_with fail
  refine CL.mono ?_
  rintro e w5 ⟨rfl, rfl⟩
  go_wp2_with fail
  refine CS.mono ?_
  rintro e w6 ⟨rfl, rfl⟩
  go_wp2_with fail
  refine CF.mono ?_
  rintro e w7 ⟨rfl, rfl⟩
  clear CP CL CS CF qP qL qS qF tS tF
  go_wp2
  go_loop [6] (fun i => ∃ k : Nat, k ≤ 3 ∧ i = .int .i64 k ∧ Hid (∀ j, j < k → allB (b.rws.getD j []) 0 ((es.length : Int) - 1) 20 = true)) (fun i => 3 - (intOf i).toNat)
  case atStart => exact ⟨0, Nat.zero_le _, rfl, Lib.hid (fun j hj => absurd hj (Nat.not_lt_zero _))⟩
  case round =>
    obtain ⟨k, hk, rfl, hno⟩ := hrel
    by_cases hlt : k < 3
    · obtain ⟨a', c', he', hR⟩ := HH.out.R.keep K3
      simp only [Value.slice.injEq, true_and] at he'
      obtain ⟨rfl, rfl⟩ := he'
      rcases hR with h0 | ⟨bb, o, rfl, hbb, hc⟩
      · exfalso; have := QR.out; rw [h0] at this; simp at this
      obtain ⟨vi, d1, r1⟩ := hc k (by rw [QR.out]; exact hlt)
      have CA := l14All_any _ _ (b.rws.getD k []) 0 ((es.length : Int) - 1) 20 r1 (HZ.out.r2 k (by rw [QR.out]; exact hlt))
      obtain ⟨ai, ci, hvi, -⟩ := id r1
      have j1 : (0 : Int) ≤ (k : Int) := Int.natCast_nonneg _
      have j2 : (k : Int) < 3 := by omega
      have j3 : (k : Int) < (b.rws.length : Int) := by have := QR.out; omega
      clear hc r1
      cases qA : allB (b.rws.getD k []) 0 ((es.length : Int) - 1) 20
      · have HE : Hid (boardB dss b = false) := Lib.hid (by rw [HB3.out, rowsBd, all_range_false hlt qA]; rfl)
        rw [qA] at CA
        clear qA
        generalize (b.rws.getD k []).length = nk at hvi
        subst hvi
        go_wp2_with fail
        refine CA.mono ?_
        rintro e w4 ⟨rfl, rfl⟩
        go_wp2
        go_ret
        exact ⟨by rw [HE.out]; rfl, K3⟩
      · have HN : Hid (∀ j, j < k + 1 → allB (b.rws.getD j []) 0 ((es.length : Int) - 1) 20 = true) := Lib.hid (fun j hj => by
          by_cases e' : j = k
          · rw [e']; exact qA
          · exact hno.out j (by omega))
        rw [qA] at CA
        clear qA
        generalize (b.rws.getD k []).length = nk at hvi
        subst hvi
        go_wp2_with fail
        refine CA.mono ?_
        rintro e w4 ⟨rfl, rfl⟩
        go_wp2
        go_round
        case rel => exact ⟨k + 1, by omega, by go_num, HN⟩
        case measure => simp [intOf]; omega
    · obtain rfl : k = 3 := by omega
      have HB4 : Hid (boardB dss b = (List.range dss.length).all (fun i => ckB dss (es.length : Int) b i)) := Lib.hid (by
        have e : rowsBd (es.length : Int) b = true := all_range_true hno.out
        rw [HB3.out, e]; rfl)
      clear HB3 hno hk hlt
      have K0 := Keep.refl w7
      go_wp2
      go_loopw [7] (fun i wr => ∃ k : Nat, k ≤ dss.length ∧ i = .int .i64 k ∧ Hid (∀ j, j < k → ckB dss (es.length : Int) b j = true) ∧ Keep w7 wr) (fun i _ => dss.length - (intOf i).toNat)
      case atStart => exact ⟨0, Nat.zero_le _, rfl, Lib.hid (fun j hj => absurd hj (Nat.not_lt_zero _)), K0⟩
      case round =>
        obtain ⟨k, hk, rfl, hno, hK⟩ := hrel
        clear K0
        have e0 := (hK.cell z1).trans c0
        have e3 := (hK.cell z1).trans c3
        have e4 := (hK.cell z1).trans c4
        have KR := K3.trans hK
        by_cases hlt : k < dss.length
        · have lX : k < b.nxt.length := by rw [QX.out]; exact hlt
          have lN : k < b.nts.length := by rw [QN.out]; exact hlt
          obtain ⟨a', c', he', hX⟩ := HH.out.X.keep KR
          simp only [Value.slice.injEq, true_and] at he'
          obtain ⟨rfl, rfl⟩ := he'
          rcases hX with h0 | ⟨bx, ox, rfl, hbx, hcx⟩
          · exfalso; rw [h0] at lX; simp at lX
          obtain ⟨a', c', he', hW⟩ := HH.out.W.keep KR
          simp only [Value.slice.injEq, true_and] at he'
          obtain ⟨rfl, rfl⟩ := he'
          rcases hW with h0 | ⟨bw, ow, rfl, hbw, hcw⟩
          · exfalso; rw [h0] at hlt; simp at hlt
          obtain ⟨a', c', he', hN⟩ := HH.out.N.keep K3
          simp only [Value.slice.injEq, true_and] at he'
          obtain ⟨rfl, rfl⟩ := he'
          rcases hN with h0 | ⟨bn, on, rfl, hbn, hcn⟩
          · exfalso; rw [h0] at lN; simp at lN
          have d1 := hcx k lX
          obtain ⟨vw, d2, r2⟩ := hcw k hlt
          obtain ⟨vn, D3, r3⟩ := hcn k lN
          have d3 := (hK.cell hbn (o := on + k)).trans D3
          have HF : ckB dss (es.length : Int) b k = false → Hid (boardB dss b = false) := fun e => Lib.hid (by rw [HB4.out, all_range_false hlt e])
          have HT : ckB dss (es.length : Int) b k = true → Hid (∀ j, j < k + 1 → ckB dss (es.length : Int) b j = true) := fun e => Lib.hid (fun j hj => by
            by_cases e' : j = k
            · rw [e']; exact e
            · exact hno.out j (by omega))
          have HC : Hid (ckB dss (es.length : Int) b k = (inB (b.nxt.getD k 0) 0 ((dss.getD k []).length : Int) && (decide ((b.nts.getD k []).length ≤ 8) && ntsB (es.length : Int) (b.nts.getD k [])))) := Lib.hid (by
            have : inB (b.nxt.getD k 0) 0 ((dss.getD k []).length : Int) = (decide (0 ≤ b.nxt.getD k 0) && decide (b.nxt.getD k 0 ≤ ((dss.getD k []).length : Int))) := by unfold inB; rw [Bool.eq_iff_iff]; simp
            rw [ckB, this])
          have nlen := HZ.out.n2 k lN
          have hwl := HZ.out.w2 k hlt
          obtain ⟨aw, cw, rfl, -⟩ := r2
          have RN := Lib.hid r3
          obtain ⟨an, cn, rfl, r3⟩ := r3
          generalize b.nxt.getD k 0 = x at d1 HC
          generalize (dss.getD k []).length = wl at d2 HC hwl
          generalize b.nts.getD k [] = ns at *
          have j1 : (0 : Int) ≤ (k : Int) := Int.natCast_nonneg _
          have j2 : (k : Int) < (dss.length : Int) := by omega
          have j3 : (k : Int) < (b.nxt.length : Int) := by omega
          have j4 : (k : Int) < (b.nts.length : Int) := by omega
          clear hcx hcw hcn hno
          cases qI : inB x 0 (wl : Int)
          · have HE := HF (by rw [HC.out, qI]; rfl)
            clear HF HT HC
            have CI := fun W : World => l1In_any x 0 (wl : Int) W
            rw [qI] at CI
            go_wp2
            go_quiet ((go_at_call 45; exact Calls.quiet_of_same (CI _)))
            go_wp2
            go_ret
            exact ⟨by rw [HE.out]; rfl, KR.drewN _⟩
          have CI := fun W : World => l1In_any x 0 (wl : Int) W
          rw [qI] at CI
          by_cases q8 : ns.length ≤ 8
          rotate_left
          · have HE := HF (by rw [HC.out, decide_eq_false q8]; simp)
            have t8 : (8 : Int) < (ns.length : Int) := by omega
            clear HF HT HC q8
            go_wp2
            go_quiet ((go_at_call 45; exact Calls.quiet_of_same (CI _)))
            go_wp2
            go_ret
            exact ⟨by rw [HE.out]; rfl, KR.drewN _⟩
          have t8 : decide ((8 : Int) < (ns.length : Int)) = false := by simp; omega
          have HC2 : Hid (ckB dss (es.length : Int) b k = ntsB (es.length : Int) ns) := Lib.hid (by rw [HC.out, qI, decide_eq_true q8]; rfl)
          clear HC
          go_wp2
          go_quiet ((go_at_call 45; exact Calls.quiet_of_same (CI _)))
          have KD : Keep w7 (wr.drewN nq) := hK.drewN _
          clear CI qI d1 d2 d3 e0 e3 e4 hK KR q8 t8
          go_wp2
          go_loopw [8] (fun i wz => ∃ m : Nat, m ≤ ns.length ∧ i = .int .i64 m ∧ Hid (∀ j, j < m → ntB (es.length : Int) (ns.getD j (0, 0, 0)) = true) ∧ Keep w7 wz) (fun i _ => ns.length - (intOf i).toNat)
          case atStart => exact ⟨0, Nat.zero_le _, rfl, Lib.hid (fun j hj => absurd hj (Nat.not_lt_zero _)), KD⟩
          case round =>
            clear KD
            obtain ⟨m, hm, rfl, hnt, hK2⟩ := hrel
            have f3 := (hK2.cell z1).trans c3
            have n3 := (hK2.cell hbn (o := on + k)).trans D3
            by_cases hml : m < ns.length
            · obtain ⟨a', c', he', hA⟩ := RN.out.keep hK2
              simp only [Value.slice.injEq, Nat.add_left_cancel_iff, true_and] at he'
              obtain ⟨rfl, rfl⟩ := he'
              rcases hA with h0 | ⟨bq, oq, rfl, hbq, hcq⟩
              · exfalso; rw [h0] at hml; simp at hml
              obtain ⟨g0, g1, g2⟩ := atN (hcq m _ (nts_get hml))
              have NF : ntB (es.length : Int) (ns.getD m (0, 0, 0)) = false → Hid (boardB dss b = false) := fun e => HF (by rw [HC2.out]; exact ntsB_false hml e)
              have NT : ntB (es.length : Int) (ns.getD m (0, 0, 0)) = true → Hid (∀ j, j < m + 1 → ntB (es.length : Int) (ns.getD j (0, 0, 0)) = true) := fun e => Lib.hid (fun j hj => by
                by_cases e' : j = m
                · rw [e']; exact e
                · exact hnt.out j (by omega))
              have HNB : Hid (∀ y : Nt, ntB (es.length : Int) y = (inB y.1 0 2 && (inB y.2.1 0 9 && inB y.2.2 0 ((es.length : Int) - 1)))) := Lib.hid (fun y => by
                unfold ntB inB
                rw [Bool.eq_iff_iff]
                simp [and_assoc])
              rw [HNB.out] at NF NT
              generalize ns.getD m (0, 0, 0) = y at g0 g1 g2 NF NT
              obtain ⟨y0, y1, y2⟩ := y
              simp only at g0 g1 g2 NF NT
              have I0 := fun W : World => l1In_any y0 0 2 W
              have I1 := fun W : World => l1In_any y1 0 9 W
              have I2 := fun W : World => l1In_any y2 0 ((es.length : Int) - 1) W
              have m1 : (0 : Int) ≤ (m : Int) := Int.natCast_nonneg _
              have m2 : (m : Int) < (ns.length : Int) := by omega
              have KZ := (K3.trans hK2).alloc (.cells #[.int .i64 y0, .int .i64 y1, .int .i64 y2] 66)
              clear hcq HNB hnt
              cases t0 : inB y0 0 2
              · have HE := NF (by rw [t0]; rfl)
                rw [t0] at I0
                clear NF NT I1 I2 t0
                go_wp2_with fail
                refine (I0 _).mono ?_
                rintro e w8 ⟨rfl, rfl⟩
                go_wp2
                go_ret
                exact ⟨by rw [HE.out]; rfl, KZ⟩
              rw [t0] at I0
              cases t1 : inB y1 0 9
              · have HE := NF (by rw [t1]; simp)
                rw [t1] at I1
                clear NF NT I2 t0 t1
                go_wp2_with fail
                refine (I0 _).mono ?_
                rintro e w8 ⟨rfl, rfl⟩
                go_wp2_with fail
                refine (I1 _).mono ?_
                rintro e w8 ⟨rfl, rfl⟩
                go_wp2
                go_ret
                exact ⟨by rw [HE.out]; rfl, KZ⟩
              rw [t1] at I1
              cases t2 : inB y2 0 ((es.length : Int) - 1)
              · have HE := NF (by rw [t2]; simp)
                rw [t2] at I2
                clear NF NT t0 t1 t2
                go_wp2_with fail
                refine (I0 _).mono ?_
                rintro e w8 ⟨rfl, rfl⟩
                go_wp2_with fail
                refine (I1 _).mono ?_
                rintro e w8 ⟨rfl, rfl⟩
                go_wp2_with fail
                refine (I2 _).mono ?_
                rintro e w8 ⟨rfl, rfl⟩
                go_wp2
                go_ret
                exact ⟨by rw [HE.out]; rfl, KZ⟩
              · have HE := NT (by rw [t0, t1, t2]; rfl)
                rw [t2] at I2
                clear NF NT t0 t1 t2
                go_wp2_with fail
                refine (I0 _).mono ?_
                rintro e w8 ⟨rfl, rfl⟩
                go_wp2_with fail
                refine (I1 _).mono ?_
                rintro e w8 ⟨rfl, rfl⟩
                go_wp2_with fail
                refine (I2 _).mono ?_
                rintro e w8 ⟨rfl, rfl⟩
                go_wp2
                go_roundw
                case rel => exact ⟨m + 1, by omega, by go_num, HE, hK2.alloc _⟩
                case measure => simp [intOf]; omega
            · obtain rfl : m = ns.length := by omega
              have HE := HT (by rw [HC2.out]; exact ntsB_true hnt.out)
              go_wp2
              go_roundw
              case rel => exact ⟨k + 1, by omega, by go_num, HE, hK2⟩
              case measure => simp [intOf]; omega
        · obtain rfl : k = dss.length := by omega
          have HE : Hid (boardB dss b = true) := Lib.hid (by rw [HB4.out]; exact all_range_true hno.out)
          go_wp2
          go_ret
          exact ⟨by rw [HE.out]; rfl, KR⟩
theorem l15Possible_any (w : World) (v : BV) (dss : List (List Dd)) (b : Bd) (h : RdBd w v dss b) (hp : PsOk dss b) :
    Calls Try.prog 47 #[v.agg] w fun e w' => ∃ v', e = .returned v' ∧ Own w' w.heap.size v' (possM dss b) ∧ Keep w w' := by
  have C := fun (W : World) (kW : Keep w W) (c : Nat) (hc : c < dss.length) => l15Can_any W v dss b c (h.keep kW) hp hc
  obtain ⟨i0, hi, hz0, hz1, hz2⟩ := info_parts Try.infoI
  have HN := Lib.hid h.N
  have hm := hp.m
  have hpn := Lib.hid hp.n
  obtain ⟨aW, aP, aL, aN, aX, aS, aF, aR, cW, cP, cL, cN, cX, cS, cF, cR, rfl⟩ := h.shapes
  clear h hp
  go_enter Try.func47, Try.ntmps47
  go_upto_region 1 with fail
  obtain ⟨wB, hwB⟩ : ∃ W : World, W = w.alloc (.cells #[.slice aW dss.length cW, .slice aP b.plc.length cP, .slice aL b.lst.length cL, .slice aN b.nts.length cN, .slice aX b.nxt.length cX, .slice aS b.sn.length cS, .slice aF b.fr.length cF, .slice aR b.rws.length cR] 29) := ⟨_, rfl⟩
  have kB : Keep w wB := by rw [hwB]; exact (Keep.refl w).alloc _
  have sB : wB.heap.size = w.heap.size + 1 := by rw [hwB]; exact heap_size _ _
  have BC : Hid (∀ (W : World), Keep wB W → W.cell? ⟨w.heap.size, 0, none⟩ = some (.slice aW dss.length cW) ∧ W.cell? ⟨w.heap.size, 1, none⟩ = some (.slice aP b.plc.length cP) ∧ W.cell? ⟨w.heap.size, 2, none⟩ = some (.slice aL b.lst.length cL) ∧ W.cell? ⟨w.heap.size, 3, none⟩ = some (.slice aN b.nts.length cN) ∧ W.cell? ⟨w.heap.size, 4, none⟩ = some (.slice aX b.nxt.length cX) ∧ W.cell? ⟨w.heap.size, 5, none⟩ = some (.slice aS b.sn.length cS) ∧ W.cell? ⟨w.heap.size, 6, none⟩ = some (.slice aF b.fr.length cF) ∧ W.cell? ⟨w.heap.size, 7, none⟩ = some (.slice aR b.rws.length cR)) := Lib.hid (by
    rw [hwB]
    exact fun W k => ⟨box_cell k 0, box_cell k 1, box_cell k 2, box_cell k 3, box_cell k 4, box_cell k 5, box_cell k 6, box_cell k 7⟩)
  rw [← hwB]
  clear hwB
  have SB := Lib.hid sB
  have lB : w.heap.size < wB.heap.size := by omega
  clear sB
  have hown0 : Own (wB.alloc (.cells #[] 2)) wB.heap.size (.slice (some ⟨wB.heap.size, 0, none⟩) 0 0) [] := World.ownsRow_lit wB #[] 0 (Nat.le_refl _) (by decide) rfl
  go_wp2
  go_loopw [3, 4] (fun v0 i wr => ∃ (k : Nat) (v : Value), v = v0 ∧ k ≤ dss.length ∧ i = .int .i64 k ∧ Own wr wB.heap.size v (canK dss b k) ∧ Keep wB wr) (fun _ i _ => dss.length - (intOf i).toNat)
  case atStart => exact ⟨0, _, rfl, Nat.zero_le _, rfl, hown0, (Keep.refl _).alloc _⟩
  case round =>
    obtain ⟨k, v, rfl, hk, rfl, ho, hK⟩ := hrel
    clear hown0
    obtain ⟨b0, b1, b2, b3, b4, b5, b6, b7⟩ := BC.out _ hK
    by_cases hlt : k < dss.length
    · have i1 : (0 : Int) ≤ (k : Int) := Int.natCast_nonneg _
      have i2 : (k : Int) < (dss.length : Int) := by omega
      go_wp2_with fail
      refine (C _ (kB.trans hK) k hlt).mono ?_
      rintro e w2 ⟨rfl, k2⟩
      have hK2 := hK.trans k2
      have hml : (canK dss b k).length ≤ k := canK_len _ _ _
      have hsz := hK2.size
      replace ho := ho.keep k2
      clear b0 b1 b2 b3 b4 b5 b6 b7
      cases hc : canM dss b k
      · have HM : Hid (canK dss b (k + 1) = canK dss b k) := Lib.hid (canK_miss hc)
        go_wp2
        go_roundw
        case rel => exact ⟨k + 1, _, rfl, by omega, by go_num, by rw [HM.out]; exact ho, hK2⟩
        case measure => simp [intOf]; omega
      · have HM : Hid (canK dss b (k + 1) = canK dss b k ++ [(k : Int)]) := Lib.hid (canK_hit hc)
        go_wp2_with (at_builtin; refine wpList_append_own _ rfl _ _ 25 rfl wB.heap.size 2 i0 (.int .i64 0) 1 8 Try.underlying25 hi hz0 hz1 hz2 rfl (by decide) _ _ _ rfl (World.ownsRow.alloc ho _) ⟨_, 0, none⟩ 1 1 [.int .i64 k] rfl rfl ?c1 ?c2 ?c3 ?c4 ?c5 ?_)
        case c1 =>
          intro j u hj
          match j, hj with
          | 0, hj => simp at hj; subst hj; simp [Addr.add]
        case c2 => intro u hu; simp at hu; subst hu; rfl
        case c3 => unfold maxLen; omega
        case c4 => omega
        case c5 => simp; omega
        intro v' w1 hown' hgrow _
        have hK1 : Keep wB w1 := (hK2.alloc _).grown hgrow ho.ge
        clear hgrow
        go_wp2
        go_roundw
        case rel => exact ⟨k + 1, _, rfl, by omega, by go_num, by rw [HM.out]; exact own_hit hown', hK1⟩
        case measure => simp [intOf]; omega
    · obtain rfl : k = dss.length := by omega
      have HP : Hid (canK dss b dss.length ++ ntK b dss.length = possM dss b) := Lib.hid (poss_same dss b)
      have hml : (canK dss b dss.length).length ≤ dss.length := canK_len _ _ _
      generalize canK dss b dss.length = CK at *
      have ho0 : Own wr wB.heap.size v (CK ++ ntK b 0) := by rw [show ntK b 0 = [] from rfl, List.append_nil]; exact ho
      clear ho hk hlt
      go_wp2
      clear b0 b1 b2 b3 b4 b5 b6 b7
      go_loopw [3, 5] (fun v0 i wr => ∃ (k : Nat) (v : Value), v = v0 ∧ k ≤ dss.length ∧ i = .int .i64 k ∧ Own wr wB.heap.size v (CK ++ ntK b k) ∧ Keep wB wr) (fun _ i _ => dss.length - (intOf i).toNat)
      case atStart => exact ⟨0, _, rfl, Nat.zero_le _, rfl, ho0, hK⟩
      case round =>
        clear hK ho0
        obtain ⟨k, v, rfl, hk, rfl, ho, hK⟩ := hrel
        obtain ⟨b0, b1, b2, b3, b4, b5, b6, b7⟩ := BC.out _ hK
        by_cases hlt : k < dss.length
        · have i1 : (0 : Int) ≤ (k : Int) := Int.natCast_nonneg _
          have i2 : (k : Int) < (dss.length : Int) := by omega
          have hkn : k < b.nts.length := by rw [hpn.out]; exact hlt
          have i3 : (k : Int) < (b.nts.length : Int) := by omega
          have hN := HN.out.keep (kB.trans hK)
          obtain ⟨a', c', he', hN⟩ := hN
          simp only [Value.slice.injEq, true_and] at he'
          obtain ⟨rfl, rfl⟩ := he'
          rcases hN with h0 | ⟨bn, on, rfl, hbn, hcn'⟩
          · exfalso; rw [h0] at hkn; simp at hkn
          obtain ⟨vn, d3, r3⟩ := hcn' k hkn
          obtain ⟨an, cn, rfl, -⟩ := r3
          have hml2 := ntK_len b k
          have hml3 : (CK ++ ntK b k).length ≤ dss.length + k := by rw [List.length_append]; omega
          have hsz := hK.size
          have HH : 0 < (b.nts.getD k []).length → Hid (ntK b (k + 1) = ntK b k ++ [10 + (k : Int)]) := fun h => Lib.hid (ntK_hit h)
          have HZ : ¬ 0 < (b.nts.getD k []).length → Hid (ntK b (k + 1) = ntK b k) := fun h => Lib.hid (ntK_miss h)
          generalize b.nts.getD k [] = ns at *
          have i4 : IntKind.i64.wrap (10 + (k : Int)) = 10 + (k : Int) := by rw [IntKind.wrap_i64]; omega
          clear hcn'
          by_cases hz : 0 < ns.length
          · have HM : Hid (CK ++ ntK b (k + 1) = (CK ++ ntK b k) ++ [10 + (k : Int)]) := Lib.hid (by rw [(HH hz).out, List.append_assoc])
            have i5 : (0 : Int) < (ns.length : Int) := by omega
            clear HH HZ
            generalize CK ++ ntK b k = PK at *
            go_wp2_with (at_builtin; refine wpList_append_own _ rfl _ _ 25 rfl wB.heap.size 2 i0 (.int .i64 0) 1 8 Try.underlying25 hi hz0 hz1 hz2 rfl (by decide) _ _ _ rfl (World.ownsRow.alloc ho _) ⟨_, 0, none⟩ 1 1 [.int .i64 (10 + (k : Int))] rfl rfl ?c1 ?c2 ?c3 ?c4 ?c5 ?_)
            case c1 =>
              intro j u hj
              match j, hj with
              | 0, hj => simp at hj; subst hj; simp [Addr.add]
            case c2 => intro u hu; simp at hu; subst hu; rfl
            case c3 => unfold maxLen; omega
            case c4 => omega
            case c5 => simp; omega
            intro v' w1 hown' hgrow _
            have hK1 : Keep wB w1 := (hK.alloc _).grown hgrow ho.ge
            clear hgrow b0 b1 b2 b3 b4 b5 b6 b7
            go_wp2
            go_roundw
            case rel => exact ⟨k + 1, _, rfl, by omega, by go_num, by rw [HM.out]; exact own_hit hown', hK1⟩
            case measure => simp [intOf]; omega
          · have HM := HZ hz
            have i5 : ¬ ((0 : Int) < (ns.length : Int)) := by omega
            clear HH HZ
            go_wp2
            clear b0 b1 b2 b3 b4 b5 b6 b7
            go_roundw
            case rel => exact ⟨k + 1, _, rfl, by omega, by go_num, by rw [HM.out]; exact ho, hK⟩
            case measure => simp [intOf]; omega
        · obtain rfl : k = dss.length := by omega
          go_wp2
          go_ret
          exact ⟨_, rfl, by rw [← HP.out]; exact ho.base_le (by have := SB.out; omega), kB.trans hK⟩
def possB (dss : List (List Dd)) (b : Bd) : List Int := if boardB dss b = true then possM dss b else []
theorem specPossible_any (w : World) (v : BV) (dss : List (List Dd)) (b : Bd) (h : RdBd w v dss b) (hs : SzBd dss b) :
    Calls Try.prog 23 #[v.agg] w fun e w' => ∃ v', e = .returned v' ∧ Own w' w.heap.size v' (possB dss b) ∧ Keep w w' := by
  have C := fun (W : World) (kW : Keep w W) => specBoardOk_any W v dss b (h.keep kW) hs
  have CP := fun (W : World) (kW : Keep w W) (hb : boardB dss b = true) => l15Possible_any W v dss b (h.keep kW) (ps_of hb)
  obtain ⟨aW, aP, aL, aN, aX, aS, aF, aR, cW, cP, cL, cN, cX, cS, cF, cR, rfl⟩ := h.shapes
  have BC : Hid (∀ (W : World), Keep (w.alloc (.cells #[.slice aW dss.length cW, .slice aP b.plc.length cP, .slice aL b.lst.length cL, .slice aN b.nts.length cN, .slice aX b.nxt.length cX, .slice aS b.sn.length cS, .slice aF b.fr.length cF, .slice aR b.rws.length cR] 29)) W → W.cell? ⟨w.heap.size, 0, none⟩ = some (.slice aW dss.length cW) ∧ W.cell? ⟨w.heap.size, 1, none⟩ = some (.slice aP b.plc.length cP) ∧ W.cell? ⟨w.heap.size, 2, none⟩ = some (.slice aL b.lst.length cL) ∧ W.cell? ⟨w.heap.size, 3, none⟩ = some (.slice aN b.nts.length cN) ∧ W.cell? ⟨w.heap.size, 4, none⟩ = some (.slice aX b.nxt.length cX) ∧ W.cell? ⟨w.heap.size, 5, none⟩ = some (.slice aS b.sn.length cS) ∧ W.cell? ⟨w.heap.size, 6, none⟩ = some (.slice aF b.fr.length cF) ∧ W.cell? ⟨w.heap.size, 7, none⟩ = some (.slice aR b.rws.length cR)) := Lib.hid (fun W k => ⟨box_cell k 0, box_cell k 1, box_cell k 2, box_cell k 3, box_cell k 4, box_cell k 5, box_cell k 6, box_cell k 7⟩)
  cases hb : boardB dss b
  · have HE : Hid (possB dss b = []) := Lib.hid (by rw [possB, hb]; rfl)
    rw [hb] at C
    clear CP
    go_enter Try.func23, Try.ntmps23
    go_wp2_with fail
    refine (C _ ((Keep.refl w).alloc _)).mono ?_
    rintro e w1 ⟨rfl, k1⟩
    have K1 := ((Keep.refl w).alloc _).trans k1
    have s1 := K1.size
    have o0 : Own (w1.alloc (.cells #[] 2)) w1.heap.size (.slice (some ⟨w1.heap.size, 0, none⟩) 0 0) [] := World.ownsRow_lit w1 #[] 0 (Nat.le_refl _) (by decide) rfl
    go_wp2
    go_ret
    exact ⟨_, rfl, by rw [HE.out]; exact o0.base_le s1, K1.alloc _⟩
  · have HE : Hid (possB dss b = possM dss b) := Lib.hid (by rw [possB, if_pos hb])
    have CP := fun (W : World) (kW : Keep w W) => CP W kW hb
    rw [hb] at C
    go_enter Try.func23, Try.ntmps23
    go_wp2_with fail
    refine (C _ ((Keep.refl w).alloc _)).mono ?_
    rintro e w1 ⟨rfl, k1⟩
    have K1 := ((Keep.refl w).alloc _).trans k1
    have s1 := K1.size
    obtain ⟨b0, b1, b2, b3, b4, b5, b6, b7⟩ := BC.out _ k1
    clear BC C hb
    go_wp2_with fail
    refine (CP _ K1).mono ?_
    rintro e w2 ⟨v2, rfl, o2, k2⟩
    go_wp2
    go_ret
    exact ⟨_, rfl, by rw [HE.out]; exact o2.base_le s1, K1.trans k2⟩
theorem row_only {w w' : World} {base lo hi : Nat} {v : Value} {zs : List Int} (h : Row w base v zs) (k : Only lo hi w w') (hb : hi ≤ base) : Row w' base v zs := by
  rcases h with h | ⟨g, cap, hv, hg, hr⟩
  · exact .inl h
  · have hlt := hr.lt
    obtain ⟨cur, e, hh, ht⟩ := hr
    exact .inr ⟨g, cap, hv, hg, cur, e, (k.block g hlt (.inr (Nat.le_trans hb hg))).trans hh, ht⟩
theorem possB_len (dss : List (List Dd)) (b : Bd) : (possB dss b).length ≤ 1048576 := by
  unfold possB
  cases h : boardB dss b with
  | false => simp
  | true =>
    have h3 : dss.length ≤ 3 := (work_small (board_all h).1).1
    have e1 := canK_len dss b dss.length
    have e2 := ntK_len b dss.length
    have : (possM dss b).length = (canK dss b dss.length).length + (ntK b dss.length).length := by rw [← poss_same, List.length_append]
    simp
    omega
end Go.Proofs.Ytgakfkjjkobpiaa
