/- Contracts of the program's tests of two events: does one stand behind the other, are they at one place, is a line kept. -/
import Derived.Test.YtefdhogmjijkgaaColPlain
import Derived.Test.YtefdhogmjijkgaaMA
import Derived.Test.YtefdhogmjijkgaaEvRow
import Derived.Test.YtefdhogmjijkgaaRow
import Derived.Outline
import Derived.BigRegion
import Derived.RegionTactic
import Derived.Deep.RegionHeld3
import Derived.Deep.QuietTactic
import Derived.BigQuiet
import Derived.Lib.Hide
import Derived.Laws.StructEq
namespace Go.Proofs.Ytefdhogmjijkgaa
open Go.ChangeShapes Go.WideShapes Go.ChangeAt Go.RowKit

abbrev eA (i q : Int) (r : Bool) (pl vl c : Int) : Value := .agg #[.int .i64 i, .int .i64 q, .bool r, .int .i64 pl, .int .i64 vl, .int .i64 c]
theorem isBehind_any (w : World) (x0 x1 : Int) (x2 : Bool) (x3 x4 x5 y0 y1 : Int) (y2 : Bool) (y3 y4 y5 : Int) :
    Calls Try.prog 54 #[eA x0 x1 x2 x3 x4 x5, eA y0 y1 y2 y3 y4 y5] w fun e w' => e = .returned (.bool (isbE (x0, x1, x2, x3, x4, x5) (y0, y1, y2, y3, y4, y5))) ∧ Keep w w' := by
  by_cases hy : y0 = -1
  · subst hy
    go_enter Try.func54, Try.ntmps54
    go_wp2
    go_ret
    exact ⟨rfl, ((Keep.refl w).alloc _).alloc _⟩
  · have yb : (y0 == -1) = false := by simp [hy]
    have yn : (y0 != -1) = true := by simp [hy]
    by_cases hx : x0 = -1
    · have HE : Hid (isbE (x0, x1, x2, x3, x4, x5) (y0, y1, y2, y3, y4, y5) = true) := Lib.hid (by unfold isbE; simp [hx, hy])
      subst hx
      clear hy
      go_enter Try.func54, Try.ntmps54
      go_wp2
      go_ret
      exact ⟨by rw [HE.out]; rfl, ((Keep.refl w).alloc _).alloc _⟩
    · have xb : (x0 == -1) = false := by simp [hx]
      have HE : Hid (isbE (x0, x1, x2, x3, x4, x5) (y0, y1, y2, y3, y4, y5) = (x0 == y0)) := Lib.hid (by unfold isbE; simp only; rw [yn, xb]; rfl)
      clear hx hy
      go_enter Try.func54, Try.ntmps54
      go_wp2
      go_ret
      exact ⟨by rw [HE.out]; rfl, ((Keep.refl w).alloc _).alloc _⟩
theorem areAt_any (w : World) (x0 x1 : Int) (x2 : Bool) (x3 x4 x5 y0 y1 : Int) (y2 : Bool) (y3 y4 y5 : Int) :
    Calls Try.prog 33 #[eA x0 x1 x2 x3 x4 x5, eA y0 y1 y2 y3 y4 y5] w fun e w' => e = .returned (.bool (onpE (x0, x1, x2, x3, x4, x5) (y0, y1, y2, y3, y4, y5))) ∧ Keep w w' := by
  go_enter Try.func33, Try.ntmps33
  go_wp2
  go_ret
  exact ⟨rfl, ((Keep.refl w).alloc _).alloc _⟩
theorem isAtOnce_any (w : World) (k p v g : Int) :
    Calls Try.prog 57 #[deedV k p v g] w fun e w' => e = .returned (.bool (onceD (k, p, v, g))) ∧ Keep w w' := by
  by_cases hk : k = 3
  · subst hk
    go_enter Try.func57, Try.ntmps57
    go_wp2
    go_ret
    exact ⟨rfl, (Keep.refl w).alloc _⟩
  · have kb : (k == 3) = false := by simp [hk]
    have HE : Hid (onceD (k, p, v, g) = (g != 0)) := Lib.hid (by unfold onceD; simp [hk])
    clear hk
    go_enter Try.func57, Try.ntmps57
    go_wp2
    go_ret
    exact ⟨by rw [HE.out]; rfl, (Keep.refl w).alloc _⟩
set_option maxRecDepth 100000 in
set_option maxHeartbeats 2000000 in
theorem deedOf_any (w : World) (v : Value) (dss : List (List Dd)) (h : RdW w v dss) (i k : Nat) (r : Bool) (pl vl cl : Int) (hi : i < dss.length) (hk : k < (dss.getD i []).length) :
    Calls Try.prog 58 #[v, eA i k r pl vl cl] w fun e w' => e = .returned (dV ((dss.getD i []).getD k zD)) ∧ Keep w w' := by
  obtain ⟨a, c, rfl, h⟩ := h
  rcases h with h | ⟨b, o, rfl, hb, hc⟩
  · exfalso; rw [h] at hi; simp at hi
  obtain ⟨u, e1, r1⟩ := hc i hi
  clear hc
  obtain ⟨ds, hds⟩ : ∃ ds, ds = dss.getD i [] := ⟨_, rfl⟩
  rw [← hds] at r1 hk ⊢
  clear hds
  obtain ⟨ai, ci, rfl, r1⟩ := r1
  rcases r1 with h | ⟨b2, o2, rfl, hb2, hc2⟩
  · exfalso; rw [h] at hk; simp at hk
  have AT := hc2 k hk
  clear hc2
  obtain ⟨d, hd⟩ : ∃ d, d = ds.getD k zD := ⟨_, rfl⟩
  rw [← hd] at AT ⊢
  clear hd
  obtain ⟨x0, x1, x2, x3⟩ := d
  obtain ⟨A0, A1, A2, A3⟩ := AT
  simp only at A0 A1 A2 A3
  have i1 : (0 : Int) ≤ (i : Int) := Int.natCast_nonneg _
  have i2 : (i : Int) < (dss.length : Int) := by omega
  have j1 : (0 : Int) ≤ (k : Int) := Int.natCast_nonneg _
  have j2 : (k : Int) < (ds.length : Int) := by omega
  go_enter Try.func58, Try.ntmps58
  go_wp2
  go_region
  all_goals
    go_wp2
    refine bodyPost_ret (results_row (by rfl) _ _ (w.heap.size + 1) 54 #[.int .i64 x0, .int .i64 x1, .int .i64 x2, .int .i64 x3] (0, 0) _ rfl (by simp only [heap_at, heap_drew, heap_size]; repeat (first | exact if_pos rfl | exact if_pos trivial | rw [if_neg (by omega)])) Try.underlying54 rfl (by kernel_rfl)) rfl ?_
    exact ⟨rfl, by first | exact (((Keep.refl w).alloc _).drew).alloc _ | exact ((((Keep.refl w).alloc _)).alloc _).drew⟩
theorem eqDd (x0 x1 x2 x3 y0 y1 y2 y3 : Int) (w : World) : (Op.equalIn 10000 54 (deedV x0 x1 x2 x3) (deedV y0 y1 y2 y3)).run Try.prog w = .ok (x0 == y0 && (x1 == y1 && (x2 == y2 && x3 == y3))) w := by
  have u3 := Try.underlying2
  have a3 := Try.isAgg2
  have z3 := Try.sizeOf2
  have hS : Try.prog.underlying 54 = some (.struct (Try.prog.fieldsOf 54)) := by kernel_rfl
  have hp : Try.prog.stoodInHeld 54 = false := by kernel_rfl
  rw [show (10000 : Nat) = 9999 + 1 from rfl, run_equalIn_agg w 9999 54 _ _ hS hp]
  simp only [Program.fieldsOf, Try.underlying54]
  go_simp
  by_cases h1 : x0 = y0 <;> by_cases h2 : x1 = y1 <;> by_cases h3 : x2 = y2 <;> by_cases h4 : x3 = y3 <;> simp [h1, h2, h3, h4]
set_option maxRecDepth 100000 in
set_option maxHeartbeats 2000000 in
theorem dIndex_any (w : World) (b off n cap : Nat) (f : Nat → Dd) (hb : b < w.heap.size) (hc : ∀ i, i < n → AtD w b (off + i * 4) (f i)) (hn : n ≤ 1048576) :
    Calls Try.prog 94 #[.slice (some ⟨b, off, none⟩) n cap, deedV 4 0 0 0] w fun e w' => ∃ r : Int, e = .returned (.int .i64 r) ∧ decide (0 ≤ r) = (List.range n).any (fun i => f i == wtD) ∧ Keep w w' := by
  obtain ⟨ob, hob⟩ : ∃ ob, ob = (Obj.cells #[.int .i64 4, .int .i64 0, .int .i64 0, .int .i64 0] 54) := ⟨_, rfl⟩
  go_enter Try.func94, Try.ntmps94
  go_wp2
  go_loopw [8] (fun s wr => ∃ k : Nat, k ≤ n ∧ s = .int .i64 k ∧ Hid (∀ j, j < k → f j ≠ wtD) ∧ Keep (w.alloc (.cells #[.int .i64 4, .int .i64 0, .int .i64 0, .int .i64 0] 54)) wr) (fun s _ => n - (intOf s).toNat)
  case atStart => exact ⟨0, Nat.zero_le _, rfl, Lib.hid (fun j h => by omega), Keep.refl _⟩
  case round =>
    obtain ⟨k, hk, rfl, HN, hK⟩ := hrel
    by_cases hlt : k < n
    · have AT := ((hc k hlt).keep hb ((Keep.refl w).alloc (.cells #[.int .i64 4, .int .i64 0, .int .i64 0, .int .i64 0] 54))).keep (Nat.lt_of_lt_of_le hb ((Keep.refl w).alloc _).size) hK
      have c0 : wr.cell? ⟨w.heap.size, 0, none⟩ = some (.int .i64 4) := by rw [hK.cell (by simp)]; simp
      have c1 : wr.cell? ⟨w.heap.size, 1, none⟩ = some (.int .i64 0) := by rw [hK.cell (by simp)]; simp
      have c2 : wr.cell? ⟨w.heap.size, 2, none⟩ = some (.int .i64 0) := by rw [hK.cell (by simp)]; simp
      have c3 : wr.cell? ⟨w.heap.size, 3, none⟩ = some (.int .i64 0) := by rw [hK.cell (by simp)]; simp
      clear hc
      have HY : f k = wtD → Hid ((List.range n).any (fun i => f i == wtD) = true) := fun e => Lib.hid (by rw [List.any_eq_true]; exact ⟨k, List.mem_range.2 hlt, by rw [e]; simp⟩)
      have HX : f k ≠ wtD → Hid (∀ j, j < k + 1 → f j ≠ wtD) := fun h4 => Lib.hid (fun j h2 => by
        by_cases e : j = k
        · subst e; exact h4
        · exact HN.out j (by omega))
      generalize f k = d at AT HY HX
      clear HN
      obtain ⟨x0, x1, x2, x3⟩ := d
      obtain ⟨A0, A1, A2, A3⟩ := AT
      simp only at A0 A1 A2 A3
      have j1 : (0 : Int) ≤ (k : Int) := Int.natCast_nonneg _
      have j2 : (k : Int) < (n : Int) := by omega
      have EG : Try.prog.eqGuardType Try.prog.depth 54 = false := by kernel_rfl
      by_cases hd : (x0, x1, x2, x3) = wtD
      · have HE := HY hd
        unfold wtD at hd
        rw [Prod.mk.injEq, Prod.mk.injEq, Prod.mk.injEq] at hd
        obtain ⟨rfl, rfl, rfl, rfl⟩ := hd
        have EQ : ∀ w : World, (Op.equalIn 10000 54 (deedV 4 0 0 0) (deedV 4 0 0 0)).run Try.prog w = .ok true w := fun w => eqDd 4 0 0 0 4 0 0 0 w
        clear HY HX
        go_wp2_with fail
        go_quiet (fail)
        go_wp2
        go_ret
        refine ⟨k, rfl, ?_, ((Keep.refl w).alloc _).trans (hK.grown (grown_draw wr _ none) (by simp))⟩
        rw [HE.out]
        exact decide_eq_true j1
      · have HE := HX hd
        have EB : (4 == x0 && (0 == x1 && (0 == x2 && 0 == x3))) = false := by
          cases hq : (4 == x0 && (0 == x1 && (0 == x2 && 0 == x3))) with
          | false => rfl
          | true =>
            exfalso
            apply hd
            simp only [Bool.and_eq_true, beq_iff_eq] at hq
            unfold wtD
            rw [← hq.1, ← hq.2.1, ← hq.2.2.1, ← hq.2.2.2]
        have EQ : ∀ w : World, (Op.equalIn 10000 54 (deedV 4 0 0 0) (deedV x0 x1 x2 x3)).run Try.prog w = .ok false w := fun w => by rw [eqDd 4 0 0 0 x0 x1 x2 x3 w, EB]
        clear HY HX hd EB
        go_wp2_with fail
        go_quiet (fail)
        go_wp2
        go_roundw
        case rel => exact ⟨k + 1, by omega, by go_num, HE, hK.grown (grown_draw wr _ none) (by simp)⟩
        case measure => simp [intOf]; omega
    · obtain rfl : k = n := by omega
      have HE : Hid ((List.range k).any (fun i => f i == wtD) = false) := Lib.hid (by
        rw [List.any_eq_false]
        intro i hi
        simpa using HN.out i (List.mem_range.1 hi))
      clear HN
      go_wp2
      go_ret
      exact ⟨-1, rfl, by rw [HE.out]; rfl, ((Keep.refl w).alloc _).trans hK⟩
theorem dHas_any (w : World) (b off n cap : Nat) (f : Nat → Dd) (hb : b < w.heap.size) (hc : ∀ i, i < n → AtD w b (off + i * 4) (f i)) (hn : n ≤ 1048576) :
    Calls Try.prog 82 #[.slice (some ⟨b, off, none⟩) n cap, deedV 4 0 0 0] w fun e w' => e = .returned (.bool ((List.range n).any (fun i => f i == wtD))) ∧ Keep w w' := by
  have C := dIndex_any (w.alloc (.cells #[.int .i64 4, .int .i64 0, .int .i64 0, .int .i64 0] 54)) b off n cap f (Nat.lt_of_lt_of_le hb ((Keep.refl w).alloc _).size) (fun i hi => (hc i hi).keep hb ((Keep.refl w).alloc _)) hn
  generalize (List.range n).any (fun i => f i == wtD) = B at C ⊢
  clear hc
  go_enter Try.func82, Try.ntmps82
  go_wp2_with fail
  refine C.mono ?_
  rintro e w1 ⟨r, rfl, hr, k1⟩
  go_wp2
  go_ret
  exact ⟨by rw [← hr]; rfl, ((Keep.refl w).alloc _).trans k1⟩
set_option maxRecDepth 100000 in
set_option maxHeartbeats 2000000 in
theorem waitsB_any (w : World) (v : Value) (dss : List (List Dd)) (h : RdW w v dss) (i p q : Nat) (r : Bool) (pl vl cl i' : Int) (r' : Bool) (pl' vl' cl' : Int) (hi : i < dss.length) (hp : p < q) (hq : q < (dss.getD i []).length) (hl : (dss.getD i []).length ≤ 1048576) :
    Calls Try.prog 59 #[v, eA i p r pl vl cl, eA i' q r' pl' vl' cl'] w fun e w' => e = .returned (.bool (btwD (dss.getD i []) p q)) ∧ Keep w w' := by
  obtain ⟨a, c, rfl, h⟩ := h
  rcases h with h | ⟨b, o, rfl, hb, hc⟩
  · exfalso; rw [h] at hi; simp at hi
  obtain ⟨u, e1, r1⟩ := hc i hi
  clear hc
  obtain ⟨ds, hds⟩ : ∃ ds, ds = dss.getD i [] := ⟨_, rfl⟩
  rw [← hds] at r1 hq hl ⊢
  clear hds
  obtain ⟨ai, ci, rfl, r1⟩ := r1
  rcases r1 with h | ⟨b2, o2, rfl, hb2, hc2⟩
  · exfalso; rw [h] at hq; simp at hq
  have i1 : (0 : Int) ≤ (i : Int) := Int.natCast_nonneg _
  have i2 : (i : Int) < (dss.length : Int) := by omega
  have p1 : (0 : Int) ≤ (p : Int) := Int.natCast_nonneg _
  have p2 : (p : Int) ≤ (q : Int) := by omega
  have q1 : (q : Int) ≤ (ds.length : Int) := by omega
  have q2 : (q : Int) ≤ (ds.length : Int) + (ci : Int) := by omega
  have C : ∀ w1 : World, Keep w w1 → Calls Try.prog 82 #[.slice (if ds.length + ci = p then some ⟨b2, o2, none⟩ else some ⟨b2, o2 + p * 4, none⟩) (q - p) (ds.length + ci - p), deedV 4 0 0 0] w1 fun e w' => e = .returned (.bool (btwD ds p q)) ∧ Keep w1 w' := fun w1 k1 => by
    rw [if_neg (by omega)]
    refine dHas_any w1 b2 (o2 + p * 4) (q - p) _ (fun j => ds.getD (p + j) zD) (Nat.lt_of_lt_of_le hb2 k1.size) (fun j hj => ?_) (by omega)
    have := (hc2 (p + j) (by omega)).keep hb2 k1
    rw [show o2 + (p + j) * 4 = o2 + p * 4 + j * 4 by omega] at this
    exact this
  generalize btwD ds p q = B at C ⊢
  clear hc2
  go_enter Try.func59, Try.ntmps59
  go_wp2_with fail
  go_region_held3 (fun w' => w'.cell? ⟨b, o + i, none⟩ = some (.slice (some ⟨b2, o2, none⟩) ds.length (ds.length + ci)) ∧ w'.cell? ⟨w.heap.size, 0, none⟩ = some (.int .i64 i) ∧ w'.cell? ⟨w.heap.size, 1, none⟩ = some (.int .i64 p) ∧ w'.cell? ⟨w.heap.size + 1, 1, none⟩ = some (.int .i64 q))
    (first | go_keep | (go_split_ands; refine ⟨?_, ?_, ?_, ?_⟩ <;> (rw [kk.cell (by simp only [heap_drew, heap_size]; omega)]; assumption)))
    ((go_at_call 82; refine (C _ ?_).mono ?_; exact (((Keep.refl w).alloc _).alloc _).drew; rintro e wz ⟨rfl, kk⟩))
  all_goals
    go_wp2
    go_ret
    exact ⟨rfl, ((((Keep.refl w).alloc _).alloc _).drew).trans kk⟩
theorem box_two {w w1 : World} {x0 x1 : Int} {x2 : Bool} {x3 x4 x5 y0 y1 : Int} {y2 : Bool} {y3 y4 y5 : Int} {t t' : TypeId}
    (k : Keep ((w.alloc (.cells #[.int .i64 x0, .int .i64 x1, .bool x2, .int .i64 x3, .int .i64 x4, .int .i64 x5] t)).alloc (.cells #[.int .i64 y0, .int .i64 y1, .bool y2, .int .i64 y3, .int .i64 y4, .int .i64 y5] t')) w1) :
    (w1.cell? ⟨w.heap.size, 0, none⟩ = some (.int .i64 x0) ∧ w1.cell? ⟨w.heap.size, 1, none⟩ = some (.int .i64 x1) ∧ w1.cell? ⟨w.heap.size, 2, none⟩ = some (.bool x2) ∧ w1.cell? ⟨w.heap.size, 3, none⟩ = some (.int .i64 x3) ∧ w1.cell? ⟨w.heap.size, 4, none⟩ = some (.int .i64 x4) ∧ w1.cell? ⟨w.heap.size, 5, none⟩ = some (.int .i64 x5)) ∧ (w1.cell? ⟨w.heap.size + 1, 0, none⟩ = some (.int .i64 y0) ∧ w1.cell? ⟨w.heap.size + 1, 1, none⟩ = some (.int .i64 y1) ∧ w1.cell? ⟨w.heap.size + 1, 2, none⟩ = some (.bool y2) ∧ w1.cell? ⟨w.heap.size + 1, 3, none⟩ = some (.int .i64 y3) ∧ w1.cell? ⟨w.heap.size + 1, 4, none⟩ = some (.int .i64 y4) ∧ w1.cell? ⟨w.heap.size + 1, 5, none⟩ = some (.int .i64 y5)) := by
  have h0 : ∀ i : Nat, w1.cell? ⟨w.heap.size, i, none⟩ = (#[Value.int .i64 x0, .int .i64 x1, .bool x2, .int .i64 x3, .int .i64 x4, .int .i64 x5])[i]? := fun i => by
    rw [k.cell (by simp only [heap_size]; omega), (((Keep.refl (w.alloc _)).alloc _)).cell (by simp only [heap_size]; omega)]
    exact box_cell (Keep.refl _) i
  have h1 : ∀ i : Nat, w1.cell? ⟨w.heap.size + 1, i, none⟩ = (#[Value.int .i64 y0, .int .i64 y1, .bool y2, .int .i64 y3, .int .i64 y4, .int .i64 y5])[i]? := fun i => by
    have := box_cell k i
    rw [heap_size] at this
    exact this
  exact ⟨⟨h0 0, h0 1, h0 2, h0 3, h0 4, h0 5⟩, ⟨h1 0, h1 1, h1 2, h1 3, h1 4, h1 5⟩⟩
set_option maxRecDepth 100000 in
set_option maxHeartbeats 2000000 in
theorem keeps_any (w : World) (v : Value) (dss : List (List Dd)) (h : RdW w v dss) (hl : ∀ i, i < dss.length → (dss.getD i []).length ≤ 1048576) (x0 x1 : Int) (x2 : Bool) (x3 x4 x5 y0 y1 : Int) (y2 : Bool) (y3 y4 y5 : Int)
    (hk : x0 = -1 ∨ ∃ c p q : Nat, x0 = (c : Int) ∧ x1 = (p : Int) ∧ y0 = (c : Int) ∧ y1 = (q : Int) ∧ c < dss.length ∧ (p < q ∨ (p = q ∧ ((dss.getD c []).getD p zD).1 = 3)) ∧ q < (dss.getD c []).length) :
    Calls Try.prog 32 #[v, eA x0 x1 x2 x3 x4 x5, eA y0 y1 y2 y3 y4 y5] w fun e w' => e = .returned (.bool (keepE dss (x0, x1, x2, x3, x4, x5) (y0, y1, y2, y3, y4, y5))) ∧ Keep w w' := by
  rcases hk with rfl | ⟨c, p, q, rfl, rfl, rfl, rfl, hc, hpq, hq⟩
  · have HE : Hid (keepE dss (-1, x1, x2, x3, x4, x5) (y0, y1, y2, y3, y4, y5) = true) := Lib.hid (by unfold keepE; rfl)
    go_enter Try.func32, Try.ntmps32
    go_wp2
    go_ret
    exact ⟨by rw [HE.out]; rfl, ((Keep.refl w).alloc _).alloc _⟩
  · have cb : ((c : Int) == -1) = false := by simp
    have HK : Hid (keepE dss ((c : Int), (p : Int), x2, x3, x4, x5) ((c : Int), (q : Int), y2, y3, y4, y5) = (x2 || (!y2 || (onceD ((dss.getD c []).getD p zD) || (onceD ((dss.getD c []).getD q zD) || btwD (dss.getD c []) p q))))) := Lib.hid (by
      unfold keepE dOf
      simp only [Int.toNat_natCast]
      rw [cb, Bool.false_or]
      simp only [Bool.or_assoc])
    cases x2
    · cases y2
      · have HE : Hid (keepE dss ((c : Int), (p : Int), false, x3, x4, x5) ((c : Int), (q : Int), false, y3, y4, y5) = true) := Lib.hid (by rw [HK.out]; rfl)
        clear HK
        go_enter Try.func32, Try.ntmps32
        go_wp2
        go_ret
        exact ⟨by rw [HE.out]; rfl, ((Keep.refl w).alloc _).alloc _⟩
      · have D1 := fun (w1 : World) (k1 : Keep w w1) (r : Bool) (a b e : Int) => deedOf_any w1 v dss (h.keep k1) c p r a b e hc (by omega)
        have D2 := fun (w1 : World) (k1 : Keep w w1) (r : Bool) (a b e : Int) => deedOf_any w1 v dss (h.keep k1) c q r a b e hc hq
        have W := fun (w1 : World) (k1 : Keep w w1) (hp : p < q) => waitsB_any w1 v dss (h.keep k1) c p q false x3 x4 x5 c true y3 y4 y5 hc hp hq (hl c hc)
        clear h hl
        generalize btwD (dss.getD c []) p q = B at HK W
        have hp3 : onceD ((dss.getD c []).getD p zD) = false → p < q := fun hf => by
          rcases hpq with h1 | ⟨_, h2⟩
          · exact h1
          · unfold onceD at hf
            rw [h2] at hf
            simp at hf
        clear hpq
        obtain ⟨d1, hd1⟩ : ∃ d, d = (dss.getD c []).getD p zD := ⟨_, rfl⟩
        obtain ⟨d2, hd2⟩ : ∃ d, d = (dss.getD c []).getD q zD := ⟨_, rfl⟩
        rw [← hd1] at D1 HK hp3
        rw [← hd2] at D2 HK
        clear hd1 hd2
        obtain ⟨k1, p1, v1, g1⟩ := d1
        obtain ⟨k2, p2, v2, g2⟩ := d2
        have A1 := fun w1 => isAtOnce_any w1 k1 p1 v1 g1
        have A2 := fun w1 => isAtOnce_any w1 k2 p2 v2 g2
        generalize onceD (k1, p1, v1, g1) = o1 at HK A1 hp3
        generalize onceD (k2, p2, v2, g2) = o2 at HK A2
        go_enter Try.func32, Try.ntmps32
        go_wp2_with fail
        refine (D1 _ (((Keep.refl w).alloc _).alloc _) _ _ _ _).mono ?_
        rintro e w1 ⟨rfl, k1⟩
        go_wp2_with fail
        refine (A1 _).mono ?_
        rintro e w2 ⟨rfl, k2⟩
        have B2 := k1.trans k2
        have K2 := (((Keep.refl w).alloc _).alloc _).trans B2
        obtain ⟨⟨a0, a1, a2, a3, a4, a5⟩, ⟨b0, b1, b2, b3, b4, b5⟩⟩ := box_two B2
        clear k1 k2
        cases o1
        · have hp := hp3 rfl
          go_wp2_with fail
          refine (D2 _ K2 _ _ _ _).mono ?_
          rintro e w3 ⟨rfl, k3⟩
          clear a0 a1 a2 a3 a4 a5 b0 b1 b2 b3 b4 b5
          go_wp2_with fail
          refine (A2 _).mono ?_
          rintro e w4 ⟨rfl, k4⟩
          have B4 := (B2.trans k3).trans k4
          have K4 := (K2.trans k3).trans k4
          obtain ⟨⟨a0, a1, a2, a3, a4, a5⟩, ⟨b0, b1, b2, b3, b4, b5⟩⟩ := box_two B4
          clear k3 k4 B2 K2
          cases o2
          · go_wp2_with fail
            refine (W _ K4 hp).mono ?_
            rintro e w5 ⟨rfl, k5⟩
            go_wp2
            go_ret
            exact ⟨by rw [HK.out]; rfl, K4.trans k5⟩
          · go_wp2
            go_ret
            exact ⟨by rw [HK.out]; rfl, K4⟩
        · go_wp2
          go_ret
          exact ⟨by rw [HK.out]; rfl, K2⟩
    · have HE : Hid (keepE dss ((c : Int), (p : Int), true, x3, x4, x5) ((c : Int), (q : Int), y2, y3, y4, y5) = true) := Lib.hid (by rw [HK.out]; rfl)
      clear HK
      go_enter Try.func32, Try.ntmps32
      go_wp2
      go_ret
      exact ⟨by rw [HE.out]; rfl, ((Keep.refl w).alloc _).alloc _⟩
end Go.Proofs.Ytefdhogmjijkgaa
