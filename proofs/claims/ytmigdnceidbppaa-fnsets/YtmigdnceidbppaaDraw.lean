/- Contracts of the cursor that the specification draws its inputs with: what is drawn lies in its range, and nothing but the cursor's own block and new memory is written. -/
import Derived.Test.YtmigdnceidbppaaBase
import Derived.Outline
import Derived.RegionTactic
import Derived.Deep.QuietTactic
import Derived.BigQuiet
namespace Go.Proofs.Ytmigdnceidbppaa
open Go.ChangeShapes Go.WideShapes Go.ChangeAt Go.RowKit

theorem and255 (a : Int) : 0 ≤ bits .and .i64 a 255 ∧ bits .and .i64 a 255 ≤ 255 := by
  have e : bits .and .i64 a 255 = IntKind.i64.wrap (((BitVec.ofInt 64 a &&& BitVec.ofInt 64 255).toNat : Nat) : Int) := rfl
  have h : (BitVec.ofInt 64 a &&& BitVec.ofInt 64 255).toNat ≤ 255 := by
    rw [BitVec.toNat_and]
    exact Nat.and_le_right
  rw [e, IntKind.wrap_i64]
  omega

/-- The bytes that a cursor reads, in memory below block B. -/
def RdB (w : World) (B : Nat) (a : Option Addr) (zs : List Int) : Prop :=
  zs.length ≤ 4096 ∧ (zs = [] ∨ ∃ b off, a = some ⟨b, off, none⟩ ∧ b < B ∧ b < w.heap.size ∧ ∀ i, i < zs.length → w.cell? ⟨b, off + i, none⟩ = some (.int .u8 (zs.getD i 0)) ∧ 0 ≤ zs.getD i 0 ∧ zs.getD i 0 ≤ 255)
/-- Block g is a cursor. -/
def Cur (w : World) (B g : Nat) : Prop :=
  B ≤ g ∧ ∃ (a : Option Addr) (cap : Nat) (zs : List Int) (i : Nat) (h : Int), w.heap[g]? = some (.cells #[.slice a zs.length cap, .int .i64 i, .int .i64 h] 65 (0, 0)) ∧ i ≤ zs.length ∧ RdB w B a zs
theorem RdB.kept {w w' : World} {B : Nat} {a : Option Addr} {zs : List Int} {row : Option Nat} (h : RdB w B a zs) (hg : w.grownBy w' row) (hr : ∀ k, row = some k → B ≤ k) : RdB w' B a zs := by
  refine ⟨h.1, ?_⟩
  rcases h.2 with h | ⟨b, off, ha, hb, hbs, hc⟩
  · exact .inl h
  · refine .inr ⟨b, off, ha, hb, Nat.lt_of_lt_of_le hbs hg.size, fun i hi => ⟨?_, (hc i hi).2⟩⟩
    rw [World.cell?_of_block (w := w) (hg.block b hbs (fun e => by have := hr b e.symm; omega))]
    exact (hc i hi).1
theorem RdB.up {w w' : World} {a : Option Addr} {zs : List Int} (h : RdB w w.heap.size a zs) (k : Keep w w') : RdB w' w'.heap.size a zs := by
  have h' := h.kept k.grownBy (by simp)
  refine ⟨h'.1, ?_⟩
  rcases h'.2 with e | ⟨b, off, ha, hb, hbs, hc⟩
  · exact .inl e
  · exact .inr ⟨b, off, ha, hbs, hbs, hc⟩
theorem Cur.lt {w : World} {B g : Nat} (h : Cur w B g) : g < w.heap.size := by
  obtain ⟨_, a, cap, zs, i, x, hh, _⟩ := h
  exact (Array.getElem?_eq_some_iff.1 hh).1
theorem Cur.kept {w w' : World} {B g : Nat} {row : Option Nat} (h : Cur w B g) (hg : w.grownBy w' row) (hne : row ≠ some g) (hr : ∀ k, row = some k → B ≤ k) : Cur w' B g := by
  have hlt := h.lt
  obtain ⟨hB, a, cap, zs, i, x, hh, hi, hb⟩ := h
  exact ⟨hB, a, cap, zs, i, x, by rw [hg.block g hlt (fun e => hne e.symm)]; exact hh, hi, hb.kept hg hr⟩
theorem Cur.keep {w w' : World} {B g : Nat} (h : Cur w B g) (k : Keep w w') : Cur w' B g := h.kept k.grownBy (by simp) (by simp)
def CurI (w : World) (B g : Nat) (a : Option Addr) (cap : Nat) (zs : List Int) (i h : Int) : Prop :=
  B ≤ g ∧ w.heap[g]? = some (.cells #[.slice a zs.length cap, .int .i64 i, .int .i64 h] 65 (0, 0)) ∧ RdB w B a zs
theorem CurI.cur {w : World} {B g : Nat} {a : Option Addr} {cap : Nat} {zs : List Int} {i h : Int} (c : CurI w B g a cap zs i h) (h0 : 0 ≤ i) (hi : i ≤ zs.length) : Cur w B g := by
  obtain ⟨n, rfl⟩ := Int.eq_ofNat_of_zero_le h0
  exact ⟨c.1, a, cap, zs, n, h, c.2.1, by omega, c.2.2⟩
theorem grown_setCell (w : World) (g j : Nat) (v : Value) : w.grownBy (w.setCell ⟨g, j, none⟩ v) (some g) :=
  ⟨rfl, rfl, rfl, by simp, fun k _ hk => heap_setCell_other w ⟨g, j, none⟩ k v (fun e => hk (by simp [e]))⟩
theorem CurI.seth {w : World} {B g : Nat} {a : Option Addr} {cap : Nat} {zs : List Int} {i h : Int} (c : CurI w B g a cap zs i h) (y : Int) : CurI (w.setCell ⟨g, 2, none⟩ (.int .i64 y)) B g a cap zs i y :=
  ⟨c.1, by rw [heap_setCell_same w g 2 _ _ _ c.2.1]; rfl, c.2.2.kept (grown_setCell w g 2 _) (by intro k hk; simp at hk; subst hk; exact c.1)⟩
theorem CurI.seti {w : World} {B g : Nat} {a : Option Addr} {cap : Nat} {zs : List Int} {i h : Int} (c : CurI w B g a cap zs i h) (y : Int) : CurI (w.setCell ⟨g, 1, none⟩ (.int .i64 y)) B g a cap zs y h :=
  ⟨c.1, by rw [heap_setCell_same w g 1 _ _ _ c.2.1]; rfl, c.2.2.kept (grown_setCell w g 1 _) (by intro k hk; simp at hk; subst hk; exact c.1)⟩
theorem grown_drewN (w : World) (n : Nat) (row : Option Nat) : w.grownBy (w.drewN n) row := ⟨rfl, rfl, rfl, Nat.le_refl _, fun _ _ _ => rfl⟩
theorem CurI.drewN {w : World} {B g : Nat} {a : Option Addr} {cap : Nat} {zs : List Int} {i h : Int} (c : CurI w B g a cap zs i h) (n : Nat) : CurI (w.drewN n) B g a cap zs i h :=
  ⟨c.1, c.2.1, c.2.2.kept (row := none) (grown_drewN w n none) (by simp)⟩
set_option maxHeartbeats 1000000 in
theorem byte_any (w : World) (B g : Nat) (hc : Cur w B g) :
    Calls Try.prog 69 #[.pointer (some ⟨g, 0, none⟩)] w fun e w' => ∃ x, e = .returned (.int .i64 x) ∧ 0 ≤ x ∧ x ≤ 255 ∧ Cur w' B g ∧ w.grownBy w' (some g) := by
  obtain ⟨hB, a, cap, zs, i, x, hh, hi, hb⟩ := hc
  have C : CurI w B g a cap zs i x := ⟨hB, hh, hb⟩
  have c0 : w.cell? ⟨g, 0, none⟩ = some (.slice a zs.length cap) := by rw [cell_of_row w g 0 _ _ (0, 0) hh]; rfl
  have c1 : w.cell? ⟨g, 1, none⟩ = some (.int .i64 i) := by rw [cell_of_row w g 1 _ _ (0, 0) hh]; rfl
  have c2 : w.cell? ⟨g, 2, none⟩ = some (.int .i64 x) := by rw [cell_of_row w g 2 _ _ (0, 0) hh]; rfl
  have f1 : w.frozen? ⟨g, 1, none⟩ = false := frozen_of_row w g 1 _ _ hh
  have f2 : w.frozen? ⟨g, 2, none⟩ = false := frozen_of_row w g 2 _ _ hh
  clear hh
  have hzl := hb.1
  by_cases hlt : i < zs.length
  · rcases hb.2 with h | ⟨b, off, rfl, hbB, hbs, hcc⟩
    · exfalso; rw [h] at hlt; simp at hlt
    obtain ⟨d1, d2, d3⟩ := hcc i hlt
    have hbg : b ≠ g := by omega
    obtain ⟨q, hq⟩ : ∃ q, q = zs.getD i 0 := ⟨_, rfl⟩
    rw [← hq] at d1 d2 d3
    clear hcc hq hb
    go_enter Try.func69, Try.ntmps69
    go_wp2
    go_quiet (fail)
    go_wp2
    go_quiet (fail)
    go_wp2
    go_quiet (fail)
    go_wp2
    go_ret
    exact ⟨_, rfl, (and255 _).1, (and255 _).2, (((C.seth _).drewN _).seti _).cur (by omega) (by omega), grown_trans (grown_trans (grown_setCell w g 2 _) (grown_drewN _ _ _)) (grown_setCell _ g 1 _)⟩
  · clear hb
    go_enter Try.func69, Try.ntmps69
    go_wp2
    go_quiet (fail)
    go_wp2
    go_quiet (fail)
    go_wp2
    go_ret
    exact ⟨_, rfl, (and255 _).1, (and255 _).2, (((C.seth _).drewN _).drewN _).cur (by omega) (by omega), grown_trans (grown_trans (grown_setCell w g 2 _) (grown_drewN _ _ _)) (grown_drewN _ _ _)⟩
set_option maxHeartbeats 400000 in
theorem new_any (w : World) (a : Option Addr) (cap : Nat) (zs : List Int) (hb : RdB w w.heap.size a zs) :
    Calls Try.prog 41 #[.slice a zs.length cap] w fun e w' => e = .returned (.pointer (some ⟨w.heap.size, 0, none⟩)) ∧ Cur w' w.heap.size w.heap.size ∧ Keep w w' := by
  have hzl := hb.1
  go_enter Try.func41, Try.ntmps41
  go_wp2
  go_loop [3, 4] (fun x i => ∃ (k : Nat) (h : Int), k ≤ zs.length ∧ i = .int .i64 k ∧ x = .int .i64 h) (fun _ i => zs.length - (intOf i).toNat)
  case atStart => exact ⟨0, _, Nat.zero_le _, rfl, rfl⟩
  case round =>
    obtain ⟨k, h, hk, rfl, rfl⟩ := hrel
    by_cases hlt : k < zs.length
    · rcases hb.2 with h | ⟨b, off, rfl, hbB, hbs, hcc⟩
      · exfalso; rw [h] at hlt; simp at hlt
      obtain ⟨d1, d2, d3⟩ := hcc k hlt
      obtain ⟨q, hq⟩ : ∃ q, q = zs.getD k 0 := ⟨_, rfl⟩
      rw [← hq] at d1 d2 d3
      clear hcc hq
      go_wp2
      go_round
      case rel => exact ⟨k + 1, _, by omega, by go_num, rfl⟩
      case measure => simp [intOf]; omega
    · go_wp2
      go_ret
      refine ⟨rfl, ⟨Nat.le_refl _, a, cap, zs, 0, h, heap_alloc_new w _, Nat.zero_le _, ?_⟩, (Keep.refl w).alloc _⟩
      exact hb.kept (World.grownBy_alloc w _ none) (by simp)
theorem tmod_lt {x n : Int} (h0 : 0 ≤ x) (h1 : 1 ≤ n) : 0 ≤ x.tmod n ∧ x.tmod n < n :=
  ⟨Int.tmod_nonneg n h0, Int.tmod_lt_of_pos x (by omega)⟩
theorem emod_lt' {x n : Int} (h1 : 1 ≤ n) : 0 ≤ x % n ∧ x % n < n := ⟨Int.emod_nonneg x (by omega), Int.emod_lt_of_pos x (by omega)⟩
set_option maxHeartbeats 400000 in
theorem below_any (w : World) (B g : Nat) (n : Int) (hc : Cur w B g) (h1 : 1 ≤ n) :
    Calls Try.prog 45 #[.pointer (some ⟨g, 0, none⟩), .int .i64 n] w fun e w' => ∃ x, e = .returned (.int .i64 x) ∧ 0 ≤ x ∧ x < n ∧ Cur w' B g ∧ w.grownBy w' (some g) := by
  by_cases h2 : n ≤ 256
  · go_enter Try.func45, Try.ntmps45
    go_wp2_with fail
    refine (byte_any _ B g hc).mono ?_
    rintro e w1 ⟨x, rfl, x0, x1, c1, g1⟩
    go_wp2
    go_ret
    exact ⟨_, rfl, (emod_lt' h1).1, (emod_lt' h1).2, c1, g1⟩
  · go_enter Try.func45, Try.ntmps45
    go_wp2_with fail
    refine (byte_any _ B g hc).mono ?_
    rintro e w1 ⟨x, rfl, x0, x1, c1, g1⟩
    go_wp2_with fail
    refine (byte_any _ B g c1).mono ?_
    rintro e w2 ⟨y, rfl, y0, y1, c2, g2⟩
    go_wp2_with fail
    refine (byte_any _ B g c2).mono ?_
    rintro e w3 ⟨z, rfl, z0, z1, c3, g3⟩
    go_wp2_with fail
    refine (byte_any _ B g c3).mono ?_
    rintro e w4 ⟨u, rfl, u0, u1, c4, g4⟩
    go_wp2
    go_ret
    exact ⟨_, rfl, (emod_lt' h1).1, (emod_lt' h1).2, c4, grown_trans (grown_trans (grown_trans g1 g2) g3) g4⟩
theorem once_any (w : World) (B g : Nat) (n : Int) (hc : Cur w B g) (h1 : 1 ≤ n) :
    Calls Try.prog 46 #[.pointer (some ⟨g, 0, none⟩), .int .i64 n] w fun e w' => ∃ b : Bool, e = .returned (.bool b) ∧ Cur w' B g ∧ w.grownBy w' (some g) := by
  go_enter Try.func46, Try.ntmps46
  go_wp2_with fail
  refine (below_any _ B g _ hc h1).mono ?_
  rintro e w1 ⟨x, rfl, x0, x1, c1, g1⟩
  go_wp2
  go_ret
  exact ⟨_, rfl, c1, g1⟩
theorem from_any (w : World) (B g : Nat) (lo hi : Int) (hc : Cur w B g) (h0 : -1099511627776 ≤ lo) (h1 : lo ≤ hi) (h2 : hi ≤ 1099511627776) :
    Calls Try.prog 49 #[.pointer (some ⟨g, 0, none⟩), .int .i64 lo, .int .i64 hi] w fun e w' => ∃ x, e = .returned (.int .i64 x) ∧ lo ≤ x ∧ x ≤ hi ∧ Cur w' B g ∧ w.grownBy w' (some g) := by
  go_enter Try.func49, Try.ntmps49
  go_wp2_with fail
  refine (below_any _ B g _ hc (by omega)).mono ?_
  rintro e w1 ⟨x, rfl, x0, x1, c1, g1⟩
  go_wp2
  go_ret
  exact ⟨_, rfl, by omega, by omega, c1, g1⟩
theorem lit_int {w1 w2 : World} {e : TypeId} {row : Option Nat} (l : List Int) (hg : (w1.alloc (.cells (l.map (Value.int .i64)).toArray e)).grownBy w2 row) (hne : row ≠ some w1.heap.size) (j : Nat) (hj : j < l.length) :
    ∃ y, w2.cell? ⟨w1.heap.size, j, none⟩ = some (.int .i64 y) := by
  refine ⟨l[j], ?_⟩
  have h1 := heap_alloc_new w1 (.cells (l.map (Value.int .i64)).toArray e)
  rw [World.cell?_of_block (w := w1.alloc (.cells (l.map (Value.int .i64)).toArray e)) (hg.block w1.heap.size (by simp) (fun e => hne e.symm)), cell_of_row _ _ j _ _ _ h1]
  simp [hj]
theorem own_ne {w : World} {g : Nat} {v : Value} {zs : List Int} (h : Own w (g + 1) v zs) : v.ownBlock = none ∨ v.ownBlock ≠ some g := by
  cases hv : v.ownBlock with
  | none => exact .inl rfl
  | some k => exact .inr (fun e => by have := h.ge k hv; simp at e; omega)
set_option maxHeartbeats 400000 in
theorem drawSet_any (w : World) (B g : Nat) (hc : Cur w B g) :
    Calls Try.prog 42 #[.pointer (some ⟨g, 0, none⟩)] w fun e w' => ∃ x, e = .returned (.int .i64 x) ∧ Cur w' B g ∧ w.grownBy w' (some g) := by
  have hlt := hc.lt
  go_enter Try.func42, Try.ntmps42
  go_wp2_with fail
  refine (once_any _ B g _ hc (by omega)).mono ?_
  rintro e w1 ⟨b, rfl, c1, g1⟩
  have hs1 := g1.size
  cases b
  · go_wp2_with fail
    refine (below_any _ B g _ c1 (by omega)).mono ?_
    rintro e w2 ⟨x, rfl, x0, x1, c2, g2⟩
    go_wp2
    go_ret
    exact ⟨_, rfl, c2, grown_trans g1 g2⟩
  · go_wp2_with fail
    have ga := World.grownBy_alloc w1 (.cells #[.int .i64 (-1), .int .i64 4095, .int .i64 4096, .int .i64 4611686018427387904] 2) (some g)
    have ca := c1.keep ((Keep.refl w1).alloc (.cells #[.int .i64 (-1), .int .i64 4095, .int .i64 4096, .int .i64 4611686018427387904] 2))
    refine (below_any _ B g _ ca (by omega)).mono ?_
    rintro e w2 ⟨x, rfl, x0, x1, c2, g2⟩
    obtain ⟨y, hy⟩ := lit_int [-1, 4095, 4096, 4611686018427387904] g2 (by simp; omega) x.toNat (by simp; omega)
    go_wp2
    go_ret
    exact ⟨_, rfl, c2, grown_trans g1 (grown_trans ga g2)⟩
theorem drawMembers_any (w : World) (a : Option Addr) (cap : Nat) (zs : List Int) (hb : RdB w w.heap.size a zs) :
    Calls Try.prog 8 #[.slice a zs.length cap] w fun e w' => ∃ x, e = .returned (.int .i64 x) ∧ Keep w w' := by
  go_enter Try.func8, Try.ntmps8
  go_wp2_with fail
  refine (new_any _ _ _ _ hb).mono ?_
  rintro e w1 ⟨rfl, c1, k1⟩
  go_wp2_with fail
  refine (drawSet_any _ _ _ c1).mono ?_
  rintro e w2 ⟨x, rfl, c2, g2⟩
  go_wp2
  go_ret
  exact ⟨_, rfl, k1.grown g2 (by simp)⟩
theorem drawSetOk_any (w : World) (a : Option Addr) (cap : Nat) (zs : List Int) (hb : RdB w w.heap.size a zs) :
    Calls Try.prog 12 #[.slice a zs.length cap] w fun e w' => ∃ x y, e = .returned (.tuple #[.int .i64 x, .int .i64 y]) ∧ Keep w w' := by
  go_enter Try.func12, Try.ntmps12
  go_wp2_with fail
  refine (new_any _ _ _ _ hb).mono ?_
  rintro e w1 ⟨rfl, c1, k1⟩
  go_wp2_with fail
  refine (from_any _ _ _ _ _ c1 (by omega) (by omega) (by omega)).mono ?_
  rintro e w2 ⟨x, rfl, _, _, c2, g2⟩
  go_wp2_with fail
  refine (drawSet_any _ _ _ c2).mono ?_
  rintro e w3 ⟨y, rfl, c3, g3⟩
  go_wp2
  go_ret2
  exact ⟨_, _, rfl, (k1.grown g2 (by simp)).grown g3 (by simp)⟩
theorem drawInSet_any (w : World) (a : Option Addr) (cap : Nat) (zs : List Int) (hb : RdB w w.heap.size a zs) :
    Calls Try.prog 13 #[.slice a zs.length cap] w fun e w' => ∃ x y, e = .returned (.tuple #[.int .i64 x, .int .i64 y]) ∧ Keep w w' := by
  go_enter Try.func13, Try.ntmps13
  go_wp2_with fail
  refine (new_any _ _ _ _ hb).mono ?_
  rintro e w1 ⟨rfl, c1, k1⟩
  go_wp2_with fail
  refine (drawSet_any _ _ _ c1).mono ?_
  rintro e w2 ⟨y, rfl, c2, g2⟩
  go_wp2_with fail
  refine (from_any _ _ _ _ _ c2 (by omega) (by omega) (by omega)).mono ?_
  rintro e w3 ⟨x, rfl, _, _, c3, g3⟩
  go_wp2
  go_ret2
  exact ⟨_, _, rfl, (k1.grown g2 (by simp)).grown g3 (by simp)⟩
set_option maxHeartbeats 1000000 in
theorem drawGathered_any (w : World) (a : Option Addr) (cap : Nat) (zs : List Int) (hb : RdB w w.heap.size a zs) :
    Calls Try.prog 10 #[.slice a zs.length cap] w fun e w' => ∃ v l, e = .returned v ∧ Own w' w.heap.size v l ∧ l.length ≤ 8 ∧ Keep w w' := by
  obtain ⟨i0, hi, hz0, hz1, hz2⟩ := info_parts Try.infoI
  go_enter Try.func10, Try.ntmps10
  go_wp2_with fail
  refine (new_any _ _ _ _ hb).mono ?_
  rintro e w1 ⟨rfl, c1, k1⟩
  have hs1 := c1.lt
  have hown0 : Own (w1.alloc (.cells #[] 2)) (w.heap.size + 1) (.slice (some ⟨w1.heap.size, 0, none⟩) 0 0) [] := World.ownsRow_lit w1 #[] 0 hs1 (by decide) rfl
  have ca := c1.keep ((Keep.refl w1).alloc (.cells #[] 2))
  go_wp2_with fail
  refine (below_any _ _ _ _ ca (by omega)).mono ?_
  rintro e w2 ⟨x, rfl, x0, x1, c2, g2⟩
  have k2 : Keep w w2 := (k1.alloc _).grown g2 (by simp)
  have o2 := hown0.kept g2 (own_ne hown0)
  clear hown0 ca g2 c1 k1
  go_wp2_with fail
  go_loopw [4, 5] (fun v i wr => ∃ (n : Int) (l : List Int), 0 ≤ n ∧ i = .int .i64 n ∧ n + l.length ≤ 7 ∧ Own wr (w.heap.size + 1) v l ∧ Cur wr w.heap.size w.heap.size ∧ Keep w wr) (fun _ i _ => (intOf i).toNat)
  case atStart => exact ⟨x, [], x0, rfl, by simp; omega, o2, c2, k2⟩
  case round =>
    obtain ⟨n, l, n0, rfl, nl, ho, hc, hK⟩ := hrel
    clear o2 c2 k2
    have hszr := hc.lt
    by_cases hlt : 0 < n
    · go_wp2_with fail
      refine (below_any _ _ _ _ hc (by omega)).mono ?_
      rintro e w3 ⟨y, rfl, y0, y1, c3, g3⟩
      have o3 := ho.kept g3 (own_ne ho)
      have k3 : Keep w w3 := hK.grown g3 (by simp)
      have hs3 := c3.lt
      clear ho hK g3 hc
      go_wp2_with (at_builtin; refine wpList_append_own _ rfl _ _ 25 rfl (w.heap.size + 1) 2 i0 (.int .i64 0) 1 8 Try.underlying25 hi hz0 hz1 hz2 rfl (by decide) _ _ _ rfl (World.ownsRow.alloc o3 _) ⟨_, 0, none⟩ 1 1 [.int .i64 y] rfl rfl ?c1 ?c2 ?c3 ?c4 ?c5 ?_)
      case c1 =>
        intro j u hj
        match j, hj with
        | 0, hj => simp at hj; subst hj; simp [Addr.add]
      case c2 => intro u hu; simp at hu; subst hu; rfl
      case c3 => unfold maxLen; omega
      case c4 => omega
      case c5 => simp; omega
      intro v' w4 hown' hgrow _
      have k4 : Keep w w4 := (k3.alloc _).grown hgrow (fun k hk => by have := o3.ge k hk; omega)
      have c4 := (c3.keep ((Keep.refl w3).alloc _)).kept hgrow (fun e => by have := o3.ge _ e; omega) (fun k hk => by have := o3.ge k hk; omega)
      clear hgrow
      go_wp2
      go_roundw
      case rel => exact ⟨n - 1, l ++ [y], by omega, rfl, by simp; omega, own_hit hown', c4, k4⟩
      case measure => simp [intOf]; omega
    · go_wp2_with fail
      refine (once_any _ _ _ _ hc (by omega)).mono ?_
      rintro e w3 ⟨b, rfl, c3, g3⟩
      have o3 := ho.kept g3 (own_ne ho)
      have k3 : Keep w w3 := hK.grown g3 (by simp)
      have hs3 := c3.lt
      clear ho hK g3 hc
      cases b
      · go_wp2
        go_ret
        exact ⟨_, l, rfl, o3.base_le (by omega), by omega, k3⟩
      · have o4 := o3.keep ((Keep.refl w3).alloc (.cells #[.int .i64 (-1), .int .i64 11, .int .i64 12, .int .i64 63] 2))
        have c4 := c3.keep ((Keep.refl w3).alloc (.cells #[.int .i64 (-1), .int .i64 11, .int .i64 12, .int .i64 63] 2))
        have k4 := k3.alloc (.cells #[.int .i64 (-1), .int .i64 11, .int .i64 12, .int .i64 63] 2)
        clear o3 c3 k3
        go_wp2_with fail
        refine (below_any _ _ _ _ c4 (by omega)).mono ?_
        rintro e w5 ⟨x, rfl, x0, x1, c5, g5⟩
        obtain ⟨y, hy⟩ := lit_int [-1, 11, 12, 63] g5 (by simp; omega) x.toNat (by simp; omega)
        have o5 := o4.kept g5 (own_ne o4)
        have k5 : Keep w w5 := k4.grown g5 (by simp)
        have hs5 := c5.lt
        clear o4 c4 k4 g5
        go_wp2_with (at_builtin; refine wpList_append_own _ rfl _ _ 25 rfl (w.heap.size + 1) 2 i0 (.int .i64 0) 1 8 Try.underlying25 hi hz0 hz1 hz2 rfl (by decide) _ _ _ rfl (World.ownsRow.alloc o5 _) ⟨_, 0, none⟩ 1 1 [.int .i64 y] rfl rfl ?d1 ?d2 ?d3 ?d4 ?d5 ?_)
        case d1 =>
          intro j u hj
          match j, hj with
          | 0, hj => simp at hj; subst hj; simp [Addr.add]
        case d2 => intro u hu; simp at hu; subst hu; rfl
        case d3 => unfold maxLen; omega
        case d4 => omega
        case d5 => simp; omega
        intro v' w6 hown' hgrow _
        have k6 : Keep w w6 := (k5.alloc _).grown hgrow (fun k hk => by have := o5.ge k hk; omega)
        have o6 := own_hit hown'
        go_wp2
        go_ret
        exact ⟨_, l ++ [y], rfl, o6.base_le (by omega), by simp; omega, k6⟩
/-- What the shell tells of the bytes that came in, as bytes that a cursor reads. -/
theorem rdb_of_row {w : World} {a : Option Addr} {len cap : Nat} {ys : List Int} (hlen : len ≤ 4096)
    (h : (a = none ∧ len = 0 ∧ cap = 0 ∧ ys = []) ∨ ∃ x, a = some x ∧ len ≤ cap ∧ cap ≤ maxLen ∧ ys.length = cap ∧ (∀ i, i < ys.length → w.cell? (x.add i) = some (.int .u8 (ys.getD i 0))) ∧ ∀ n ∈ ys, (Lit.int .u8 n).wf = true) :
    ∃ zs : List Int, zs.length = len ∧ RdB w w.heap.size a zs := by
  rcases h with ⟨rfl, rfl, rfl, rfl⟩ | ⟨x, rfl, hl, hm, hy, hc, hw⟩
  · exact ⟨[], rfl, by simp, .inl rfl⟩
  · have hzl : (ys.take len).length = len := by rw [List.length_take]; omega
    refine ⟨ys.take len, hzl, by omega, ?_⟩
    by_cases h0 : len = 0
    · left; subst h0; simp
    · right
      obtain ⟨b, off, spot⟩ := x
      have hc0 := hc 0 (by omega)
      have hspot : spot = none := by simpa [Addr.add] using World.cell?_spot hc0
      subst hspot
      have hcc : ∀ i, i < (ys.take len).length → w.cell? ⟨b, off + i, none⟩ = some (.int .u8 ((ys.take len).getD i 0)) ∧ 0 ≤ (ys.take len).getD i 0 ∧ (ys.take len).getD i 0 ≤ 255 := by
        intro i hi
        have hi' : i < ys.length := by omega
        have h1 := hc i hi'
        have e1 : (⟨b, off, none⟩ : Addr).add i = ⟨b, off + i, none⟩ := by unfold Addr.add; split <;> simp_all
        rw [e1] at h1
        have e2 : (ys.take len).getD i 0 = ys.getD i 0 := by
          rw [List.getD_eq_getElem?_getD, List.getD_eq_getElem?_getD, List.getElem?_take, if_pos (by omega)]
        rw [e2]
        refine ⟨h1, ?_⟩
        have hm : ys.getD i 0 ∈ ys := by rw [List.getD_eq_getElem?_getD, List.getElem?_eq_getElem hi']; exact List.getElem_mem hi'
        have := bounds_u8 (hw _ hm)
        omega
      refine ⟨b, off, rfl, ?_, ?_, hcc⟩
      all_goals
        have h2 := (hcc 0 (by omega)).1
        apply Classical.byContradiction
        intro hnb
        have h3 : w.heap[b]? = none := by simp; omega
        simp [World.cell?, h3] at h2
end Go.Proofs.Ytmigdnceidbppaa
