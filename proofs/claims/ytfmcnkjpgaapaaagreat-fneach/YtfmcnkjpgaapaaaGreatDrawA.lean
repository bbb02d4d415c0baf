/- Contracts of the cursor that the specification draws its inputs with: what is drawn lies in its range, and nothing but the cursor's own block and new memory is written. -/
import Derived.Test.YtfmcnkjpgaapaaaGreatMB
import Derived.Outline
import Derived.RegionTactic
import Derived.Deep.QuietTactic
import Derived.BigQuiet
namespace Go.Proofs.YtfmcnkjpgaapaaaGreat
open Go.ChangeShapes Go.WideShapes Go.ChangeAt Go.RowKit

theorem and255 (a : Int) : 0 ≤ bits .and .i64 a 255 ∧ bits .and .i64 a 255 ≤ 255 := by
  have e : bits .and .i64 a 255 = IntKind.i64.wrap (((BitVec.ofInt 64 a &&& BitVec.ofInt 64 255).toNat : Nat) : Int) := rfl
  have h : (BitVec.ofInt 64 a &&& BitVec.ofInt 64 255).toNat ≤ 255 := by
    rw [BitVec.toNat_and]
    exact Nat.and_le_right
  rw [e, IntKind.wrap_i64]
  omega

/-- The bytes that a cursor reads, in memory below block B. -/
def RdB (w : World) (B : Nat) (a : Option Addr) (zs : List Int) : Prop :=
  zs.length ≤ 4096 ∧ (zs = [] ∨ ∃ b off, a = some ⟨b, off, none⟩ ∧ b < B ∧ b < w.heap.size ∧ ∀ i, i < zs.length → w.cell? ⟨b, off + i, none⟩ = some (.int .u8 (zs.getD i 0)) ∧ 0 ≤ zs.getD i 0 ∧ zs.getD i 0 ≤ 255)
/-- Block g is a cursor. -/
def Cur (w : World) (B g : Nat) : Prop :=
  B ≤ g ∧ ∃ (a : Option Addr) (cap : Nat) (zs : List Int) (i : Nat) (h : Int), w.heap[g]? = some (.cells #[.slice a zs.length cap, .int .i64 i, .int .i64 h] 97 (0, 0)) ∧ i ≤ zs.length ∧ RdB w B a zs
theorem RdB.kept {w w' : World} {B : Nat} {a : Option Addr} {zs : List Int} {row : Option Nat} (h : RdB w B a zs) (hg : w.grownBy w' row) (hr : ∀ k, row = some k → B ≤ k) : RdB w' B a zs := by
  refine ⟨h.1, ?_⟩
  rcases h.2 with h | ⟨b, off, ha, hb, hbs, hc⟩
  · exact .inl h
  · refine .inr ⟨b, off, ha, hb, Nat.lt_of_lt_of_le hbs hg.size, fun i hi => ⟨?_, (hc i hi).2⟩⟩
    rw [World.cell?_of_block (w := w) (hg.block b hbs (fun e => by have := hr b e.symm; omega))]
    exact (hc i hi).1
theorem RdB.up {w w' : World} {a : Option Addr} {zs : List Int} (h : RdB w w.heap.size a zs) (k : Keep w w') : RdB w' w'.heap.size a zs := by
  have h' := h.kept k.grownBy (by simp)
  refine ⟨h'.1, ?_⟩
  rcases h'.2 with e | ⟨b, off, ha, hb, hbs, hc⟩
  · exact .inl e
  · exact .inr ⟨b, off, ha, hbs, hbs, hc⟩
theorem Cur.lt {w : World} {B g : Nat} (h : Cur w B g) : g < w.heap.size := by
  obtain ⟨_, a, cap, zs, i, x, hh, _⟩ := h
  exact (Array.getElem?_eq_some_iff.1 hh).1
theorem Cur.kept {w w' : World} {B g : Nat} {row : Option Nat} (h : Cur w B g) (hg : w.grownBy w' row) (hne : row ≠ some g) (hr : ∀ k, row = some k → B ≤ k) : Cur w' B g := by
  have hlt := h.lt
  obtain ⟨hB, a, cap, zs, i, x, hh, hi, hb⟩ := h
  exact ⟨hB, a, cap, zs, i, x, by rw [hg.block g hlt (fun e => hne e.symm)]; exact hh, hi, hb.kept hg hr⟩
theorem Cur.keep {w w' : World} {B g : Nat} (h : Cur w B g) (k : Keep w w') : Cur w' B g := h.kept k.grownBy (by simp) (by simp)
def CurI (w : World) (B g : Nat) (a : Option Addr) (cap : Nat) (zs : List Int) (i h : Int) : Prop :=
  B ≤ g ∧ w.heap[g]? = some (.cells #[.slice a zs.length cap, .int .i64 i, .int .i64 h] 97 (0, 0)) ∧ RdB w B a zs
theorem CurI.cur {w : World} {B g : Nat} {a : Option Addr} {cap : Nat} {zs : List Int} {i h : Int} (c : CurI w B g a cap zs i h) (h0 : 0 ≤ i) (hi : i ≤ zs.length) : Cur w B g := by
  obtain ⟨n, rfl⟩ := Int.eq_ofNat_of_zero_le h0
  exact ⟨c.1, a, cap, zs, n, h, c.2.1, by omega, c.2.2⟩
theorem grown_setCell (w : World) (g j : Nat) (v : Value) : w.grownBy (w.setCell ⟨g, j, none⟩ v) (some g) :=
  ⟨rfl, rfl, rfl, by simp, fun k _ hk => heap_setCell_other w ⟨g, j, none⟩ k v (fun e => hk (by simp [e]))⟩
theorem CurI.seth {w : World} {B g : Nat} {a : Option Addr} {cap : Nat} {zs : List Int} {i h : Int} (c : CurI w B g a cap zs i h) (y : Int) : CurI (w.setCell ⟨g, 2, none⟩ (.int .i64 y)) B g a cap zs i y :=
  ⟨c.1, by rw [heap_setCell_same w g 2 _ _ _ c.2.1]; rfl, c.2.2.kept (grown_setCell w g 2 _) (by intro k hk; simp at hk; subst hk; exact c.1)⟩
theorem CurI.seti {w : World} {B g : Nat} {a : Option Addr} {cap : Nat} {zs : List Int} {i h : Int} (c : CurI w B g a cap zs i h) (y : Int) : CurI (w.setCell ⟨g, 1, none⟩ (.int .i64 y)) B g a cap zs y h :=
  ⟨c.1, by rw [heap_setCell_same w g 1 _ _ _ c.2.1]; rfl, c.2.2.kept (grown_setCell w g 1 _) (by intro k hk; simp at hk; subst hk; exact c.1)⟩
theorem grown_drewN (w : World) (n : Nat) (row : Option Nat) : w.grownBy (w.drewN n) row := ⟨rfl, rfl, rfl, Nat.le_refl _, fun _ _ _ => rfl⟩
theorem CurI.drewN {w : World} {B g : Nat} {a : Option Addr} {cap : Nat} {zs : List Int} {i h : Int} (c : CurI w B g a cap zs i h) (n : Nat) : CurI (w.drewN n) B g a cap zs i h :=
  ⟨c.1, c.2.1, c.2.2.kept (row := none) (grown_drewN w n none) (by simp)⟩
set_option maxHeartbeats 1000000 in
theorem byte_any (w : World) (B g : Nat) (hc : Cur w B g) :
    Calls Tryz.prog 117 #[.pointer (some ⟨g, 0, none⟩)] w fun e w' => ∃ x, e = .returned (.int .i64 x) ∧ 0 ≤ x ∧ x ≤ 255 ∧ Cur w' B g ∧ w.grownBy w' (some g) := by
  obtain ⟨hB, a, cap, zs, i, x, hh, hi, hb⟩ := hc
  have C : CurI w B g a cap zs i x := ⟨hB, hh, hb⟩
  have c0 : w.cell? ⟨g, 0, none⟩ = some (.slice a zs.length cap) := by rw [cell_of_row w g 0 _ _ (0, 0) hh]; rfl
  have c1 : w.cell? ⟨g, 1, none⟩ = some (.int .i64 i) := by rw [cell_of_row w g 1 _ _ (0, 0) hh]; rfl
  have c2 : w.cell? ⟨g, 2, none⟩ = some (.int .i64 x) := by rw [cell_of_row w g 2 _ _ (0, 0) hh]; rfl
  have f1 : w.frozen? ⟨g, 1, none⟩ = false := frozen_of_row w g 1 _ _ hh
  have f2 : w.frozen? ⟨g, 2, none⟩ = false := frozen_of_row w g 2 _ _ hh
  clear hh
  have hzl := hb.1
  by_cases hlt : i < zs.length
  · rcases hb.2 with h | ⟨b, off, rfl, hbB, hbs, hcc⟩
    · exfalso; rw [h] at hlt; simp at hlt
    obtain ⟨d1, d2, d3⟩ := hcc i hlt
    have hbg : b ≠ g := by omega
    obtain ⟨q, hq⟩ : ∃ q, q = zs.getD i 0 := ⟨_, rfl⟩
    rw [← hq] at d1 d2 d3
    clear hcc hq hb
    go_enter Tryz.func117, Tryz.ntmps117
    go_wp2
    go_quiet (fail)
    go_wp2
    go_quiet (fail)
    go_wp2
    go_quiet (fail)
    go_wp2
    go_ret
    exact ⟨_, rfl, (and255 _).1, (and255 _).2, (((C.seth _).drewN _).seti _).cur (by omega) (by omega), grown_trans (grown_trans (grown_setCell w g 2 _) (grown_drewN _ _ _)) (grown_setCell _ g 1 _)⟩
  · clear hb
    go_enter Tryz.func117, Tryz.ntmps117
    go_wp2
    go_quiet (fail)
    go_wp2
    go_quiet (fail)
    go_wp2
    go_ret
    exact ⟨_, rfl, (and255 _).1, (and255 _).2, (((C.seth _).drewN _).drewN _).cur (by omega) (by omega), grown_trans (grown_trans (grown_setCell w g 2 _) (grown_drewN _ _ _)) (grown_drewN _ _ _)⟩
set_option maxHeartbeats 400000 in
theorem new_any (w : World) (a : Option Addr) (cap : Nat) (zs : List Int) (hb : RdB w w.heap.size a zs) :
    Calls Tryz.prog 54 #[.slice a zs.length cap] w fun e w' => e = .returned (.pointer (some ⟨w.heap.size, 0, none⟩)) ∧ Cur w' w.heap.size w.heap.size ∧ Keep w w' := by
  have hzl := hb.1
  go_enter Tryz.func54, Tryz.ntmps54
  go_wp2
  go_loop [3, 4] (fun x i => ∃ (k : Nat) (h : Int), k ≤ zs.length ∧ i = .int .i64 k ∧ x = .int .i64 h) (fun _ i => zs.length - (intOf i).toNat)
  case atStart => exact ⟨0, _, Nat.zero_le _, rfl, rfl⟩
  case round =>
    obtain ⟨k, h, hk, rfl, rfl⟩ := hrel
    by_cases hlt : k < zs.length
    · rcases hb.2 with h | ⟨b, off, rfl, hbB, hbs, hcc⟩
      · exfalso; rw [h] at hlt; simp at hlt
      obtain ⟨d1, d2, d3⟩ := hcc k hlt
      obtain ⟨q, hq⟩ : ∃ q, q = zs.getD k 0 := ⟨_, rfl⟩
      rw [← hq] at d1 d2 d3
      clear hcc hq
      go_wp2
      go_round
      case rel => exact ⟨k + 1, _, by omega, by go_num, rfl⟩
      case measure => simp [intOf]; omega
    · go_wp2
      go_ret
      refine ⟨rfl, ⟨Nat.le_refl _, a, cap, zs, 0, h, heap_alloc_new w _, Nat.zero_le _, ?_⟩, (Keep.refl w).alloc _⟩
      exact hb.kept (World.grownBy_alloc w _ none) (by simp)
theorem tmod_lt {x n : Int} (h0 : 0 ≤ x) (h1 : 1 ≤ n) : 0 ≤ x.tmod n ∧ x.tmod n < n :=
  ⟨Int.tmod_nonneg n h0, Int.tmod_lt_of_pos x (by omega)⟩
theorem emod_lt' {x n : Int} (h1 : 1 ≤ n) : 0 ≤ x % n ∧ x % n < n := ⟨Int.emod_nonneg x (by omega), Int.emod_lt_of_pos x (by omega)⟩
set_option maxHeartbeats 400000 in
theorem below_any (w : World) (B g : Nat) (n : Int) (hc : Cur w B g) (h1 : 1 ≤ n) :
    Calls Tryz.prog 87 #[.pointer (some ⟨g, 0, none⟩), .int .i64 n] w fun e w' => ∃ x, e = .returned (.int .i64 x) ∧ 0 ≤ x ∧ x < n ∧ Cur w' B g ∧ w.grownBy w' (some g) := by
  by_cases h2 : n ≤ 256
  · go_enter Tryz.func87, Tryz.ntmps87
    go_wp2_with fail
    refine (byte_any _ B g hc).mono ?_
    rintro e w1 ⟨x, rfl, x0, x1, c1, g1⟩
    go_wp2
    go_ret
    exact ⟨_, rfl, (emod_lt' h1).1, (emod_lt' h1).2, c1, g1⟩
  · go_enter Tryz.func87, Tryz.ntmps87
    go_wp2_with fail
    refine (byte_any _ B g hc).mono ?_
    rintro e w1 ⟨x, rfl, x0, x1, c1, g1⟩
    go_wp2_with fail
    refine (byte_any _ B g c1).mono ?_
    rintro e w2 ⟨y, rfl, y0, y1, c2, g2⟩
    go_wp2_with fail
    refine (byte_any _ B g c2).mono ?_
    rintro e w3 ⟨z, rfl, z0, z1, c3, g3⟩
    go_wp2_with fail
    refine (byte_any _ B g c3).mono ?_
    rintro e w4 ⟨u, rfl, u0, u1, c4, g4⟩
    go_wp2
    go_ret
    exact ⟨_, rfl, (emod_lt' h1).1, (emod_lt' h1).2, c4, grown_trans (grown_trans (grown_trans g1 g2) g3) g4⟩
theorem once_any (w : World) (B g : Nat) (n : Int) (hc : Cur w B g) (h1 : 1 ≤ n) :
    Calls Tryz.prog 86 #[.pointer (some ⟨g, 0, none⟩), .int .i64 n] w fun e w' => ∃ b : Bool, e = .returned (.bool b) ∧ Cur w' B g ∧ w.grownBy w' (some g) := by
  go_enter Tryz.func86, Tryz.ntmps86
  go_wp2_with fail
  refine (below_any _ B g _ hc h1).mono ?_
  rintro e w1 ⟨x, rfl, x0, x1, c1, g1⟩
  go_wp2
  go_ret
  exact ⟨_, rfl, c1, g1⟩
theorem lit_int {w1 w2 : World} {e : TypeId} {row : Option Nat} (l : List Int) (hg : (w1.alloc (.cells (l.map (Value.int .i64)).toArray e)).grownBy w2 row) (hne : row ≠ some w1.heap.size) (j : Nat) (hj : j < l.length) :
    ∃ y, w2.cell? ⟨w1.heap.size, j, none⟩ = some (.int .i64 y) := by
  refine ⟨l[j], ?_⟩
  have h1 := heap_alloc_new w1 (.cells (l.map (Value.int .i64)).toArray e)
  rw [World.cell?_of_block (w := w1.alloc (.cells (l.map (Value.int .i64)).toArray e)) (hg.block w1.heap.size (by simp) (fun e => hne e.symm)), cell_of_row _ _ j _ _ _ h1]
  simp [hj]
theorem own_ne {w : World} {g : Nat} {v : Value} {zs : List Int} (h : Own w (g + 1) v zs) : v.ownBlock = none ∨ v.ownBlock ≠ some g := by
  cases hv : v.ownBlock with
  | none => exact .inl rfl
  | some k => exact .inr (fun e => by have := h.ge k hv; simp at e; omega)
/-- What the shell tells of the bytes that came in, as bytes that a cursor reads. -/
theorem rdb_of_row {w : World} {a : Option Addr} {len cap : Nat} {ys : List Int} (hlen : len ≤ 4096)
    (h : (a = none ∧ len = 0 ∧ cap = 0 ∧ ys = []) ∨ ∃ x, a = some x ∧ len ≤ cap ∧ cap ≤ maxLen ∧ ys.length = cap ∧ (∀ i, i < ys.length → w.cell? (x.add i) = some (.int .u8 (ys.getD i 0))) ∧ ∀ n ∈ ys, (Lit.int .u8 n).wf = true) :
    ∃ zs : List Int, zs.length = len ∧ RdB w w.heap.size a zs := by
  rcases h with ⟨rfl, rfl, rfl, rfl⟩ | ⟨x, rfl, hl, hm, hy, hc, hw⟩
  · exact ⟨[], rfl, by simp, .inl rfl⟩
  · have hzl : (ys.take len).length = len := by rw [List.length_take]; omega
    refine ⟨ys.take len, hzl, by omega, ?_⟩
    by_cases h0 : len = 0
    · left; subst h0; simp
    · right
      obtain ⟨b, off, spot⟩ := x
      have hc0 := hc 0 (by omega)
      have hspot : spot = none := by simpa [Addr.add] using World.cell?_spot hc0
      subst hspot
      have hcc : ∀ i, i < (ys.take len).length → w.cell? ⟨b, off + i, none⟩ = some (.int .u8 ((ys.take len).getD i 0)) ∧ 0 ≤ (ys.take len).getD i 0 ∧ (ys.take len).getD i 0 ≤ 255 := by
        intro i hi
        have hi' : i < ys.length := by omega
        have h1 := hc i hi'
        have e1 : (⟨b, off, none⟩ : Addr).add i = ⟨b, off + i, none⟩ := by unfold Addr.add; split <;> simp_all
        rw [e1] at h1
        have e2 : (ys.take len).getD i 0 = ys.getD i 0 := by
          rw [List.getD_eq_getElem?_getD, List.getD_eq_getElem?_getD, List.getElem?_take, if_pos (by omega)]
        rw [e2]
        refine ⟨h1, ?_⟩
        have hm : ys.getD i 0 ∈ ys := by rw [List.getD_eq_getElem?_getD, List.getElem?_eq_getElem hi']; exact List.getElem_mem hi'
        have := bounds_u8 (hw _ hm)
        omega
      refine ⟨b, off, rfl, ?_, ?_, hcc⟩
      all_goals
        have h2 := (hcc 0 (by omega)).1
        apply Classical.byContradiction
        intro hnb
        have h3 : w.heap[b]? = none := by simp; omega
        simp [World.cell?, h3] at h2
end Go.Proofs.YtfmcnkjpgaapaaaGreat
