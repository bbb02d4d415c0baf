/- Contracts of the specification's l7Whole and l7Waits. -/
import Derived.Test.YtkbkdlaknmgjpaaGreatMA
import Derived.Test.YtkbkdlaknmgjpaaGreatMB
import Derived.BigRegion
import Derived.Lib.Hide
namespace Go.Proofs.YtkbkdlaknmgjpaaGreat
open Go.ChangeShapes Go.WideShapes Go.ChangeAt Go.RowKit

abbrev eV (i q : Int) (r : Bool) (pl vl c : Int) : Value := .agg #[.int .i64 i, .int .i64 q, .bool r, .int .i64 pl, .int .i64 vl, .int .i64 c]
set_option maxRecDepth 100000 in
set_option maxHeartbeats 2000000 in
theorem l7Whole_any (w : World) (v : Value) (dss : List (List Dd)) (h : RdW w v dss) (i k : Nat) (r : Bool) (pl vl cl : Int) (hi : i < dss.length) (hk : k < (dss.getD i []).length) :
    Calls Tryz.prog 155 #[v, eV i k r pl vl cl] w fun e w' => e = .returned (.bool (wholeD ((dss.getD i []).getD k zD))) ∧ Keep w w' := by
  obtain ⟨a, c, rfl, h⟩ := h
  rcases h with h | ⟨b, o, rfl, hb, hc⟩
  · exfalso; rw [h] at hi; simp at hi
  obtain ⟨u, e1, r1⟩ := hc i hi
  clear hc
  obtain ⟨ds, hds⟩ : ∃ ds, ds = dss.getD i [] := ⟨_, rfl⟩
  rw [← hds] at r1 hk ⊢
  clear hds
  obtain ⟨ai, ci, rfl, r1⟩ := r1
  rcases r1 with h | ⟨b2, o2, rfl, hb2, hc2⟩
  · exfalso; rw [h] at hk; simp at hk
  have AT := hc2 k hk
  clear hc2
  obtain ⟨d, hd⟩ : ∃ d, d = ds.getD k zD := ⟨_, rfl⟩
  rw [← hd] at AT ⊢
  clear hd
  obtain ⟨x0, x1, x2, x3⟩ := d
  obtain ⟨A0, A1, A2, A3⟩ := AT
  simp only at A0 A1 A2 A3
  have i1 : (0 : Int) ≤ (i : Int) := Int.natCast_nonneg _
  have i2 : (i : Int) < (dss.length : Int) := by omega
  have j1 : (0 : Int) ≤ (k : Int) := Int.natCast_nonneg _
  have j2 : (k : Int) < (ds.length : Int) := by omega
  by_cases x3e : x0 = 3
  · subst x3e
    go_enter Tryz.func155, Tryz.ntmps155
    go_wp2
    go_region
    go_wp2
    go_ret
    exact ⟨by simp [wholeD], by first | exact (((Keep.refl w).alloc _).drew).alloc _ | exact ((((Keep.refl w).alloc _)).alloc _).drew⟩
  · have xb : (x0 == 3) = false := by simp [x3e]
    have HE : Hid (wholeD (x0, x1, x2, x3) = decide (0 < x3)) := Lib.hid (by simp [wholeD, x3e])
    clear x3e
    go_enter Tryz.func155, Tryz.ntmps155
    go_wp2
    go_region
    go_wp2
    go_ret
    exact ⟨by rw [HE.out]; rfl, by first | exact (((Keep.refl w).alloc _).drew).alloc _ | exact ((((Keep.refl w).alloc _)).alloc _).drew⟩
set_option maxRecDepth 100000 in
set_option maxHeartbeats 2000000 in
theorem l7Waits_any (w : World) (v : Value) (dss : List (List Dd)) (h : RdW w v dss) (i p q : Nat) (r : Bool) (pl vl cl i' : Int) (r' : Bool) (pl' vl' cl' : Int) (hi : i < dss.length) (hp : p < (dss.getD i []).length) (hq : q < (dss.getD i []).length) (hl : (dss.getD i []).length ≤ 1048576) :
    Calls Tryz.prog 154 #[v, eV i p r pl vl cl, eV i' q r' pl' vl' cl'] w fun e w' => e = .returned (.bool (waitsD (dss.getD i []) p q)) ∧ Keep w w' := by
  obtain ⟨a, c, rfl, h⟩ := h
  rcases h with h | ⟨b, o, rfl, hb, hc⟩
  · exfalso; rw [h] at hi; simp at hi
  obtain ⟨u, e1, r1⟩ := hc i hi
  clear hc
  obtain ⟨ds, hds⟩ : ∃ ds, ds = dss.getD i [] := ⟨_, rfl⟩
  rw [← hds] at r1 hp hq hl ⊢
  clear hds
  obtain ⟨ai, ci, rfl, r1⟩ := r1
  rcases r1 with h | ⟨b2, o2, rfl, hb2, hc2⟩
  · exfalso; rw [h] at hp; simp at hp
  have i1 : (0 : Int) ≤ (i : Int) := Int.natCast_nonneg _
  have i2 : (i : Int) < (dss.length : Int) := by omega
  go_enter Tryz.func154, Tryz.ntmps154
  go_wp2
  go_loopw [7] (fun s wr => ∃ k : Nat, p < k ∧ k ≤ ds.length ∧ s = .int .i64 k ∧ Hid (∀ j, p < j → j < k → (ds.getD j zD).1 ≠ 4) ∧ wr = (w.alloc (.cells #[.int .i64 i, .int .i64 p, .bool r, .int .i64 pl, .int .i64 vl, .int .i64 cl] 40)).alloc (.cells #[.int .i64 i', .int .i64 q, .bool r', .int .i64 pl', .int .i64 vl', .int .i64 cl'] 40)) (fun s _ => ds.length - (intOf s).toNat)
  case atStart => exact ⟨p + 1, by omega, by omega, by go_num, Lib.hid (fun j h1 h2 => by omega), rfl⟩
  case round =>
    obtain ⟨k, hpk, hk, rfl, HN, rfl⟩ := hrel
    by_cases hlt : k < q
    · have AT := hc2 k (by omega)
      clear hc2
      have HY := @waitsD_yes ds p q k hpk hlt
      have HX : (ds.getD k zD).1 ≠ 4 → Hid (∀ j, p < j → j < k + 1 → (ds.getD j zD).1 ≠ 4) := fun h4 => Lib.hid (fun j h1 h2 => by
        by_cases e : j = k
        · subst e; exact h4
        · exact HN.out j h1 (by omega))
      obtain ⟨d, hd⟩ : ∃ d, d = ds.getD k zD := ⟨_, rfl⟩
      rw [← hd] at AT HY HX
      clear hd HN
      obtain ⟨x0, x1, x2, x3⟩ := d
      obtain ⟨A0, -, -, -⟩ := AT
      simp only at A0 HY HX
      have j0 : (k : Int) < (q : Int) := by omega
      have j1 : (0 : Int) ≤ (k : Int) := Int.natCast_nonneg _
      have j2 : (k : Int) < (ds.length : Int) := by omega
      by_cases x4 : x0 = 4
      · have HE := Lib.hid (HY x4)
        subst x4
        clear HX HY
        go_wp2
        go_ret
        exact ⟨by rw [HE.out]; rfl, ((Keep.refl w).alloc _).alloc _⟩
      · have HE := HX x4
        have xb : (x0 == 4) = false := by simp [x4]
        clear HX HY x4
        go_wp2
        go_roundw
        case rel => exact ⟨k + 1, by omega, by omega, by go_num, HE, trivial⟩
        case measure => simp [intOf]; omega
    · have HE : Hid (waitsD ds p q = false) := Lib.hid (waitsD_no (fun j h1 h2 => HN.out j h1 (by omega)))
      clear HN
      have j0 : (q : Int) ≤ (k : Int) := by omega
      go_wp2
      go_ret
      exact ⟨by rw [HE.out]; rfl, ((Keep.refl w).alloc _).alloc _⟩
end Go.Proofs.YtkbkdlaknmgjpaaGreat
