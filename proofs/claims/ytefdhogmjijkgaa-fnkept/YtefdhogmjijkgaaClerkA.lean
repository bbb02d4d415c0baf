/- Contracts of the program's deeds: how many they are, their events, their Groups, whether each is right. -/
import Derived.Test.YtefdhogmjijkgaaMA
import Derived.Test.YtefdhogmjijkgaaClerkPlain
import Derived.Test.YtefdhogmjijkgaaDeedOkI
import Derived.Test.YtefdhogmjijkgaaWith
import Derived.Lib.Hide
namespace Go.Proofs.Ytefdhogmjijkgaa
open Go.ChangeShapes Go.WideShapes Go.ChangeAt Go.RowKit

theorem setAnd_bits (s t : Int) (w : World) :
    Calls Try.prog 98 #[.int .i64 s, .int .i64 t] w fun e w' => e = .returned (.int .i64 (bits .and .i64 s t)) ∧ w' = w := by
  go_enter Try.func98, Try.ntmps98
  go_wp2
  go_ret
  exact ⟨rfl, rfl⟩
theorem setOr_bits (s t : Int) (w : World) :
    Calls Try.prog 92 #[.int .i64 s, .int .i64 t] w fun e w' => e = .returned (.int .i64 (bits .or .i64 s t)) ∧ w' = w := by
  go_enter Try.func92, Try.ntmps92
  go_wp2
  go_ret
  exact ⟨rfl, rfl⟩
theorem count_any (a : Option Addr) (n c : Nat) (w : World) :
    Calls Try.prog 90 #[.slice a n c] w fun e w' => e = .returned (.int .i64 (n : Int)) ∧ w' = w := by
  go_enter Try.func90, Try.ntmps90
  go_wp2
  go_ret
  exact ⟨rfl, rfl⟩
theorem evD_cases (d : Dd) : (d.1 = 3 ∧ evD d = 2) ∨ (d.1 = 1 ∧ evD d = 1) ∨ (d.1 = 2 ∧ evD d = 1) ∨ (¬ d.1 = 3 ∧ ¬ d.1 = 1 ∧ ¬ d.1 = 2 ∧ evD d = 0) := by
  unfold evD
  repeat' split
  all_goals omega
set_option maxRecDepth 100000 in
set_option maxHeartbeats 2000000 in
theorem events_any (w : World) (v : Value) (ds : List Dd) (h : RdD w v ds) (hx : ds.length ≤ 1048576) :
    Calls Try.prog 91 #[v] w fun e w' => e = .returned (.int .i64 (evK ds ds.length)) ∧ Keep w w' := by
  obtain ⟨a, c, rfl, h⟩ := h
  go_enter Try.func91, Try.ntmps91
  go_wp2
  go_loopw [3, 8] (fun n i wr => ∃ k : Nat, ∃ m : Int, k ≤ ds.length ∧ n = .int .i64 m ∧ i = .int .i64 k ∧ Hid (m = evK ds k) ∧ 0 ≤ m ∧ m ≤ 2 * k ∧ Keep w wr) (fun _ i _ => ds.length - (intOf i).toNat)
  case atStart => exact ⟨0, 0, Nat.zero_le _, rfl, rfl, Lib.hid rfl, by omega, by omega, Keep.refl _⟩
  case round =>
    obtain ⟨k, m, hk, rfl, rfl, hm, m0, m1, hK⟩ := hrel
    by_cases hlt : k < ds.length
    · rcases h with h | ⟨b, o, rfl, hb, hc⟩
      · exfalso; rw [h] at hlt; simp at hlt
      obtain ⟨A0, A1, A2, A3⟩ := (hc k hlt).keep hb hK
      clear hc
      have HE : Hid (m + evD (ds.getD k zD) = evK ds (k + 1)) := Lib.hid (by rw [evK, hm.out])
      have CS := evD_cases (ds.getD k zD)
      clear hm
      obtain ⟨d, hd⟩ : ∃ d, d = ds.getD k zD := ⟨_, rfl⟩
      rw [← hd] at A0 A1 A2 A3 HE CS
      clear hd
      obtain ⟨x0, x1, x2, x3⟩ := d
      simp only at A0 A1 A2 A3 CS
      have hbw : b < wr.heap.size := Nat.lt_of_lt_of_le hb hK.size
      have i1 : (0 : Int) ≤ (k : Int) := Int.natCast_nonneg _
      have i2 : (k : Int) < (ds.length : Int) := by omega
      rcases CS with ⟨rfl, e⟩ | ⟨rfl, e⟩ | ⟨rfl, e⟩ | ⟨n3, n1, n2, e⟩
      · rw [e] at HE
        clear e
        go_wp2
        go_roundw
        case rel => exact ⟨k + 1, m + 2, by omega, by go_num, by go_num, HE, by omega, by omega, hK.alloc _⟩
        case measure => simp [intOf]; omega
      · rw [e] at HE
        clear e
        go_wp2
        go_roundw
        case rel => exact ⟨k + 1, m + 1, by omega, by go_num, by go_num, HE, by omega, by omega, hK.alloc _⟩
        case measure => simp [intOf]; omega
      · rw [e] at HE
        clear e
        go_wp2
        go_roundw
        case rel => exact ⟨k + 1, m + 1, by omega, by go_num, by go_num, HE, by omega, by omega, hK.alloc _⟩
        case measure => simp [intOf]; omega
      · rw [e, Int.add_zero] at HE
        clear e
        have e3 : (x0 == 3) = false := by simp [n3]
        have e1 : (x0 == 1) = false := by simp [n1]
        have e2 : (x0 == 2) = false := by simp [n2]
        clear n3 n1 n2
        go_wp2
        go_roundw
        case rel => exact ⟨k + 1, m, by omega, by go_num, by go_num, HE, by omega, by omega, hK.alloc _⟩
        case measure => simp [intOf]; omega
    · obtain rfl : k = ds.length := by omega
      go_wp2
      go_ret
      exact ⟨by rw [hm.out]; rfl, hK⟩
set_option maxRecDepth 100000 in
set_option maxHeartbeats 2000000 in
theorem groups_any (w : World) (v : Value) (ds : List Dd) (h : RdD w v ds) (hx : ds.length ≤ 1048576) :
    Calls Try.prog 93 #[v] w fun e w' => e = .returned (.int .i64 (gC ds)) ∧ Keep w w' := by
  obtain ⟨a, c, rfl, h⟩ := h
  go_enter Try.func93, Try.ntmps93
  go_wp2
  go_loopw [3, 8] (fun n i wr => ∃ k : Nat, ∃ m : Int, k ≤ ds.length ∧ n = .int .i64 m ∧ i = .int .i64 k ∧ Hid (m = gK ds k) ∧ Keep w wr) (fun _ i _ => ds.length - (intOf i).toNat)
  case atStart => exact ⟨0, 0, Nat.zero_le _, rfl, rfl, Lib.hid rfl, Keep.refl _⟩
  case round =>
    obtain ⟨k, m, hk, rfl, rfl, hm, hK⟩ := hrel
    by_cases hlt : k < ds.length
    · rcases h with h | ⟨b, o, rfl, hb, hc⟩
      · exfalso; rw [h] at hlt; simp at hlt
      obtain ⟨A0, A1, A2, A3⟩ := (hc k hlt).keep hb hK
      clear hc
      have HE : Hid (gK ds (k + 1) = if grD (ds.getD k zD) = 0 then m else gAdd m (grD (ds.getD k zD))) := Lib.hid (by rw [gK, hm.out])
      clear hm
      obtain ⟨d, hd⟩ : ∃ d, d = ds.getD k zD := ⟨_, rfl⟩
      rw [← hd] at A0 A1 A2 A3 HE
      clear hd
      obtain ⟨x0, x1, x2, x3⟩ := d
      unfold grD at HE
      simp only at A0 A1 A2 A3 HE
      have hbw : b < wr.heap.size := Nat.lt_of_lt_of_le hb hK.size
      have i1 : (0 : Int) ≤ (k : Int) := Int.natCast_nonneg _
      have i2 : (k : Int) < (ds.length : Int) := by omega
      by_cases h0 : x3 = 0
      · subst h0
        go_wp2
        go_roundw
        case rel => exact ⟨k + 1, m, by omega, by go_num, by go_num, Lib.hid (by rw [HE.out, if_pos rfl]), hK.alloc _⟩
        case measure => simp [intOf]; omega
      · have e0 : (x3 != 0) = true := by simp [h0]
        have HF : Hid (gK ds (k + 1) = gAdd m x3) := Lib.hid (by rw [HE.out, if_neg h0])
        clear h0 HE
        go_wp2_with fail
        refine (with_any _ _ _).mono ?_
        rintro e wz ⟨rfl, rfl⟩
        go_wp2
        go_roundw
        case rel => exact ⟨k + 1, _, by omega, rfl, by go_num, Lib.hid HF.out.symm, hK.alloc _⟩
        case measure => simp [intOf]; omega
    · obtain rfl : k = ds.length := by omega
      go_wp2
      go_ret
      exact ⟨by rw [hm.out]; rfl, hK⟩
theorem all_moreC {α : Type} {f : α → Bool} {l : List α} {k : Nat} (z : α) (h : k < l.length) (h1 : (l.take k).all f = true) (h2 : f (l.getD k z) = true) : (l.take (k + 1)).all f = true := by
  rw [List.take_add_one, List.getElem?_eq_getElem h, List.all_append, h1]
  rw [List.getD_eq_getElem?_getD, List.getElem?_eq_getElem h] at h2
  simpa using h2
set_option maxRecDepth 100000 in
set_option maxHeartbeats 2000000 in
theorem areRight_any (w : World) (v : Value) (ds : List Dd) (h : RdD w v ds) (hx : ds.length ≤ 1048576) :
    Calls Try.prog 96 #[v] w fun e w' => e = .returned (.bool (ds.all okD)) ∧ Keep w w' := by
  obtain ⟨a, c, rfl, h⟩ := h
  go_enter Try.func96, Try.ntmps96
  go_wp2
  go_loopw [7] (fun i wr => ∃ k : Nat, k ≤ ds.length ∧ i = .int .i64 k ∧ Hid ((ds.take k).all okD = true) ∧ Keep w wr) (fun i _ => ds.length - (intOf i).toNat)
  case atStart => exact ⟨0, Nat.zero_le _, rfl, Lib.hid (by simp), Keep.refl _⟩
  case round =>
    obtain ⟨k, hk, rfl, hm, hK⟩ := hrel
    by_cases hlt : k < ds.length
    · rcases h with h | ⟨b, o, rfl, hb, hc⟩
      · exfalso; rw [h] at hlt; simp at hlt
      obtain ⟨A0, A1, A2, A3⟩ := (hc k hlt).keep hb hK
      clear hc
      have HT : okD (ds.getD k zD) = true → Hid ((ds.take (k + 1)).all okD = true) := fun e => Lib.hid (all_moreC zD hlt hm.out e)
      have HF : okD (ds.getD k zD) = false → Hid (ds.all okD = false) := fun e => Lib.hid (all_not zD k hlt e)
      clear hm
      obtain ⟨d, hd⟩ : ∃ d, d = ds.getD k zD := ⟨_, rfl⟩
      rw [← hd] at A0 A1 A2 A3 HT HF
      clear hd
      obtain ⟨x0, x1, x2, x3⟩ := d
      simp only at A0 A1 A2 A3
      have hbw : b < wr.heap.size := Nat.lt_of_lt_of_le hb hK.size
      have i1 : (0 : Int) ≤ (k : Int) := Int.natCast_nonneg _
      have i2 : (k : Int) < (ds.length : Int) := by omega
      cases hd : deedB x0 x1 x2 x3
      · have HE := HF hd
        clear HT HF
        go_wp2_with fail
        refine (implDeedOk_any _ _ _ _ _).mono ?_
        rintro e wz ⟨rfl, kk⟩
        go_wp2
        go_ret
        exact ⟨by rw [HE.out]; rfl, (hK.alloc _).trans kk⟩
      · have HE := HT hd
        clear HT HF
        go_wp2_with fail
        refine (implDeedOk_any _ _ _ _ _).mono ?_
        rintro e wz ⟨rfl, kk⟩
        go_wp2
        go_roundw
        case rel => exact ⟨k + 1, by omega, by go_num, HE, (hK.alloc _).trans kk⟩
        case measure => simp [intOf]; omega
    · obtain rfl : k = ds.length := by omega
      rw [List.take_length] at hm
      go_wp2
      go_ret
      exact ⟨by rw [hm.out]; rfl, hK⟩
end Go.Proofs.Ytefdhogmjijkgaa
