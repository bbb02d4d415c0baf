/- Contract of the program's nextFor: the least that may have a seat, is past the one that had it last, and has none ahead. -/
import Derived.Test.YtgolhjmbloiakaaMB
import Derived.Test.YtgolhjmbloiakaaMC
namespace Go.Proofs.Ytgolhjmbloiakaa
open Go.ChangeShapes Go.WideShapes Go.ChangeAt Go.RowKit

theorem take_snocI (s : List Int) (k : Nat) (h : k < s.length) : s.take (k + 1) = s.take k ++ [s.getD k 0] := by
  rw [List.take_add_one, List.getElem?_eq_getElem h, List.getD_eq_getElem?_getD, List.getElem?_eq_getElem h]
  rfl
theorem next_take_more {s a : List Int} {last p : Int} {k : Nat} (h : nextL (s.take k) a last = []) (hk : k < s.length) (hp : p = s.getD k 0) (ht : (decide (last < p) && !isB a p) = false) : nextL (s.take (k + 1)) a last = [] := by
  unfold nextL at h ⊢
  rw [take_snocI s k hk, List.filter_append, h, ← hp]
  simp [ht]
theorem next_take_hit {s a : List Int} {last p : Int} {k : Nat} (h : nextL (s.take k) a last = []) (hk : k < s.length) (hp : p = s.getD k 0) (ht : (decide (last < p) && !isB a p) = true) : nextB s a last = p := by
  have e : s = s.take k ++ (p :: s.drop (k + 1)) := by
    rw [hp, List.getD_eq_getElem?_getD, List.getElem?_eq_getElem hk]
    show s = s.take k ++ s[k] :: s.drop (k + 1)
    rw [← List.drop_eq_getElem_cons hk, List.take_append_drop]
  unfold nextB
  unfold nextL at h ⊢
  rw [e, List.filter_append, h, List.filter_cons, if_pos ht]
  rfl
set_option maxHeartbeats 1000000 in
theorem nextFor_any (w : World) (v va : Value) (s a : List Int) (last : Int) (h : Rd w v s) (ha : Rd w va a) (hn : s.length ≤ 1048576) (han : a.length ≤ 1048576) :
    Calls Try.prog 114 #[v, va, .int .i64 last] w fun e w' => e = .returned (.int .i64 (nextB s a last)) ∧ w' = w := by
  obtain ⟨a1, c1, rfl, -⟩ := id ha
  obtain ⟨a0, c0, rfl, h⟩ := h
  go_enter Try.func114, Try.ntmps114
  go_wp2
  go_loop [11] (fun i => ∃ k : Nat, k ≤ s.length ∧ i = .int .i64 k ∧ Hid (nextL (s.take k) a last = [])) (fun i => s.length - (intOf i).toNat)
  case atStart => exact ⟨0, Nat.zero_le _, rfl, Lib.hid rfl⟩
  case round =>
    obtain ⟨k, hk, rfl, hno⟩ := hrel
    by_cases hlt : k < s.length
    · rcases h with h | ⟨b, o, rfl, hb, hc⟩
      · exfalso; rw [h] at hlt; simp at hlt
      have d1 := hc k hlt
      obtain ⟨p, hp⟩ : ∃ p, p = s.getD k 0 := ⟨_, rfl⟩
      have HP := Lib.hid hp
      rw [← hp] at d1
      clear hc hp
      have i1 : (0 : Int) ≤ (k : Int) := Int.natCast_nonneg _
      have i2 : (k : Int) < (s.length : Int) := by omega
      have C := contains_any w _ a ha han p
      by_cases hgt : last < p
      · cases hi : isB a p
        · have HE : Hid (nextB s a last = p) := Lib.hid (next_take_hit hno.out hlt HP.out (by rw [hi]; simp [hgt]))
          rw [hi] at C
          go_wp2_with fail
          refine C.mono ?_
          rintro e w5 ⟨rfl, rfl⟩
          go_wp2
          go_ret
          exact ⟨by rw [HE.out]; rfl, rfl⟩
        · have HE : Hid (nextL (s.take (k + 1)) a last = []) := Lib.hid (next_take_more hno.out hlt HP.out (by rw [hi]; simp))
          rw [hi] at C
          go_wp2_with fail
          refine C.mono ?_
          rintro e w5 ⟨rfl, rfl⟩
          go_wp2
          go_round
          case rel => exact ⟨k + 1, by omega, by go_num, HE⟩
          case measure => simp [intOf]; omega
      · have HE : Hid (nextL (s.take (k + 1)) a last = []) := Lib.hid (next_take_more hno.out hlt HP.out (by simp [hgt]))
        have hg2 : decide (last < p) = false := by simp [hgt]
        clear C
        go_wp2
        go_round
        case rel => exact ⟨k + 1, by omega, by go_num, HE⟩
        case measure => simp [intOf]; omega
    · obtain rfl : k = s.length := by omega
      have HE : Hid (nextB s a last = -1) := Lib.hid (by
        have := hno.out
        rw [List.take_length] at this
        unfold nextB
        rw [this]
        rfl)
      go_wp2
      go_ret
      exact ⟨by rw [HE.out]; rfl, rfl⟩
end Go.Proofs.Ytgolhjmbloiakaa
