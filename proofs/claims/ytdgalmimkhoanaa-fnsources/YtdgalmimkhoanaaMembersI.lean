/- Contract of the program's Members: a new list of those that are in the set. -/
import Derived.Test.YtdgalmimkhoanaaMB
import Derived.Test.YtdgalmimkhoanaaMA
import Derived.Outline
namespace Go.Proofs.Ytdgalmimkhoanaa
open Go.ChangeShapes Go.WideShapes Go.ChangeAt Go.RowKit

theorem mem_hit (s : Int) (k : Nat) (h : inSetB s k = true) : mem s (k + 1) = mem s k ++ [(k : Int)] := by simp [mem, h]
theorem mem_miss (s : Int) (k : Nat) (h : inSetB s k = false) : mem s (k + 1) = mem s k := by simp [mem, h]
set_option maxRecDepth 100000 in
set_option maxHeartbeats 400000 in
theorem chosen_has (s : Int) (w : World) :
    Calls Try.prog 54 #[.func (Fn.func 55) #[.int .i64 s] #[]] w fun e w' => ∃ v', e = .returned v' ∧ Own w' w.heap.size v' (mem s 12) ∧ Keep w w' := by
  have hown0 : Own (w.alloc (.cells #[] 2)) w.heap.size (.slice (some ⟨w.heap.size, 0, none⟩) 0 0) [] := World.ownsRow_lit w #[] 0 (Nat.le_refl _) (by decide) rfl
  obtain ⟨i0, hi, hz0, hz1, hz2⟩ := info_parts Try.infoI
  go_enter Try.func54, Try.ntmps54
  go_wp2
  go_loopw [3, 6] (fun v i wr => ∃ k : Nat, k ≤ 12 ∧ i = .int .i64 k ∧ Own wr w.heap.size v (mem s k) ∧ Keep w wr) (fun _ i _ => 12 - (intOf i).toNat)
  case atStart => exact ⟨0, Nat.zero_le _, rfl, hown0, (Keep.refl _).alloc _⟩
  case round =>
    obtain ⟨k, hk, rfl, ho, hK⟩ := hrel
    clear hown0
    by_cases hlt : k < 12
    · have hml := mem_len s k
      have hsz := hK.size
      cases hb : inSetB s k
      · have HM : Hid (mem s (k + 1) = mem s k) := mem_miss s k hb
        go_wp2_with (go_at_call 55; refine (has_any _ _ _).mono ?_; rintro e w' ⟨rfl, rfl⟩)
        go_roundw
        case rel => exact ⟨k + 1, by omega, by go_num, by rw [HM.out]; exact ho, hK⟩
        case measure => simp [intOf]; omega
      · have HM : Hid (mem s (k + 1) = mem s k ++ [(k : Int)]) := mem_hit s k hb
        go_wp2_with (first | (go_at_call 55; refine (has_any _ _ _).mono ?_; rintro e w' ⟨rfl, rfl⟩) | (at_builtin; refine wpList_append_own _ rfl _ _ 27 rfl w.heap.size 2 i0 (.int .i64 0) 1 8 Try.underlying27 hi hz0 hz1 hz2 rfl (by decide) _ _ _ rfl (World.ownsRow.alloc ho _) ⟨_, 0, none⟩ 1 1 [.int .i64 k] rfl rfl ?c1 ?c2 ?c3 ?c4 ?c5 ?_))
        case c1 =>
          intro j u hj
          match j, hj with
          | 0, hj => simp at hj; subst hj; simp [Addr.add]
        case c2 => intro u hu; simp at hu; subst hu; rfl
        case c3 => unfold maxLen; omega
        case c4 => omega
        case c5 => simp; omega
        intro v' w1 hown' hgrow _
        have hK1 : Keep w w1 := (hK.alloc _).grown hgrow ho.ge
        clear hgrow
        go_wp2
        go_roundw
        case rel => exact ⟨k + 1, by omega, by go_num, by rw [HM.out]; exact own_hit hown', hK1⟩
        case measure => simp [intOf]; omega
    · obtain rfl : k = 12 := by omega
      go_wp2
      go_ret
      exact ⟨_, rfl, ho, hK⟩
theorem implMembers_any (s : Int) (w : World) :
    Calls Try.prog 22 #[.int .i64 s] w fun e w' => ∃ v', e = .returned v' ∧ Own w' w.heap.size v' (mem s 12) ∧ Keep w w' := by
  go_enter Try.func22, Try.ntmps22
  go_wp2_with (go_at_call 54; refine (chosen_has _ _).mono ?_; rintro e w' ⟨v', rfl, ho, hK⟩)
  go_ret
  exact ⟨_, rfl, ho, hK⟩
end Go.Proofs.Ytdgalmimkhoanaa
