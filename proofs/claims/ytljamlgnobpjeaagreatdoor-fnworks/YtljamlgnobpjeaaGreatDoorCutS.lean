/- Contract of the specification's l5Cut: a text cut wherever another one stands in it. -/
import Derived.Test.YtljamlgnobpjeaaGreatDoorSplitS
import Derived.Test.YtljamlgnobpjeaaGreatDoorMA
import Derived.Lib.Hide
namespace Go.Proofs.YtljamlgnobpjeaaGreatDoor
open Go.ChangeShapes Go.WideShapes Go.ChangeAt Go.RowKit

theorem cutK_from (b s : List UInt8) : ∀ i : Nat, i ≤ s.length + 1 - b.length → (cutK b s i).2 ≤ s.length ∧ (cutK b s i).1.length ≤ i
  | 0, _ => by simp [cutK]
  | i + 1, h => by
    have ih := cutK_from b s i (by omega)
    rw [cutK]
    split
    · simp only [List.length_append, List.length_cons, List.length_nil]; omega
    · omega
theorem cutK_hit {b s : List UInt8} {i : Nat} (h1 : (cutK b s i).2 ≤ i) (h2 : (s.drop i).take b.length = b) : cutK b s (i + 1) = ((cutK b s i).1 ++ [segL s (cutK b s i).2 i], i + b.length) := by
  rw [cutK, if_pos ⟨h1, h2⟩]
theorem cutK_miss {b s : List UInt8} {i : Nat} (h : ¬ ((cutK b s i).2 ≤ i ∧ (s.drop i).take b.length = b)) : cutK b s (i + 1) = cutK b s i := by
  rw [cutK, if_neg h]
theorem seg_here (s : List UInt8) (i n : Nat) : segL s i (i + n) = (s.drop i).take n := by
  rw [segL, Nat.add_sub_cancel_left]
set_option maxRecDepth 100000 in
set_option maxHeartbeats 4000000 in
theorem l5Cut_any (b s : List UInt8) (w : World) (hb0 : 0 < b.length) (hb8 : b.length ≤ 8) (hl : s.length ≤ 1048576) :
    Calls Tryz.prog 27 #[strV s, strV b] w fun e w' => ∃ v', e = .returned v' ∧ OwnS w' w.heap.size v' (cutL b s) ∧ Keep w w' := by
  have hown0 : OwnS (w.alloc (.cells #[] 9)) w.heap.size (.slice (some ⟨w.heap.size, 0, none⟩) 0 0) [] := World.ownsRow_lit w #[] 0 (Nat.le_refl _) (by decide) rfl
  obtain ⟨i0, hi, hz0, hz1, hz2⟩ := info_parts Tryz.infoS
  go_enter Tryz.func27, Tryz.ntmps27
  go_wp2
  go_loopw [5, 6, 7] (fun v f i wr => ∃ (k g : Nat) (ws : List (List UInt8)), k ≤ s.length + 1 - b.length ∧ i = .int .i64 k ∧ f = .int .i64 g ∧ Hid (cutK b s k = (ws, g)) ∧ g ≤ s.length ∧ ws.length ≤ k ∧ OwnS wr w.heap.size v ws ∧ Keep w wr) (fun _ _ i _ => s.length + 1 - b.length - (intOf i).toNat)
  case atStart => exact ⟨0, 0, [], Nat.zero_le _, rfl, rfl, Lib.hid rfl, Nat.zero_le _, Nat.le_refl _, hown0, (Keep.refl _).alloc _⟩
  case round =>
    obtain ⟨k, g, ws, hk, rfl, rfl, hC, hg, hwl, ho, hK⟩ := hrel
    clear hown0
    have hsz := hK.size
    by_cases hlt : k < s.length + 1 - b.length
    · obtain ⟨n, hn⟩ : ∃ n : Nat, n = k + b.length := ⟨_, rfl⟩
      have hext := ext_at s k n
      rw [hn, seg_here, ← hn] at hext
      have en : (k : Int) + (b.length : Int) = (n : Int) := by omega
      have n1 : (n : Int) ≤ (s.length : Int) := by omega
      have n2 : (k : Int) ≤ (n : Int) := by omega
      have n3 : (k : Int) ≤ (s.length : Int) := by omega
      have HNN := Lib.hid hn
      have hns : n ≤ s.length := by omega
      clear hn
      by_cases hgk : g ≤ k
      · have egk : (g : Int) ≤ (k : Int) := by omega
        by_cases hm : (s.drop k).take b.length = b
        · have HN := cutK_hit (b := b) (s := s) (i := k) (by rw [hC.out]; exact hgk) hm
          rw [hC.out] at HN
          have HN := Lib.hid HN
          clear hC
          have em : ((s.drop k).take b.length == b) = true := by simp [hm]
          have hext2 := ext_at s g k
          clear hm
          go_wp2_with (at_builtin; refine wpList_append_own _ rfl _ _ 33 rfl w.heap.size 9 i0 (.string ⟨#[]⟩) 1 16 Tryz.underlying33 hi hz0 hz1 hz2 rfl (by decide) _ _ _ rfl (World.ownsRow.alloc ho _) ⟨_, 0, none⟩ 1 1 [strV (segL s g k)] rfl rfl ?c1 ?c2 ?c3 ?c4 ?c5 ?_)
          case c2 => first | rfl | (intro u hu; simp at hu; subst hu; rfl)
          case c3 => first | omega | (unfold maxLen; omega) | (simp; omega)
          case c4 => first | omega | (simp; omega)
          case c5 => first | omega | (simp; omega)
          intro v' w1 hown' hgrow _
          have hK1 : Keep w w1 := (hK.alloc _).grown hgrow ho.ge
          clear hgrow
          go_wp2
          go_roundw
          case rel => exact ⟨k + 1, n, ws ++ [segL s g k], by omega, by go_num, by go_num, Lib.hid (by rw [HN.out, HNN.out]), hns, by simp; omega, ownS_hit hown', hK1⟩
          case measure => simp [intOf]; omega
        · have HN := cutK_miss (b := b) (s := s) (i := k) (fun h => hm h.2)
          rw [hC.out] at HN
          have HN := Lib.hid HN
          clear hC
          have em : ((s.drop k).take b.length == b) = false := by simp [hm]
          clear hm
          go_wp2
          go_roundw
          case rel => exact ⟨k + 1, g, ws, by omega, by go_num, by go_num, HN, hg, by omega, ho, hK⟩
          case measure => simp [intOf]; omega
      · have HN := cutK_miss (b := b) (s := s) (i := k) (fun h => hgk (by have := h.1; rw [hC.out] at this; exact this))
        rw [hC.out] at HN
        have HN := Lib.hid HN
        clear hC
        have egk : (k : Int) < (g : Int) := by omega
        go_wp2
        go_roundw
        case rel => exact ⟨k + 1, g, ws, by omega, by go_num, by go_num, HN, hg, by omega, ho, hK⟩
        case measure => simp [intOf]; omega
    · have hkk : k = s.length + 1 - b.length := by omega
      have HL : Hid (cutL b s = ws ++ [segL s g s.length]) := Lib.hid (by
        rw [cutL, ← hkk, hC.out, segL, List.take_of_length_le (by simp)])
      obtain ⟨n, hn⟩ : ∃ n : Nat, n = k + b.length := ⟨_, rfl⟩
      have en : (k : Int) + (b.length : Int) = (n : Int) := by omega
      have n1 : (s.length : Int) < (n : Int) := by omega
      have kl : k ≤ 1048577 := by omega
      clear hn hkk hC hlt
      have hext := ext_at s g s.length
      have n2 : (g : Int) ≤ (s.length : Int) := by omega
      obtain ⟨a5, c5, hv5, -⟩ := ho.rd
      subst hv5
      go_wp2_with (at_builtin; refine wpList_append_own _ rfl _ _ 33 rfl w.heap.size 9 i0 (.string ⟨#[]⟩) 1 16 Tryz.underlying33 hi hz0 hz1 hz2 rfl (by decide) _ _ _ rfl (World.ownsRow.alloc ho _) ⟨_, 0, none⟩ 1 1 [strV (segL s g s.length)] rfl rfl ?b1 ?b2 ?b3 ?b4 ?b5 ?_)
      case b1 =>
        intro j u hj
        match j, hj with
        | 0, hj => simp at hj; subst hj; simp [Addr.add]
      case b2 => intro u hu; simp at hu; subst hu; rfl
      case b3 => unfold maxLen; omega
      case b4 => omega
      case b5 => simp; omega
      intro v' w1 hown' hgrow _
      have hK1 : Keep w w1 := (hK.alloc _).grown hgrow ho.ge
      clear hgrow
      go_wp2
      go_ret
      exact ⟨_, rfl, by rw [HL.out]; exact ownS_hit hown', hK1⟩
end Go.Proofs.YtljamlgnobpjeaaGreatDoor
