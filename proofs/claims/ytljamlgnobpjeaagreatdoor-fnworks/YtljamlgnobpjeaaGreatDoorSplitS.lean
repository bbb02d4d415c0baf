/- Contract of the specification's l1Split: a new list of the words of a text. -/
import Derived.Test.YtljamlgnobpjeaaGreatDoorMB
import Derived.Test.YtljamlgnobpjeaaGreatDoorMA
import Derived.Lib.Hide
import Derived.Lib.Strings
import Derived.Outline
namespace Go.Proofs.YtljamlgnobpjeaaGreatDoor
open Go.ChangeShapes Go.WideShapes Go.ChangeAt Go.RowKit

theorem get_at (l : List UInt8) (k : Nat) (hk : k < (⟨l.toArray⟩ : ByteArray).size) : (⟨l.toArray⟩ : ByteArray)[k]'hk = byteAt l k := by
  have hk' : k < l.length := by simpa [ByteArray.size] using hk
  unfold byteAt
  rw [List.getD_eq_getElem?_getD, List.getElem?_eq_getElem hk']
  rfl
theorem size_at (l : List UInt8) : (⟨l.toArray⟩ : ByteArray).size = l.length := by simp [ByteArray.size]
theorem ext_at (l : List UInt8) (f k : Nat) : (⟨l.toArray⟩ : ByteArray).extract f k = ⟨(segL l f k).toArray⟩ := Lib.extract_eq ⟨l.toArray⟩ f k
theorem u8_beq (a b : UInt8) : ((a.toNat : Int) == (b.toNat : Int)) = decide (a = b) := by
  rw [Bool.eq_iff_iff]
  simp only [beq_iff_eq, decide_eq_true_eq]
  constructor
  · intro h; exact UInt8.toNat.inj (by omega)
  · rintro rfl; rfl
set_option maxRecDepth 100000 in
set_option maxHeartbeats 1000000 in
theorem l1Split_any (b : UInt8) (l : List UInt8) (w : World) (hl : l.length ≤ 1048576) :
    Calls Tryz.prog 49 #[strV l, .int .u8 (b.toNat : Int)] w fun e w' => ∃ v', e = .returned v' ∧ OwnS w' w.heap.size v' (splitL b l) ∧ Keep w w' := by
  have hown0 : OwnS (w.alloc (.cells #[] 9)) w.heap.size (.slice (some ⟨w.heap.size, 0, none⟩) 0 0) [] := World.ownsRow_lit w #[] 0 (Nat.le_refl _) (by decide) rfl
  obtain ⟨i0, hi, hz0, hz1, hz2⟩ := info_parts Tryz.infoS
  go_enter Tryz.func49, Tryz.ntmps49
  go_wp2
  go_loopw [5, 6, 7] (fun v f i wr => ∃ (k g : Nat) (ws : List (List UInt8)), k ≤ l.length + 1 ∧ i = .int .i64 k ∧ f = .int .i64 g ∧ splitInv b l ws g k ∧ ws.length ≤ k ∧ OwnS wr w.heap.size v ws ∧ Keep w wr) (fun _ _ i _ => l.length + 1 - (intOf i).toNat)
  case atStart => exact ⟨0, 0, [], Nat.zero_le _, rfl, rfl, splitInv_start b l, Nat.le_refl _, hown0, (Keep.refl _).alloc _⟩
  case round =>
    obtain ⟨k, g, ws, hk, rfl, rfl, hinv, hwl, ho, hK⟩ := hrel
    clear hown0
    have hsz := hK.size
    by_cases hlt : k ≤ l.length
    · have hg : g ≤ k := splitInv_from hinv hlt
      have hext := ext_at l g k
      by_cases hlast : k = l.length
      · have HN : Hid (splitInv b l (ws ++ [segL l g k]) (k + 1) (k + 1)) := by subst hlast; exact Lib.hid (splitInv_last hinv)
        have hke : ((k : Int) == (l.length : Int)) = true := by simp [hlast]
        have hk1 : l.length ≤ k := by omega
        clear hlast
        · clear hinv
          go_wp2_with (at_builtin; refine wpList_append_own _ rfl _ _ 33 rfl w.heap.size 9 i0 (.string ⟨#[]⟩) 1 16 Tryz.underlying33 hi hz0 hz1 hz2 rfl (by decide) _ _ _ rfl (World.ownsRow.alloc ho _) ⟨_, 0, none⟩ 1 1 [strV (segL l g k)] rfl rfl ?c1 ?c2 ?c3 ?c4 ?c5 ?_)
          case c1 =>
            intro j u hj
            match j, hj with
            | 0, hj => simp at hj; subst hj; simp [Addr.add]
          case c2 => intro u hu; simp at hu; subst hu; rfl
          case c3 => unfold maxLen; omega
          case c4 => omega
          case c5 => simp; omega
          intro v' w1 hown' hgrow _
          have hK1 : Keep w w1 := (hK.alloc _).grown hgrow ho.ge
          clear hgrow
          go_wp2
          go_roundw
          case rel => exact ⟨k + 1, k + 1, ws ++ [segL l g k], by omega, by go_num, by go_num, HN.out, by simp; omega, ownS_hit hown', hK1⟩
          case measure => simp [intOf]; omega
      · have hkl : k < l.length := by omega
        have hke : ((k : Int) == (l.length : Int)) = false := by simp; omega
        have hget := get_at l k (by rw [size_at]; exact hkl)
        by_cases hb : byteAt l k = b
        · have HN : Hid (splitInv b l (ws ++ [segL l g k]) (k + 1) (k + 1)) := Lib.hid (splitInv_hit hinv hkl hb)
          have hbb : (((byteAt l k).toNat : Int) == (b.toNat : Int)) = true := by rw [u8_beq]; simpa using hb
          clear hb hinv
          go_wp2_with (at_builtin; refine wpList_append_own _ rfl _ _ 33 rfl w.heap.size 9 i0 (.string ⟨#[]⟩) 1 16 Tryz.underlying33 hi hz0 hz1 hz2 rfl (by decide) _ _ _ rfl (World.ownsRow.alloc ho _) ⟨_, 0, none⟩ 1 1 [strV (segL l g k)] rfl rfl ?c1 ?c2 ?c3 ?c4 ?c5 ?_)
          case c1 =>
            intro j u hj
            match j, hj with
            | 0, hj => simp at hj; subst hj; simp [Addr.add]
          case c2 => intro u hu; simp at hu; subst hu; rfl
          case c3 => unfold maxLen; omega
          case c4 => omega
          case c5 => simp; omega
          intro v' w1 hown' hgrow _
          have hK1 : Keep w w1 := (hK.alloc _).grown hgrow ho.ge
          clear hgrow
          go_wp2
          go_roundw
          case rel => exact ⟨k + 1, k + 1, ws ++ [segL l g k], by omega, by go_num, by go_num, HN.out, by simp; omega, ownS_hit hown', hK1⟩
          case measure => simp [intOf]; omega
        · have HN : Hid (splitInv b l ws g (k + 1)) := Lib.hid (splitInv_miss hinv hkl hb)
          have hbb : (((byteAt l k).toNat : Int) == (b.toNat : Int)) = false := by rw [u8_beq]; simpa using hb
          clear hb hinv
          go_wp2
          go_roundw
          case rel => exact ⟨k + 1, g, ws, by omega, by go_num, rfl, HN.out, by omega, ho, hK⟩
          case measure => simp [intOf]; omega
    · have HE := Lib.hid (splitInv_end hinv (by omega))
      go_wp2
      go_ret
      exact ⟨_, rfl, by rw [← HE.out]; exact ho, hK⟩
end Go.Proofs.YtljamlgnobpjeaaGreatDoor
