/- Contract of the specification's l1Words: texts with another one between each two. -/
import Derived.Test.YtljamlgnobpjeaaGreatDoorMB
import Derived.Test.YtljamlgnobpjeaaGreatDoorMA
import Derived.Lib.Hide
namespace Go.Proofs.YtljamlgnobpjeaaGreatDoor
open Go.ChangeShapes Go.WideShapes Go.ChangeAt Go.RowKit

theorem cat_str (l b : List UInt8) : ((⟨l.toArray⟩ : ByteArray) ++ (⟨b.toArray⟩ : ByteArray)) = ⟨(l ++ b).toArray⟩ := by
  apply ByteArray.ext
  simp
theorem joinK_mono (b : List UInt8) (ts : List (List UInt8)) (k : Nat) : ∀ n : Nat, k ≤ n → (joinK b ts k).length ≤ (joinK b ts n).length
  | 0, h => by
    obtain rfl : k = 0 := by omega
    exact Nat.le_refl _
  | n + 1, h => by
    by_cases e : k = n + 1
    · subst e; exact Nat.le_refl _
    · have ih := joinK_mono b ts k n (by omega)
      conv => rhs; rw [joinK]
      split
      · simp; omega
      · simp; omega
set_option maxRecDepth 100000 in
set_option maxHeartbeats 1000000 in
theorem l1Words_any (b : List UInt8) (w : World) (v : Value) (ts : List (List UInt8)) (h : RdS w v ts) (hn : ts.length ≤ 1048576) (hs : (joinL b ts).length ≤ 1048576) :
    Calls Tryz.prog 53 #[v, strV b] w fun e w' => e = .returned (strV (joinL b ts)) ∧ Keep w w' := by
  obtain ⟨a, c, rfl, h⟩ := h
  have HJ : Hid (joinK b ts ts.length = joinL b ts) := Lib.hid (by rw [joinK_take b ts _ (Nat.le_refl _), List.take_length])
  go_enter Tryz.func53, Tryz.ntmps53
  go_wp2
  go_loopw [5, 6] (fun s i wr => ∃ k : Nat, ∃ l : List UInt8, k ≤ ts.length ∧ i = .int .i64 k ∧ s = strV l ∧ Hid (l = joinK b ts k) ∧ Keep w wr) (fun _ i _ => ts.length - (intOf i).toNat)
  case atStart => exact ⟨0, [], Nat.zero_le _, rfl, rfl, Lib.hid rfl, Keep.refl _⟩
  case round =>
    obtain ⟨k, l, hk, rfl, rfl, hl, hK⟩ := hrel
    by_cases hlt : k < ts.length
    · rcases h with h | ⟨bb, o, rfl, hb, hc⟩
      · exfalso; rw [h] at hlt; simp at hlt
      have c1 := (hK.cell hb).trans (hc k hlt)
      have hsz := joinK_mono b ts (k + 1) ts.length hlt
      rw [HJ.out] at hsz
      clear hc
      have i1 : (0 : Int) ≤ (k : Int) := Int.natCast_nonneg _
      have i2 : (k : Int) < (ts.length : Int) := by omega
      by_cases k0 : k = 0
      · have HN : Hid (l ++ ts.getD k [] = joinK b ts (k + 1)) := Lib.hid (by rw [joinK, if_pos k0, hl.out])
        rw [← HN.out, List.length_append] at hsz
        have ek : (k : Int) ≤ 0 := by omega
        clear hl k0
        generalize ts.getD k [] = t at c1 HN hsz
        go_wp2
        go_roundw
        case rel => exact ⟨k + 1, l ++ t, by omega, by go_num, by rw [cat_str], HN, hK⟩
        case measure => simp [intOf]; omega
      · have HN : Hid (l ++ b ++ ts.getD k [] = joinK b ts (k + 1)) := Lib.hid (by rw [joinK, if_neg k0, hl.out])
        rw [← HN.out, List.length_append, List.length_append] at hsz
        have ek : (0 : Int) < (k : Int) := by omega
        clear hl k0
        generalize ts.getD k [] = t at c1 HN hsz
        go_wp2
        go_roundw
        case rel => exact ⟨k + 1, l ++ b ++ t, by omega, by go_num, by rw [cat_str, cat_str], HN, hK⟩
        case measure => simp [intOf]; omega
    · obtain rfl : k = ts.length := by omega
      go_wp2
      go_ret
      exact ⟨by rw [← HJ.out, ← hl.out]; rfl, hK⟩
end Go.Proofs.YtljamlgnobpjeaaGreatDoor
