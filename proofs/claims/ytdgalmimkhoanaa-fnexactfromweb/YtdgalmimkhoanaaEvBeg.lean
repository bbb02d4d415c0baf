/- Contract of the program's beginnings: the three events that were there ahead of all work. -/
import Derived.Test.YtdgalmimkhoanaaMB
import Derived.Maps.AppendAt
namespace Go.Proofs.Ytdgalmimkhoanaa
open Go.ChangeShapes Go.WideShapes Go.ChangeAt Go.RowKit

set_option maxRecDepth 100000 in
set_option maxHeartbeats 2000000 in
theorem beginnings_any (w : World) :
    Calls Try.prog 67 #[] w fun e w' => ∃ v', e = .returned v' ∧ AppE w' w.heap.size v' evBeg ∧ Keep w w' := by
  obtain ⟨j0, hj, hy0, hy1, hy2⟩ := info_parts Try.infoE
  have A0 : AppE (w.alloc (.cells #[] 41)) w.heap.size (.slice (some ⟨w.heap.size, 0, none⟩) 0 0) [] := appT_empty w
  go_enter Try.func67, Try.ntmps67
  go_wp2
  go_loopw [1, 5] (fun v i wr => ∃ k : Nat, ∃ m : Int, ∃ es : List Ev, k ≤ 3 ∧ i = .int .i64 m ∧ m = (k : Int) ∧ Hid (es = evBeg.take k) ∧ es.length ≤ k ∧ LP w wr v es []) (fun _ i _ => 3 - (intOf i).toNat)
  case atStart => exact ⟨0, 0, [], Nat.zero_le _, rfl, rfl, Lib.hid rfl, Nat.le_refl _, A0, (Keep.refl _).alloc _, by simp⟩
  case round =>
    obtain ⟨k, m, es, hk, rfl, hm, hE, hel, hL⟩ := hrel
    clear A0
    by_cases hlt : k < 3
    · subst hm
      have HM : Hid (es ++ [((-1 : Int), (-1 : Int), false, (k : Int), 0, (k : Int))] = evBeg.take (k + 1)) := Lib.hid (by
        rw [hE.out]
        have : k = 0 ∨ k = 1 ∨ k = 2 := by omega
        rcases this with rfl | rfl | rfl <;> rfl)
      clear hE
      go_wp2_with fail
      refine (eventOf_wr _ _ _).mono ?_
      rintro e w2 ⟨rfl, k2⟩
      have L2 := hL.more k2
      have hsz := L2.keep.size
      have L3 := (L2.more ((Keep.refl w2).alloc (eO (-1) (-1) false k 0 k))).more ((Keep.refl _).alloc (eO (-1) (-1) false k 0 k))
      go_wp2_with (at_builtin; refine wpList_append_own_at _ rfl _ _ 35 rfl w.heap.size 41 j0 (.agg #[.int .i64 0, .int .i64 0, .bool false, .int .i64 0, .int .i64 0, .int .i64 0]) 6 48 Try.underlying35 hj hy0 hy1 hy2 rfl (by decide) _ _ _ rfl L3.app ⟨_, 0, none⟩ 1 1 (cE ((-1 : Int), (-1 : Int), false, (k : Int), 0, (k : Int))) rfl rfl ?c1 ?c2 ?c3 ?c4 ?c5 ?_)
      case c1 => exact cE_newP _ _ (heap_size _ _) _ _ _ _ _ _
      case c2 => exact cE_oneP _
      case c3 => unfold maxLen; omega
      case c4 => omega
      case c5 => simp; omega
      intro v' w1 hown' hgrow _ hblk
      have L4 := L3.hit _ hown' hgrow (by rw [heap_size, heap_size]; exact hblk)
      clear hgrow hown' hblk L3 L2 hL
      go_wp2
      go_roundw
      case rel => exact ⟨k + 1, _, _, by omega, rfl, by omega, HM, by simp; omega, L4⟩
      case measure => simp [intOf]; omega
    obtain rfl : m = 3 := by omega
    have HB : Hid (es = evBeg) := Lib.hid (by rw [hE.out, show k = 3 by omega]; rfl)
    clear hE hm
    go_wp2
    go_ret
    exact ⟨_, rfl, by rw [← HB.out]; exact hL.app, hL.keep⟩
end Go.Proofs.Ytdgalmimkhoanaa
