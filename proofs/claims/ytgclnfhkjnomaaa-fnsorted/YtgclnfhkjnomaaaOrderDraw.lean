/- Contract of the draw of a web that mostly does not go round. -/
import Derived.Test.YtgclnfhkjnomaaaWebDrawA
namespace Go.Proofs.Ytgclnfhkjnomaaa
open Go.ChangeShapes Go.WideShapes Go.ChangeAt Go.RowKit

set_option maxHeartbeats 2000000 in
theorem l3Draw_any (w : World) (B g : Nat) (hc : Cur w B g) :
    Calls Try.prog 79 #[.pointer (some ⟨g, 0, none⟩)] w fun e w' => ∃ v l, e = .returned v ∧ Row w' w.heap.size v l ∧ l.length ≤ 13 ∧ Cur w' B g ∧ w.grownBy w' (some g) := by
  have hg0 := hc.lt
  go_enter Try.func79, Try.ntmps79
  go_wp2_with fail
  refine (l2Draw_any _ B g hc).mono ?_
  rintro e w1 ⟨v, l, rfl, r1, hl, c1, g1⟩
  clear hc
  have hs1 := g1.size
  go_wp2_with fail
  refine (once_any _ B g _ c1 (by omega)).mono ?_
  rintro e w2 ⟨b, rfl, c2, g2⟩
  have G2 := grown_trans g1 g2
  have r2 := r1.kept g2 (by
    cases hv : v.ownBlock with
    | none => exact .inl rfl
    | some k => exact .inr (fun e => by have := r1.ge k hv; simp at e; omega))
  clear c1 g1 g2 r1
  cases b
  · rcases r2 with ⟨rfl, rfl⟩ | ⟨gg, cap, rfl, hgg, hr⟩
    · go_wp2
      refine wp_loop_rounds 1 ?_
      rw [rounds_succ]
      go_wp2
      go_ret
      exact ⟨_, [], rfl, .inl ⟨rfl, rfl⟩, by simp, c2, G2⟩
    · by_cases hbig : 12 < l.length
      · go_wp2
        go_ret
        exact ⟨_, l, rfl, .inr ⟨gg, cap, rfl, hgg, hr⟩, hl, c2, G2⟩
      · go_wp2_with fail
        go_loopw [4] (fun i wr => ∃ (k : Nat) (l' : List Int), k ≤ l.length ∧ i = .int .i64 k ∧ l'.length = l.length ∧ RowAt wr gg l' ∧ Cur wr B g ∧ w.grownBy wr (some g)) (fun i _ => l.length - (intOf i).toNat)
        case atStart => exact ⟨0, l, Nat.zero_le _, rfl, rfl, hr, c2, G2⟩
        case round =>
          clear hr c2 G2
          obtain ⟨k, l', hk, rfl, hl', hr, hcu, hG⟩ := hrel
          have HL : Hid (l'.length = l.length) := hl'
          by_cases hlt : k < l.length
          · have d0 := hr.cell (j := k) (by omega)
            have d1 := hr.free k
            clear hl'
            generalize l'.getD k 0 = x at *
            go_wp2
            go_roundw
            case rel =>
              refine ⟨k + 1, l'.set k _, by omega, by go_num, by rw [List.length_set]; exact HL.out, hr.set k _, hcu.kept (grown_set _ gg k _) (fun e => by simp at e; omega) (fun i hi => by simp at hi; have := hcu.1; omega), grown_new hG (grown_set _ gg k _) (fun i hi => by simp at hi; omega)⟩
            case measure => simp [intOf]; omega
          · obtain rfl : k = l.length := by omega
            clear hl'
            go_wp2
            go_ret
            exact ⟨_, l', rfl, row_new hr hgg HL.out, by rw [HL.out]; exact hl, hcu, hG⟩
  · obtain ⟨a2, c2', rfl, _⟩ := r2.rd
    go_wp2
    go_ret
    exact ⟨_, l, rfl, r2, hl, c2, G2⟩
end Go.Proofs.Ytgclnfhkjnomaaa
