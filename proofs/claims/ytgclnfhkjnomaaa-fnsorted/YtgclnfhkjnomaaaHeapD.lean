/- Contracts of the library's heap, the rest: down, Push, Pop; and of the program's letIn and least over them. -/
import Derived.Test.YtgclnfhkjnomaaaHeapL
namespace Go.Proofs.Ytgclnfhkjnomaaa
open Go.ChangeShapes Go.WideShapes Go.ChangeAt Go.RowKit

set_option maxRecDepth 100000 in
set_option maxHeartbeats 8000000 in
theorem heapDown_any (w : World) (hb : Nat) (v : Value) (q : List Int) (n : Nat) (h : Hp w hb v q) (hn : q.length = n + 1) (hd : DownAt q n 0) (h12 : n ≤ 12) :
    Calls Try.prog 90 #[.iface 72 (.pointer (some ⟨hb, 0, none⟩)), .int .i64 0, .int .i64 n] w fun e w' => (∃ b, e = .returned (.bool b)) ∧ ∃ q', q'.Perm q ∧ HeapN q' n ∧ q'.getD n 0 = q.getD n 0 ∧ Hp w' hb v q' ∧ Turn w w' hb v.ownBlock := by
  obtain ⟨g, cap, rfl, hg⟩ := h.shape (by omega)
  have HN : Hid (q.length = n + 1) := hn
  rw [hn] at h
  rw [hn]
  clear hn
  go_enter Try.func90, Try.ntmps90
  go_wp2_with fail
  go_loopw [7] (fun i wr => ∃ (k : Nat) (q' : List Int), i = .int .i64 k ∧ k ≤ n ∧ q'.length = n + 1 ∧ q'.Perm q ∧ DownAt q' n k ∧ q'.getD n 0 = q.getD n 0 ∧ Hp wr hb (.slice (some ⟨g, 0, none⟩) (n + 1) cap) q' ∧ Turn w wr hb (some g)) (fun i _ => n - (intOf i).toNat)
  case atStart => exact ⟨0, q, rfl, Nat.zero_le _, HN.out, List.Perm.refl _, hd, rfl, h, Turn.refl _ _ _⟩
  case round =>
    clear h hd
    obtain ⟨k, q', rfl, hk, hl, hp, hd, hx, h, hT⟩ := hrel
    have HL : Hid (q'.length = n + 1) := hl
    have HP : Hid (q'.Perm q) := hp
    have HD : Hid (DownAt q' n k) := hd
    have HX : Hid (q'.getD n 0 = q.getD n 0) := hx
    clear hl hp hd hx
    obtain ⟨a, ha1, ha2⟩ : ∃ a : Nat, 2 * (k : Int) + 1 = (a : Int) ∧ a = 2 * k + 1 := ⟨2 * k + 1, by omega, rfl⟩
    have HA : Hid (a = 2 * k + 1) := ha2
    by_cases hna : n ≤ a
    · have HH : Hid (HeapN q' n) := down_stop HD.out fun c c0 cn cp => by have := HA.out; omega
      clear ha2
      go_wp2
      go_ret
      exact ⟨⟨_, rfl⟩, q', HP.out, HH.out, HX.out, h, hT⟩
    · have hka : k < a := by omega
      clear ha2
      have h0 := h.at
      have m0 := meth_less h0
      have hrow := h.own.rowAt
      obtain ⟨b, hb1, hb2⟩ : ∃ b : Nat, (a : Int) + 1 = (b : Int) ∧ b = a + 1 := ⟨a + 1, by omega, rfl⟩
      have HB : Hid (b = a + 1) := hb2
      by_cases hbn : b < n
      · have hab : a < b := by omega
        clear hb2
        cases hl2 : ltB q' b a
        · have HM : Hid (∀ c, 0 < c → c < n → (c - 1) / 2 = k → q'.getD a 0 ≤ q'.getD c 0) := fun c c0 cn cp => by
            have h1 := HA.out
            have h2 := HB.out
            have h3 := ltB_no hl2
            by_cases e : c = a
            · rw [e]; omega
            · rw [show c = b by omega]; exact h3
          go_wp2_with fail
          refine (wLess_any _ g (n + 1) cap q' hrow HL.out.symm b a (by omega) (by omega) (by omega)).mono ?_
          rintro e w2 ⟨rfl, m⟩
          have h2 := h.keep m
          have T2 := hT.keeps m
          have h02 := h2.at
          have m2 := meth_less h02
          have hrow2 := h2.own.rowAt
          clear h0 m0 h hT hrow
          cases hl3 : ltB q' a k
          · have HH : Hid (HeapN q' n) := down_stop HD.out fun c c0 cn cp => Int.le_trans (ltB_no hl3) (HM.out c c0 cn cp)
            go_wp2_with fail
            refine (wLess_any _ g (n + 1) cap q' hrow2 HL.out.symm a k (by omega) (by omega) (by omega)).mono ?_
            rintro e w3 ⟨rfl, m'⟩
            go_wp2
            go_ret
            exact ⟨⟨_, rfl⟩, q', HP.out, HH.out, HX.out, h2.keep m', T2.keeps m'⟩
          · have HV : Hid (DownAt (swapL q' k a) n a) := by
              show DownAt _ _ _
              have h1 := HA.out
              have h2 := HB.out
              exact down_step (by have := HL.out; omega) HD.out (by omega) (by omega) (by omega) (ltB_yes hl3) HM.out
            have HW : Hid ((swapL q' k a).Perm q) := (swap_perm (by have := HL.out; omega) (by have := HL.out; omega)).trans HP.out
            have HY : Hid ((swapL q' k a).getD n 0 = q.getD n 0) := by
              show _ = _
              rw [getD_swap (by have := HL.out; omega) (by have := HL.out; omega), if_neg (by omega), if_neg (by omega)]
              exact HX.out
            go_wp2_with fail
            refine (wLess_any _ g (n + 1) cap q' hrow2 HL.out.symm a k (by omega) (by omega) (by omega)).mono ?_
            rintro e w3 ⟨rfl, m'⟩
            have h3 := h2.keep m'
            have T3 := T2.keeps m'
            have h03 := h3.at
            have m3 := meth_swap h03
            clear h2 T2 h02 m2 hrow2
            go_wp2_with fail
            refine (wSwap_any _ (hb + 1) g (n + 1) cap q' h3.own k a (by omega) (by omega) (by omega)).mono ?_
            rintro e w4 ⟨rfl, o4, g4⟩
            have h4 := h3.swap hg o4 g4
            have T4 := T3.trans (Turn.of_b (a := hb) g4) (.inl rfl)
            clear h3 T3 h03 m3 o4 g4
            go_wp2
            go_roundw
            case rel => exact ⟨a, swapL q' k a, by first | rfl | go_num, by omega, by rw [swap_len]; exact HL.out, HW.out, HV.out, HY.out, h4, T4⟩
            case measure => simp [intOf]; omega
        · have HM : Hid (∀ c, 0 < c → c < n → (c - 1) / 2 = k → q'.getD b 0 ≤ q'.getD c 0) := fun c c0 cn cp => by
            have h1 := HA.out
            have h2 := HB.out
            have h3 := ltB_yes hl2
            by_cases e : c = a
            · rw [e]; omega
            · rw [show c = b by omega]; omega
          go_wp2_with fail
          refine (wLess_any _ g (n + 1) cap q' hrow HL.out.symm b a (by omega) (by omega) (by omega)).mono ?_
          rintro e w2 ⟨rfl, m⟩
          have h2 := h.keep m
          have T2 := hT.keeps m
          have h02 := h2.at
          have m2 := meth_less h02
          have hrow2 := h2.own.rowAt
          clear h0 m0 h hT hrow
          cases hl3 : ltB q' b k
          · have HH : Hid (HeapN q' n) := down_stop HD.out fun c c0 cn cp => Int.le_trans (ltB_no hl3) (HM.out c c0 cn cp)
            go_wp2_with fail
            refine (wLess_any _ g (n + 1) cap q' hrow2 HL.out.symm b k (by omega) (by omega) (by omega)).mono ?_
            rintro e w3 ⟨rfl, m'⟩
            go_wp2
            go_ret
            exact ⟨⟨_, rfl⟩, q', HP.out, HH.out, HX.out, h2.keep m', T2.keeps m'⟩
          · have HV : Hid (DownAt (swapL q' k b) n b) := by
              show DownAt _ _ _
              have h1 := HA.out
              have h2 := HB.out
              exact down_step (by have := HL.out; omega) HD.out (by omega) (by omega) (by omega) (ltB_yes hl3) HM.out
            have HW : Hid ((swapL q' k b).Perm q) := (swap_perm (by have := HL.out; omega) (by have := HL.out; omega)).trans HP.out
            have HY : Hid ((swapL q' k b).getD n 0 = q.getD n 0) := by
              show _ = _
              rw [getD_swap (by have := HL.out; omega) (by have := HL.out; omega), if_neg (by omega), if_neg (by omega)]
              exact HX.out
            go_wp2_with fail
            refine (wLess_any _ g (n + 1) cap q' hrow2 HL.out.symm b k (by omega) (by omega) (by omega)).mono ?_
            rintro e w3 ⟨rfl, m'⟩
            have h3 := h2.keep m'
            have T3 := T2.keeps m'
            have h03 := h3.at
            have m3 := meth_swap h03
            clear h2 T2 h02 m2 hrow2
            go_wp2_with fail
            refine (wSwap_any _ (hb + 1) g (n + 1) cap q' h3.own k b (by omega) (by omega) (by omega)).mono ?_
            rintro e w4 ⟨rfl, o4, g4⟩
            have h4 := h3.swap hg o4 g4
            have T4 := T3.trans (Turn.of_b (a := hb) g4) (.inl rfl)
            clear h3 T3 h03 m3 o4 g4
            go_wp2
            go_roundw
            case rel => exact ⟨b, swapL q' k b, by first | rfl | go_num, by omega, by rw [swap_len]; exact HL.out, HW.out, HV.out, HY.out, h4, T4⟩
            case measure => simp [intOf]; omega
      · have HM : Hid (∀ c, 0 < c → c < n → (c - 1) / 2 = k → q'.getD a 0 ≤ q'.getD c 0) := fun c c0 cn cp => by
          have h1 := HA.out
          have h2 := HB.out
          rw [show c = a by omega]; omega
        clear hb2
        cases hl3 : ltB q' a k
        · have HH : Hid (HeapN q' n) := down_stop HD.out fun c c0 cn cp => Int.le_trans (ltB_no hl3) (HM.out c c0 cn cp)
          go_wp2_with fail
          refine (wLess_any _ g (n + 1) cap q' hrow HL.out.symm a k (by omega) (by omega) (by omega)).mono ?_
          rintro e w3 ⟨rfl, m'⟩
          go_wp2
          go_ret
          exact ⟨⟨_, rfl⟩, q', HP.out, HH.out, HX.out, h.keep m', hT.keeps m'⟩
        · have HV : Hid (DownAt (swapL q' k a) n a) := by
            show DownAt _ _ _
            have h1 := HA.out
            have h2 := HB.out
            exact down_step (by have := HL.out; omega) HD.out (by omega) (by omega) (by omega) (ltB_yes hl3) HM.out
          have HW : Hid ((swapL q' k a).Perm q) := (swap_perm (by have := HL.out; omega) (by have := HL.out; omega)).trans HP.out
          have HY : Hid ((swapL q' k a).getD n 0 = q.getD n 0) := by
            show _ = _
            rw [getD_swap (by have := HL.out; omega) (by have := HL.out; omega), if_neg (by omega), if_neg (by omega)]
            exact HX.out
          go_wp2_with fail
          refine (wLess_any _ g (n + 1) cap q' hrow HL.out.symm a k (by omega) (by omega) (by omega)).mono ?_
          rintro e w3 ⟨rfl, m'⟩
          have h3 := h.keep m'
          have T3 := hT.keeps m'
          have h03 := h3.at
          have m3 := meth_swap h03
          clear h hT h0 m0 hrow
          go_wp2_with fail
          refine (wSwap_any _ (hb + 1) g (n + 1) cap q' h3.own k a (by omega) (by omega) (by omega)).mono ?_
          rintro e w4 ⟨rfl, o4, g4⟩
          have h4 := h3.swap hg o4 g4
          have T4 := T3.trans (Turn.of_b (a := hb) g4) (.inl rfl)
          clear h3 T3 h03 m3 o4 g4
          go_wp2
          go_roundw
          case rel => exact ⟨a, swapL q' k a, by first | rfl | go_num, by omega, by rw [swap_len]; exact HL.out, HW.out, HV.out, HY.out, h4, T4⟩
          case measure => simp [intOf]; omega
set_option maxHeartbeats 2000000 in
theorem heapPush_any (w : World) (hb : Nat) (v : Value) (q : List Int) (x : Int) (h : Hp w hb v q) (hq : HeapN q q.length) (h12 : q.length ≤ 12) :
    Calls Try.prog 87 #[.iface 72 (.pointer (some ⟨hb, 0, none⟩)), .iface 2 (.int .i64 x)] w fun e w' => e = .returned (.tuple #[]) ∧ ∃ v' q', q'.Perm (q ++ [x]) ∧ HeapN q' q'.length ∧ Hp w' hb v' q' ∧ (v'.ownBlock = v.ownBlock ∨ ∀ k, v'.ownBlock = some k → w.heap.size ≤ k) ∧ Turn w w' hb v.ownBlock := by
  have HU : Hid (UpAt (q ++ [x]) (q ++ [x]).length q.length) := up_start hq x
  have HLen : Hid ((q ++ [x]).length = q.length + 1) := by show _ = _; simp
  go_enter Try.func87, Try.ntmps87
  go_wp2_with fail
  refine (wPush_any _ hb v q x h h12).mono ?_
  rintro e w1 ⟨rfl, v1, h1, hB, T1⟩
  clear h
  obtain ⟨Q, hQ⟩ : ∃ Q, Q = q ++ [x] := ⟨_, rfl⟩
  have HQ : Hid (Q = q ++ [x]) := hQ
  rw [← hQ] at h1 HU HLen
  clear hQ
  obtain ⟨g, cap, rfl, hg⟩ := h1.shape (by have := HLen.out; omega)
  rw [HLen.out] at h1 hB
  have h01 := h1.at
  have m1 := meth_len h01
  go_wp2_with fail
  refine (wLen_any _ _ _ _).mono ?_
  rintro e w1' ⟨rfl, rfl⟩
  clear m1 h01
  go_wp2_with fail
  refine (heapUp_any _ hb _ Q q.length h1 (by have := HLen.out; omega) HU.out (by have := HLen.out; omega)).mono ?_
  rintro e w2 ⟨rfl, q', hp, hh, h2, T2⟩
  have T3 := T1.trans T2 hB
  rw [HQ.out] at hp
  go_wp2
  go_end0
  exact ⟨rfl, _, q', hp, hh, h2, hB, T3⟩
set_option maxHeartbeats 2000000 in
theorem heapPop_any (w : World) (hb : Nat) (v : Value) (q : List Int) (h : Hp w hb v q) (hq : HeapN q q.length) (h0 : 0 < q.length) (h12 : q.length ≤ 13) :
    Calls Try.prog 88 #[.iface 72 (.pointer (some ⟨hb, 0, none⟩))] w fun e w' => e = .returned (.iface 2 (.int .i64 (q.getD 0 0))) ∧ ∃ v' q', (q' ++ [q.getD 0 0]).Perm q ∧ HeapN q' q'.length ∧ Hp w' hb v' q' ∧ v'.ownBlock = v.ownBlock ∧ Turn w w' hb v.ownBlock := by
  obtain ⟨g, cap, rfl, hg⟩ := h.shape h0
  obtain ⟨n, hn⟩ : ∃ n, q.length = n + 1 := ⟨q.length - 1, by omega⟩
  have HN : Hid (q.length = n + 1) := hn
  have HQ : Hid (HeapN q q.length) := hq
  have n12 : n ≤ 12 := by omega
  rw [hn] at h
  rw [hn]
  clear hn hq h0 h12
  have h00 := h.at
  have m0 := meth_len h00
  have m1 := meth_swap h00
  go_enter Try.func88, Try.ntmps88
  go_wp2_with fail
  refine (wLen_any _ _ _ _).mono ?_
  rintro e w1 ⟨rfl, rfl⟩
  clear m0
  go_wp2_with fail
  refine (wSwap_any _ (hb + 1) g (n + 1) cap q h.own 0 n (by omega) (by omega) (by omega)).mono ?_
  rintro e w2 ⟨rfl, o2, g2⟩
  have h2 := h.swap hg o2 g2
  have T2 : Turn _ w2 hb (some g) := Turn.of_b g2
  clear h h00 m1 o2 g2
  have HL2 : Hid ((swapL q 0 n).length = n + 1) := by show _ = _; rw [swap_len]; exact HN.out
  go_wp2_with fail
  refine (heapDown_any _ hb _ (swapL q 0 n) n h2 HL2.out (down_start HN.out HQ.out) n12).mono ?_
  rintro e w3 ⟨⟨bb, rfl⟩, q3, hp3, hh3, hx3, h3, T3⟩
  have T4 := T2.trans T3 (.inl rfl)
  clear h2 T2 T3
  have HL3 : Hid (q3.length = n + 1) := by show _ = _; rw [hp3.length_eq]; exact HL2.out
  have HX : Hid (q3.getD n 0 = q.getD 0 0) := by
    show _ = _
    have h0 := HN.out
    rw [hx3, getD_swap (by omega) (by omega), if_pos rfl]
  have HTk : Hid (HeapN (q3.take n) (q3.take n).length ∧ (q3.take n ++ [q.getD 0 0]).Perm q ∧ (q3.take n).length = n) := heap_taken HN.out hp3 HX.out hh3
  clear hp3 hx3 hh3
  go_wp2_with fail
  refine (wPop_any _ hb _ q3 n h3 HL3.out (by have := HL3.out; omega)).mono ?_
  rintro e w4 ⟨rfl, v4, h4, hB4, T5⟩
  rw [HX.out]
  have T6 := T4.trans T5 (.inl rfl)
  go_wp2
  go_ret
  exact ⟨rfl, v4, q3.take n, HTk.out.2.1, HTk.out.1, h4, hB4, T6⟩
theorem letIn_any (w : World) (hb : Nat) (v : Value) (q : List Int) (x : Int) (h : Hp w hb v q) (hq : HeapN q q.length) (h12 : q.length ≤ 12) :
    Calls Try.prog 85 #[.pointer (some ⟨hb, 0, none⟩), .int .i64 x] w fun e w' => e = .returned (.tuple #[]) ∧ ∃ v' q', q'.Perm (q ++ [x]) ∧ HeapN q' q'.length ∧ Hp w' hb v' q' ∧ (v'.ownBlock = v.ownBlock ∨ ∀ k, v'.ownBlock = some k → w.heap.size ≤ k) ∧ Turn w w' hb v.ownBlock := by
  go_enter Try.func85, Try.ntmps85
  go_wp2_with fail
  refine (heapPush_any _ hb v q x h hq h12).mono ?_
  rintro e w1 ⟨rfl, v1, q1, hp, hh, h1, hB, T1⟩
  go_wp2
  go_end0
  exact ⟨rfl, v1, q1, hp, hh, h1, hB, T1⟩
theorem least_any (w : World) (hb : Nat) (v : Value) (q : List Int) (h : Hp w hb v q) (hq : HeapN q q.length) (h0 : 0 < q.length) (h12 : q.length ≤ 13) :
    Calls Try.prog 86 #[.pointer (some ⟨hb, 0, none⟩)] w fun e w' => e = .returned (.int .i64 (q.getD 0 0)) ∧ ∃ v' q', (q' ++ [q.getD 0 0]).Perm q ∧ HeapN q' q'.length ∧ Hp w' hb v' q' ∧ v'.ownBlock = v.ownBlock ∧ Turn w w' hb v.ownBlock := by
  have HA := heapPop_any w hb v q h hq h0 h12
  generalize q.getD 0 0 = x at *
  have ta : ∀ W : World, Sem.run Try.prog (Instr.typeAssert (.iface 2 (.int .i64 x)) 20 2 false) W = .ok (.int .i64 x) W := fun _ => by kernel_rfl
  go_enter Try.func86, Try.ntmps86
  go_wp2_with fail
  refine HA.mono ?_
  rintro e w1 ⟨rfl, v1, q1, hp, hh, h1, hB, T1⟩
  go_wp2
  go_ret
  exact ⟨rfl, v1, q1, hp, hh, h1, hB, T1⟩
end Go.Proofs.Ytgclnfhkjnomaaa
