/- Contract of the program's inOrder. -/
import Derived.Test.YtgclnfhkjnomaaaOrderSt
import Derived.Test.YtgclnfhkjnomaaaSetNot
namespace Go.Proofs.Ytgclnfhkjnomaaa
open Go.ChangeShapes Go.WideShapes Go.ChangeAt Go.RowKit

theorem news_one (w : World) (x : Int) (e : TypeId) : ∀ j u, [Value.int .i64 x][j]? = some u → (w.alloc (.cells #[.int .i64 x] e)).cell? ((⟨w.heap.size, 0, none⟩ : Addr).add j) = some u := by
  intro j u hj
  match j, hj with
  | 0, hj => simp at hj; subst hj; simp [Addr.add]
theorem one_cell (x : Int) : ∀ u ∈ [Value.int .i64 x], u.oneCell' = true := by
  intro u hu; simp at hu; subst hu; rfl
theorem first_step {n : Nat} {zs : List Int} (hz : Web n zs) {k : Nat} (hk : k < n) (h : (backL zs).getD k 0 = 0) (j : Nat) : ((j < k ∧ mayB zs 0 j = true) ∨ j = k) ↔ (j < k + 1 ∧ mayB zs 0 j = true) := by
  constructor
  · rintro (⟨h1, h2⟩ | rfl)
    · exact ⟨by omega, h2⟩
    · exact ⟨by omega, (may_first hz hk).2 h⟩
  · rintro ⟨h1, h2⟩
    by_cases e : j = k
    · exact .inr e
    · exact .inl ⟨by omega, h2⟩
theorem first_skip {n : Nat} {zs : List Int} (hz : Web n zs) {k : Nat} (hk : k < n) (h : ¬ (backL zs).getD k 0 = 0) (j : Nat) : (j < k ∧ mayB zs 0 j = true) ↔ (j < k + 1 ∧ mayB zs 0 j = true) := by
  constructor
  · rintro ⟨h1, h2⟩; exact ⟨by omega, h2⟩
  · rintro ⟨h1, h2⟩
    by_cases e : j = k
    · subst e; exact absurd ((may_first hz hk).1 h2) h
    · exact ⟨by omega, h2⟩
set_option maxRecDepth 100000 in
set_option maxHeartbeats 16000000 in
theorem inOrder_any (w : World) (v : Value) (zs : List Int) (h : Rd w v zs) (ht : webB zs = true) (hr : roundB zs = false) :
    Calls Try.prog 78 #[v] w fun e w' => ∃ v', e = .returned v' ∧ Row w' w.heap.size v' (sortedL zs) ∧ Keep w w' := by
  obtain ⟨i0, hi, hz0, hz1, hz2⟩ := info_parts Try.infoI
  have HW : Hid (Web zs.length zs) := web_iff.1 ht
  have HR : Hid (roundB zs = false) := hr
  have hz12 := webB_len ht
  have HBL : Hid ((backL zs).length = zs.length) := (web_back HW.out).1.2.1
  clear ht hr
  have hown0 : Own (w.alloc (.cells #[] 2)) w.heap.size (.slice (some ⟨w.heap.size, 0, none⟩) 0 0) [] := World.ownsRow_lit w #[] 0 (Nat.le_refl _) (by decide) rfl
  have kA : Keep w (w.alloc (.cells #[] 2)) := (Keep.refl w).alloc _
  have hA := h.keep kA
  obtain ⟨a, c, rfl, h⟩ := h
  go_enter Try.func78, Try.ntmps78
  go_wp2_with fail
  refine (implBack_any _ _ _ hA (by omega)).mono ?_
  rintro e w1 ⟨va, rfl, ra, k1⟩
  clear hA
  have S0 : St w (w1.alloc (.cells #[.slice none 0 0] 70)) w1.heap.size va (.slice none 0 0) (.slice (some ⟨w.heap.size, 0, none⟩) 0 0) zs [] [] := by
    have hs := k1.size
    rw [show (w.alloc (.cells #[] 2)).heap.size = w.heap.size + 1 from by simp] at hs ra
    have kB : Keep w1 (w1.alloc (.cells #[.slice none 0 0] 70)) := (Keep.refl w1).alloc _
    refine ⟨(kA.trans k1).trans kB, ⟨heap_alloc_new w1 _, ⟨rfl, .inl ⟨rfl, rfl⟩⟩⟩, (ra.base_le (by omega)).keep kB, (hown0.keep k1).keep kB, by omega, fun k hk => (ra.lt k hk).2, ?_, fun k hk e => ?_, fun k hk => by simp [Value.ownBlock] at hk⟩
    · intro e; simp [Value.ownBlock] at e; omega
    · have := (ra.lt k hk).1
      simp [Value.ownBlock] at e; omega
  clear hown0 kA k1
  obtain ⟨aa, ca, rfl, _⟩ := ra.rd
  clear ra
  go_wp2_with fail
  go_loopw [17] (fun i wr => ∃ (k : Nat) (q : List Int) (v : Value), k ≤ (backL zs).length ∧ i = .int .i64 k ∧ Wait zs.length q (fun j => j < k ∧ mayB zs 0 j = true) ∧ St w wr w1.heap.size (.slice aa (backL zs).length ca) v (.slice (some ⟨w.heap.size, 0, none⟩) 0 0) zs q []) (fun i _ => (backL zs).length - (intOf i).toNat)
  case atStart => exact ⟨0, [], _, Nat.zero_le _, rfl, (Wait.nil _).congr (fun j _ => by simp), S0⟩
  case round =>
    clear S0
    obtain ⟨k, q, v, hk, rfl, hwt, S⟩ := hrel
    have HWt : Hid (Wait zs.length q (fun j => j < k ∧ mayB zs 0 j = true)) := hwt
    clear hwt
    have hq12 := HWt.out.len
    by_cases hltb : k < (backL zs).length
    · have hlt : k < zs.length := by have := HBL.out; omega
      obtain ⟨ab, cb, hv, hcb⟩ := S.back.rd
      cases hv
      rcases hcb with hnil | ⟨b3, o3, rfl, hb3, hc3⟩
      · exfalso; rw [hnil] at hltb; simp at hltb
      have d0 := hc3 k hltb
      clear hc3
      obtain ⟨x, hx⟩ : ∃ x, x = (backL zs).getD k 0 := ⟨_, rfl⟩
      have HX : Hid (x = (backL zs).getD k 0) := hx
      rw [← hx] at d0
      clear hx
      cases hz : x == 0
      · have HN : Hid (Wait zs.length q (fun j => j < k + 1 ∧ mayB zs 0 j = true)) := HWt.out.congr (fun j _ => first_skip HW.out hlt (by rw [← HX.out]; simpa using hz) j)
        go_wp2
        go_roundw
        case rel => exact ⟨k + 1, q, v, by omega, by go_num, HN.out, S⟩
        case measure => simp [intOf]; omega
      · have HZ : Hid ((backL zs).getD k 0 = 0) := by show _ = _; rw [← HX.out]; simpa using hz
        go_wp2_with fail
        refine (letIn_any _ w1.heap.size v q k S.heap HWt.out.heap (by omega)).mono ?_
        rintro e w2 ⟨rfl, v2, q2, hp2, hh2, h2, hB2, T2⟩
        have S2 := S.turn h2 hB2 T2
        have HN : Hid (Wait zs.length q2 (fun j => j < k + 1 ∧ mayB zs 0 j = true)) := (HWt.out.letIn hlt (fun h => absurd h.1 (Nat.lt_irrefl _)) hh2 hp2).congr (fun j _ => first_step HW.out hlt HZ.out j)
        clear S h2 hB2 T2 hp2 hh2 d0
        go_wp2
        go_roundw
        case rel => exact ⟨k + 1, q2, v2, by omega, by go_num, HN.out, S2⟩
        case measure => simp [intOf]; omega
    · obtain rfl : k = (backL zs).length := by omega
      have HS0 : Hid (Sorts zs zs.length 0 [] 0 q) := ⟨rfl, HWt.out.congr (fun j hj => by
        have h1 : j < (backL zs).length := by have := HBL.out; omega
        simp [h1])⟩
      clear HWt
      have hbl1 : (backL zs).length ≤ zs.length := by have := HBL.out; omega
      have hbl2 : zs.length ≤ (backL zs).length := by have := HBL.out; omega
      obtain ⟨wo, rfl⟩ : ∃ wo : World, wo = wr := ⟨_, rfl⟩
      go_wp2_with fail
      go_loopw [3, 5] (fun x s wr => ∃ (vl : Value) (d : Int) (k : Nat) (l q : List Int) (v : Value), vl = x ∧ s = .int .i64 d ∧ k ≤ zs.length ∧ Sorts zs zs.length k l d q ∧ St w wr w1.heap.size (.slice aa (backL zs).length ca) v vl zs q l) (fun x _ _ => 12 - lenOf x)
      case atStart => exact ⟨_, 0, 0, [], q, v, rfl, rfl, Nat.zero_le _, HS0.out, S⟩
      case round =>
        clear S HS0 hq12
        clear q v
        obtain ⟨vl, d, k, l, q, v, rfl, rfl, hk, hs, S⟩ := hrel
        have HS : Hid (Sorts zs zs.length k l d q) := hs
        clear hs
        have hq12 := HS.out.wait.len
        have hlv := S.list.lenOf
        have HLV : Hid (lenOf vl = l.length) := hlv
        clear hlv
        obtain ⟨av, cv, hvv, _⟩ := S.heap.own.rd
        subst hvv
        have h0 := S.heap.at
        by_cases hq : 0 < q.length
        · have hkn := sorts_more HW.out HS.out hq
          have hll : l.length < 12 := by have := (sort_stands HW.out k HS.out.got).len; omega
          go_wp2_with fail
          refine (least_any _ w1.heap.size _ q S.heap HS.out.wait.heap hq (by omega)).mono ?_
          rintro e w2 ⟨rfl, v2, q2, hp2, hh2, h2, hB2, T2⟩
          have S2 := S.turn h2 (.inl hB2) T2
          obtain ⟨i, hin, hi0, hmi, hleast, hwait⟩ := HS.out.wait.least hq hh2 hp2
          rw [hi0]
          have HG : Hid (sortK zs (k + 1) = some (l ++ [(i : Int)], gAdd d i)) := sorts_next HW.out HS.out.got hin hmi hleast
          have HM : Hid (mayB zs d i = true) := hmi
          have HT0 : Hid (sortK zs k = some (l, d)) := HS.out.got
          have HWt : Hid (Wait zs.length q2 (nextP zs d i 0)) := hwait.congr (fun j _ => nextP_zero)
          clear S h0 h2 hB2 T2 hp2 hh2 hi0 hmi hleast hwait HS hq12 hq
          have hs2 := S2.keep.size
          have m1 : l.length + 1 ≤ maxLen := by unfold maxLen; omega
          have m2 : (l.length + 1) * 8 ≤ 140737488355328 := by omega
          go_wp2_with (at_builtin; refine wpList_append_lies _ rfl _ _ 25 rfl w.heap.size 2 i0 (.int .i64 0) 1 8 Try.underlying25 hi hz0 hz1 hz2 rfl (by decide) _ _ _ rfl (World.ownsRow.alloc S2.list _) ⟨_, 0, none⟩ 1 1 [.int .i64 i] rfl rfl (news_one _ _ _) (one_cell _) (by omega) m1 m2 (by simp; omega) (w2.heap.size + 1) (by simp) ?_)
          intro gg cap w3 hown3 hgrow3 hat3 hlt3
          have S3 := S2.append hgrow3 (own_hit hown3) hat3
          clear S2 hgrow3 hown3 hat3 hlt3 m1 m2
          go_wp2_with fail
          refine (with_any _ _ _).mono ?_
          rintro e w4 ⟨rfl, rfl⟩
          rcases h with h | ⟨b1, o1, rfl, hb1, hc1⟩
          · exfalso; rw [h] at hin; simp at hin
          have d1 := (S3.keep.cell hb1).trans (hc1 i hin)
          have HP : Hid (okB zs.length (zs.getD i 0) = true) := HW.out.2.2 i hin
          obtain ⟨p, hp⟩ : ∃ p, p = zs.getD i 0 := ⟨_, rfl⟩
          have HPp : Hid (p = zs.getD i 0) := hp
          rw [← hp] at d1 HP
          clear hp
          have i1 : (0 : Int) ≤ (i : Int) := Int.natCast_nonneg _
          have i2 : (i : Int) < (zs.length : Int) := by omega
          go_wp2_with fail
          refine (implMembers_any _ _).mono ?_
          rintro e w5 ⟨vm, rfl, om, k5⟩
          have S5 := S3.keeps k5
          have hml := mem_len p 12
          have hsz := S3.heap.lt
          have hmv : ∀ k, v2.ownBlock = some k → vm.ownBlock ≠ some k := fun k hk e => by
            have h1 := (World.ownsRow.lt S3.heap.own k hk).2
            have h2 := om.ge k e
            omega
          have om1 : Own w5 (w1.heap.size + 1) vm (mem p 12) := om.base_le hsz
          clear S3 k5 d1 om hsz
          obtain ⟨am, cm, rfl, _⟩ := om1.rd
          obtain ⟨wq, rfl⟩ : ∃ wq : World, wq = w5 := ⟨_, rfl⟩
          go_wp2_with fail
          go_loopw [44] (fun z wr => ∃ (m : Nat) (q : List Int) (v : Value), m ≤ (mem p 12).length ∧ z = .int .i64 m ∧ Wait zs.length q (nextP zs d i m) ∧ St w wr w1.heap.size (.slice aa (backL zs).length ca) v (.slice (some ⟨gg, 0, none⟩) (l.length + 1) cap) zs q (l ++ [(i : Int)]) ∧ Own wr (w1.heap.size + 1) (.slice am (mem p 12).length cm) (mem p 12) ∧ ∀ k, v.ownBlock = some k → (Value.slice am (mem p 12).length cm).ownBlock ≠ some k) (fun z _ => (mem p 12).length - (intOf z).toNat)
          case atStart => exact ⟨0, q2, v2, Nat.zero_le _, rfl, HWt.out, S5, om1, hmv⟩
          case round =>
            clear S5 om1 hmv HWt
            clear q2 v2
            obtain ⟨m, q, v, hm, rfl, hwt, S, om, hmv⟩ := hrel
            have HWt : Hid (Wait zs.length q (nextP zs d i m)) := hwt
            clear hwt
            have hq12 := HWt.out.len
            by_cases hmn : m < (mem p 12).length
            · obtain ⟨j, hj, hjn⟩ := mem_at HP.out hmn
              have HJ : Hid ((mem p 12).getD m 0 = (j : Int)) := hj
              obtain ⟨am', cm', hv, hcm⟩ := om.rd
              cases hv
              rcases hcm with h | ⟨b4, o4, rfl, hb4, hc4⟩
              · exfalso; rw [h] at hmn; simp at hmn
              have d1 := hc4 m hmn
              rw [hj] at d1
              clear hc4 hj
              have hjb : j < (backL zs).length := by omega
              obtain ⟨ab, cb, hv, hcb⟩ := S.back.rd
              cases hv
              rcases hcb with hnil | ⟨b3, o3, rfl, hb3, hc3⟩
              · exfalso; rw [hnil] at hjb; simp at hjb
              have d2 := hc3 j hjb
              obtain ⟨y, hy⟩ : ∃ y, y = (backL zs).getD j 0 := ⟨_, rfl⟩
              have HY : Hid (y = (backL zs).getD j 0) := hy
              rw [← hy] at d2
              clear hc3 hy
              have i3 : (0 : Int) ≤ (j : Int) := Int.natCast_nonneg _
              have i4 : (j : Int) < ((backL zs).length : Int) := by omega
              cases hz : notI y (gAdd d i) == 0
              · have HN : Hid (Wait zs.length q (nextP zs d i (m + 1))) := HWt.out.congr (fun j' _ => nextP_skip (by rw [← HPp.out]; exact hmn) (by rw [← HPp.out]; exact HJ.out) (by rw [← HY.out]; simpa using hz) j')
                go_wp2_with fail
                refine (setNot_any _ _ _).mono ?_
                rintro e w6 ⟨rfl, rfl⟩
                go_wp2
                go_roundw
                case rel => exact ⟨m + 1, q, v, by omega, by go_num, HN.out, S, om, hmv⟩
                case measure => simp [intOf]; omega
              · have hnew : ¬ nextP zs d i m j := nextP_new HW.out HT0.out hin HM.out (by rw [← HPp.out]; exact hmn) (by rw [← HPp.out]; exact HJ.out) hjn
                have HNew : Hid (¬ nextP zs d i m j) := hnew
                clear hnew
                go_wp2_with fail
                refine (setNot_any _ _ _).mono ?_
                rintro e w6 ⟨rfl, rfl⟩
                go_wp2_with fail
                refine (letIn_any _ w1.heap.size v q j S.heap HWt.out.heap (by omega)).mono ?_
                rintro e w7 ⟨rfl, v7, q7, hp7, hh7, h7, hB7, T7⟩
                have S7 := S.turn h7 hB7 T7
                have om7 := om.turn T7 (fun e => by have := om.ge _ e; omega) (by
                  cases hv : (Value.slice (some ⟨b4, o4, none⟩) (mem p 12).length cm).ownBlock with
                  | none => exact .inl rfl
                  | some k => exact .inr (fun e => hmv k e.symm hv))
                have hmv7 : ∀ k, v7.ownBlock = some k → (Value.slice (some ⟨b4, o4, none⟩) (mem p 12).length cm).ownBlock ≠ some k := by
                  rcases hB7 with e | e
                  · rw [e]; exact hmv
                  · intro k hk e2
                    have h1 := e k hk
                    have h2 := (World.ownsRow.lt om k e2).2
                    omega
                have HN : Hid (Wait zs.length q7 (nextP zs d i (m + 1))) := (HWt.out.letIn hjn HNew.out hh7 hp7).congr (fun j' _ => nextP_step (by rw [← HPp.out]; exact hmn) (by rw [← HPp.out]; exact HJ.out) (by rw [← HY.out]; simpa using hz) j')
                clear S om hmv h7 hB7 T7 hp7 hh7 d1 d2 HWt
                go_wp2
                go_roundw
                case rel => exact ⟨m + 1, q7, v7, by omega, by go_num, HN.out, S7, om7, hmv7⟩
                case measure => simp [intOf]; omega
            · obtain rfl : m = (mem p 12).length := by omega
              have HE : Hid (Wait zs.length q (fun j => mayB zs (gAdd d i) j = true)) := HWt.out.congr (fun j hj => by
                rw [HPp.out]
                exact nextP_end HW.out HR.out HT0.out hin HM.out hj)
              clear HWt
              go_wp2
              go_roundw
              case rel => exact ⟨_, gAdd d i, k + 1, l ++ [(i : Int)], q, v, rfl, rfl, by omega, ⟨HG.out, HE.out⟩, S⟩
              case measure =>
                have h1 := HLV.out
                simp only [lenOf] at h1 ⊢
                simp [h1]
                omega
        · have HQ : Hid (sortedL zs = l) := sorts_end HW.out HR.out HS.out (by omega) hk
          go_wp2
          go_ret
          exact ⟨_, rfl, by rw [HQ.out]; exact S.list.row, S.keep⟩
end Go.Proofs.Ytgclnfhkjnomaaa
