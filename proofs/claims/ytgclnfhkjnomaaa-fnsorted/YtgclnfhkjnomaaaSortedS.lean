/- Contract of the specification's Sorted. -/
import Derived.Test.YtgclnfhkjnomaaaBackS
import Derived.Test.YtgclnfhkjnomaaaSortPlain
import Derived.Deep.AppendLies
import Derived.OwnWalk
import Derived.Laws.Pointers
namespace Go.Proofs.Ytgclnfhkjnomaaa
open Go.ChangeShapes Go.WideShapes Go.ChangeAt Go.RowKit

def lenV : Value → Nat
  | .slice _ n _ => n
  | _ => 0
theorem Own.lenV {w : World} {base : Nat} {v : Value} {zs : List Int} (h : Own w base v zs) : lenV v = zs.length := by
  obtain ⟨a, c, rfl, _⟩ := h.rd
  rfl
theorem news_num (w : World) (x : Int) (e : TypeId) : ∀ j u, [Value.int .i64 x][j]? = some u → (w.alloc (.cells #[.int .i64 x] e)).cell? ((⟨w.heap.size, 0, none⟩ : Addr).add j) = some u := by
  intro j u hj
  match j, hj with
  | 0, hj => simp at hj; subst hj; simp [Addr.add]
theorem num_cell (x : Int) : ∀ u ∈ [Value.int .i64 x], u.oneCell' = true := by
  intro u hu; simp at hu; subst hu; rfl
set_option maxRecDepth 100000 in
set_option maxHeartbeats 8000000 in
theorem specSortedO_any (w : World) (v : Value) (zs : List Int) (h : Rd w v zs) (hn : zs.length ≤ 1048576) :
    Calls Try.prog 45 #[v] w fun e w' => ∃ v', e = .returned (.tuple #[v', .bool (sortedB zs)]) ∧ Own w' w.heap.size v' (sortedL zs) ∧ Keep w w' := by
  have hown0 : Own (w.alloc (.cells #[] 2)) w.heap.size (.slice (some ⟨w.heap.size, 0, none⟩) 0 0) [] := World.ownsRow_lit w #[] 0 (Nat.le_refl _) (by decide) rfl
  have kA : Keep w (w.alloc (.cells #[] 2)) := (Keep.refl w).alloc _
  have hA := h.keep kA
  cases ht : webB zs
  · have HN : Hid (sortedO zs = none) := sorted_bad ht
    have HB : Hid (sortedB zs = false) := sortedB_none HN.out
    go_enter Try.func45, Try.ntmps45
    go_wp2_with fail
    refine (specWebOk_any _ _ _ hA hn).mono ?_
    rintro e w' ⟨rfl, rfl⟩
    go_wp2
    go_ret2
    exact ⟨_, ret_two HB.out.symm, by rw [sortedL_none HN.out]; exact hown0, kA⟩
  · obtain ⟨i0, hi, hz0, hz1, hz2⟩ := info_parts Try.infoI
    have HT : Hid (webB zs = true) := ht
    have HW : Hid (Web zs.length zs) := web_iff.1 ht
    have hz12 := webB_len ht
    have HBL : Hid ((backL zs).length = zs.length) := (web_back HW.out).1.2.1
    obtain ⟨a, c, rfl, h⟩ := h
    go_enter Try.func45, Try.ntmps45
    go_wp2_with fail
    refine (specWebOk_any _ _ _ hA hn).mono ?_
    rintro e w' ⟨rfl, hw'⟩
    subst hw'
    go_wp2_with fail
    refine (specBack_any _ _ _ hA hn).mono ?_
    rintro e w1 ⟨va, rfl, ra, k1⟩
    have K1 := kA.trans k1
    have o1 := hown0.keep k1
    rw [show (w.alloc (.cells #[] 2)).heap.size = w.heap.size + 1 from by simp] at ra
    have la : ∀ k, va.ownBlock = some k → (Value.slice (some ⟨w.heap.size, 0, none⟩) 0 0).ownBlock ≠ some k := fun k hk e => by
      have := (ra.lt k hk).1
      simp [Value.ownBlock] at e; omega
    have ra1 := ra.base_le (show w.heap.size ≤ w.heap.size + 1 by omega)
    clear ht hA kA k1 hown0 ra
    obtain ⟨aa, ca, rfl, _⟩ := ra1.rd
    go_wp2_with fail
    go_loopw [4, 6] (fun x s wr => ∃ (vl : Value) (d : Int) (k : Nat) (l : List Int), vl = x ∧ s = .int .i64 d ∧ k ≤ zs.length ∧ sortK zs k = some (l, d) ∧ Own wr w.heap.size vl l ∧ Row wr w.heap.size (.slice aa (backL zs).length ca) (backL zs) ∧ Keep w wr ∧ ∀ k, (Value.slice aa (backL zs).length ca).ownBlock = some k → vl.ownBlock ≠ some k) (fun x _ _ => 13 - lenV x)
    case atStart => exact ⟨_, 0, 0, [], rfl, rfl, Nat.zero_le _, rfl, o1, ra1, K1, la⟩
    case round =>
      clear o1 ra1 K1 la
      obtain ⟨vl, d, k, l, rfl, rfl, hk, hs, ho, ra, hK, la⟩ := hrel
      have HS : Hid (sortK zs k = some (l, d)) := hs
      have HSt : Hid (Stands zs zs.length k l d) := sort_stands HW.out k hs
      have hlv := ho.lenV
      have HLV : Hid (lenV vl = l.length) := hlv
      have htr := okB_range HSt.out.ok
      clear hs hlv
      obtain ⟨av, cv, hvv, _⟩ := ho.rd
      subst hvv
      by_cases hlt : l.length < zs.length
      · have hkn : k < zs.length := by have := HSt.out.len; omega
        obtain ⟨wo, rfl⟩ : ∃ wo : World, wo = wr := ⟨_, rfl⟩
        go_wp2_with fail
        go_loop [7, 8] (fun f i => ∃ m : Nat, m ≤ zs.length ∧ i = .int .i64 m ∧ f = .int .i64 (pick zs d m)) (fun _ i => zs.length - (intOf i).toNat)
        case atStart => exact ⟨0, Nat.zero_le _, rfl, rfl⟩
        case round =>
          obtain ⟨m, hm, rfl, rfl⟩ := hrel
          by_cases hml : m < zs.length
          · by_cases hp : pick zs d m < 0
            · have hmb : m < (backL zs).length := by have := HBL.out; omega
              obtain ⟨ab, cb, hv, hcb⟩ := ra.rd
              cases hv
              rcases hcb with hnil | ⟨b3, o3, rfl, hb3, hc3⟩
              · exfalso; rw [hnil] at hmb; simp at hmb
              have d0 := hc3 m hmb
              obtain ⟨x, hx⟩ : ∃ x, x = (backL zs).getD m 0 := ⟨_, rfl⟩
              have HX : Hid (x = (backL zs).getD m 0) := hx
              rw [← hx] at d0
              clear hc3 hx
              have hbit : inSetB d m = bitB d m := inSetB_bit htr (by omega)
              have HMy : Hid (mayB zs d m = (!bitB d m && (notI x d == 0))) := by show _ = _; rw [mayB_eq, hbit, HX.out]
              clear hbit
              have HMi : Hid (mayB zs d m = false → pick zs d (m + 1) = pick zs d m) := pick_miss hp
              have HHi : Hid (mayB zs d m = true → pick zs d (m + 1) = (m : Int)) := pick_hit hp
              have i1 : (0 : Int) ≤ (m : Int) := Int.natCast_nonneg _
              have i2 : (m : Int) < ((backL zs).length : Int) := by omega
              generalize pick zs d m = P at *
              cases hb : bitB d m
              · cases hz : notI x d == 0
                · have HN : Hid (pick zs d (m + 1) = P) := HMi.out (by rw [HMy.out, hb, hz]; rfl)
                  unfold notI at hz
                  clear HMy HMi HHi
                  go_wp2_with fail
                  refine (l1Has_any _ _ _ (by omega) (by omega)).mono ?_
                  rintro e w2 ⟨rfl, rfl⟩
                  go_wp2
                  go_round
                  case rel => exact ⟨m + 1, by omega, by go_num, by rw [HN.out]⟩
                  case measure => simp [intOf]; omega
                · have HN : Hid (pick zs d (m + 1) = (m : Int)) := HHi.out (by rw [HMy.out, hb, hz]; rfl)
                  unfold notI at hz
                  clear HMy HMi HHi
                  go_wp2_with fail
                  refine (l1Has_any _ _ _ (by omega) (by omega)).mono ?_
                  rintro e w2 ⟨rfl, rfl⟩
                  go_wp2
                  go_round
                  case rel => exact ⟨m + 1, by omega, by go_num, by rw [HN.out]⟩
                  case measure => simp [intOf]; omega
              · have HN : Hid (pick zs d (m + 1) = P) := HMi.out (by rw [HMy.out, hb]; rfl)
                clear HMy HMi HHi
                go_wp2_with fail
                refine (l1Has_any _ _ _ (by omega) (by omega)).mono ?_
                rintro e w2 ⟨rfl, rfl⟩
                go_wp2
                go_round
                case rel => exact ⟨m + 1, by omega, by go_num, by rw [HN.out]⟩
                case measure => simp [intOf]; omega
            · obtain ⟨i, hpi, him⟩ := pick_nat (show 0 ≤ pick zs d m by omega)
              have HG : Hid (sortK zs (k + 1) = some (l ++ [(i : Int)], gAdd d i)) := sortK_next HS.out ((pick_stay (by omega) hm).trans hpi)
              have hki : inB (i : Int) 0 11 = true := by unfold inB; simp; omega
              have HGa : Hid (gAdd d i = bits .or .i64 d (wrap64 (2 ^ (i : Int).toNat))) := gAdd_ok _ _ htr.1 hki
              rw [hpi]
              clear hp hpi hki
              have hs2 := hK.size
              have m1 : l.length + 1 ≤ maxLen := by unfold maxLen; omega
              have m2 : (l.length + 1) * 8 ≤ 140737488355328 := by omega
              have i1 : (0 : Int) ≤ (i : Int) := Int.natCast_nonneg _
              have i2 : (i : Int) < 12 := by omega
              go_wp2_with (at_builtin; refine wpList_append_lies _ rfl _ _ 25 rfl w.heap.size 2 i0 (.int .i64 0) 1 8 Try.underlying25 hi hz0 hz1 hz2 rfl (by decide) _ _ _ rfl (World.ownsRow.alloc ho _) ⟨_, 0, none⟩ 1 1 [.int .i64 i] rfl rfl (news_num _ _ _) (num_cell _) (by omega) m1 m2 (by simp; omega) (wo.heap.size + 1) (by simp) ?_)
              intro gg cap w3 hown3 hgrow3 hat3 hlt3
              have o3 := own_hit hown3
              have k3 := (hK.alloc (.cells #[.int .i64 i] 2)).grown hgrow3 ho.ge
              have ra3 := (ra.keep ((Keep.refl wo).alloc (.cells #[.int .i64 i] 2))).kept hgrow3 (by
                cases hv : (Value.slice aa (backL zs).length ca).ownBlock with
                | none => exact .inl rfl
                | some k => exact .inr (fun e => la k hv e.symm))
              have la3 : ∀ k, (Value.slice aa (backL zs).length ca).ownBlock = some k → (Value.slice (some ⟨gg, 0, none⟩) (l.length + 1) cap).ownBlock ≠ some k := fun k hk e2 => by
                rcases hat3 with e | e
                · exact la k hk (by rw [e]; simpa [Value.ownBlock] using e2)
                · have := (ra.lt k hk).2
                  simp [Value.ownBlock] at e2; omega
              clear ho ra hK la hgrow3 hown3 hat3 hlt3 m1 m2
              go_wp2
              go_roundw
              case rel => exact ⟨_, gAdd d i, k + 1, l ++ [(i : Int)], rfl, by rw [HGa.out]; first | rfl | simp, by omega, HG.out, o3, ra3, k3, la3⟩
              case measure =>
                have h1 := HLV.out
                simp only [lenV] at h1 ⊢
                simp
                omega
          · obtain rfl : m = zs.length := by omega
            by_cases hp : pick zs d zs.length < 0
            · have HN : Hid (sortedO zs = none) := sorted_none HS.out hkn hp
              have HB : Hid (sortedB zs = false) := sortedB_none HN.out
              have hsz := hK.size
              generalize pick zs d zs.length = P at *
              go_wp2
              go_ret2
              exact ⟨_, ret_two HB.out.symm, by rw [sortedL_none HN.out]; exact (show Own (wo.alloc (.cells #[] 2)) wo.heap.size (.slice (some ⟨wo.heap.size, 0, none⟩) 0 0) [] from World.ownsRow_lit wo #[] 0 (Nat.le_refl _) (by decide) rfl).base_le hsz, hK.alloc _⟩
            · obtain ⟨i, hpi, him⟩ := pick_nat (show 0 ≤ pick zs d zs.length by omega)
              have HG : Hid (sortK zs (k + 1) = some (l ++ [(i : Int)], gAdd d i)) := sortK_next HS.out hpi
              have hki : inB (i : Int) 0 11 = true := by unfold inB; simp; omega
              have HGa : Hid (gAdd d i = bits .or .i64 d (wrap64 (2 ^ (i : Int).toNat))) := gAdd_ok _ _ htr.1 hki
              rw [hpi]
              clear hp hpi hki
              have hs2 := hK.size
              have m1 : l.length + 1 ≤ maxLen := by unfold maxLen; omega
              have m2 : (l.length + 1) * 8 ≤ 140737488355328 := by omega
              have i1 : (0 : Int) ≤ (i : Int) := Int.natCast_nonneg _
              have i2 : (i : Int) < 12 := by omega
              go_wp2_with (at_builtin; refine wpList_append_lies _ rfl _ _ 25 rfl w.heap.size 2 i0 (.int .i64 0) 1 8 Try.underlying25 hi hz0 hz1 hz2 rfl (by decide) _ _ _ rfl (World.ownsRow.alloc ho _) ⟨_, 0, none⟩ 1 1 [.int .i64 i] rfl rfl (news_num _ _ _) (num_cell _) (by omega) m1 m2 (by simp; omega) (wo.heap.size + 1) (by simp) ?_)
              intro gg cap w3 hown3 hgrow3 hat3 hlt3
              have o3 := own_hit hown3
              have k3 := (hK.alloc (.cells #[.int .i64 i] 2)).grown hgrow3 ho.ge
              have ra3 := (ra.keep ((Keep.refl wo).alloc (.cells #[.int .i64 i] 2))).kept hgrow3 (by
                cases hv : (Value.slice aa (backL zs).length ca).ownBlock with
                | none => exact .inl rfl
                | some k => exact .inr (fun e => la k hv e.symm))
              have la3 : ∀ k, (Value.slice aa (backL zs).length ca).ownBlock = some k → (Value.slice (some ⟨gg, 0, none⟩) (l.length + 1) cap).ownBlock ≠ some k := fun k hk e2 => by
                rcases hat3 with e | e
                · exact la k hk (by rw [e]; simpa [Value.ownBlock] using e2)
                · have := (ra.lt k hk).2
                  simp [Value.ownBlock] at e2; omega
              clear ho ra hK la hgrow3 hown3 hat3 hlt3 m1 m2
              go_wp2
              go_roundw
              case rel => exact ⟨_, gAdd d i, k + 1, l ++ [(i : Int)], rfl, by rw [HGa.out]; first | rfl | simp, by omega, HG.out, o3, ra3, k3, la3⟩
              case measure =>
                have h1 := HLV.out
                simp only [lenV] at h1 ⊢
                simp
                omega
      · have HO : Hid (sortedO zs = some (l, d)) := by
          have h1 := HSt.out.len
          have h2 : k = zs.length := by omega
          have h3 := HS.out
          rw [h2] at h3
          exact sorted_some HT.out h3
        have HB : Hid (sortedB zs = true) := sortedB_some HO.out
        go_wp2
        go_ret2
        exact ⟨_, ret_two HB.out.symm, by rw [sortedL_some HO.out]; exact ho, hK⟩
theorem specSorted_any (w : World) (v : Value) (zs : List Int) (h : Rd w v zs) (hn : zs.length ≤ 1048576) :
    Calls Try.prog 45 #[v] w fun e w' => ∃ v', e = .returned (.tuple #[v', .bool (sortedB zs)]) ∧ Row w' w.heap.size v' (sortedL zs) ∧ Keep w w' :=
  (specSortedO_any w v zs h hn).mono fun _ _ ⟨v', he, o, k⟩ => ⟨v', he, o.row, k⟩
end Go.Proofs.Ytgclnfhkjnomaaa
