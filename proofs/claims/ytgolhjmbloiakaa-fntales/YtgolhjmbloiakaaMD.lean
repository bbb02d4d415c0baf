/- Several texts in one. -/
import Derived.Test.YtgolhjmbloiakaaMC
import Derived.Sort.CutIn
import Derived.Test.YtgolhjmbloiakaaMB
import Derived.Test.YtgolhjmbloiakaaMA
import Derived.Scope
import Derived.WalkMore
import Derived.Deep.RegionLaw
import Derived.RegionTactic
import Derived.BigRegion
import Derived.Lib.Hide
/- The program's iterator over the sources: the last read innermost. -/
namespace Go.Proofs.Ytgolhjmbloiakaa
open Go.ChangeShapes Go.WideShapes Go.ChangeAt Go.RowKit Go.Shelf

theorem one_new {w : World} {b : Nat} {v : Value} (h : w.cell? ⟨b, 0, none⟩ = some v) : ∀ j u, ([v] : List Value)[j]? = some u → w.cell? ((⟨b, 0, none⟩ : Addr).add j) = some u := by
  intro j u hj
  match j, hj with
  | 0, hj =>
    simp at hj
    subst hj
    exact h
  | k + 1, hj => simp at hj
set_option maxRecDepth 100000 in
set_option maxHeartbeats 4000000 in
theorem sourcesS_seq (css : List (List Int)) (s1 s2 : Nat) (hcl : ∀ i, (css.getD i []).length ≤ 12) (n : Nat) (hn : n + 1 ≤ 12)
    (ih : ∀ (w0 : World) (Bc : Nat) (v : Value), RdP s1 s2 w0 v n css → w0.cell? ⟨Bc, 0, none⟩ = some v → Bc < w0.heap.size → s2 ≤ w0.heap.size →
      SeqM Try.prog 115 #[.pointer (some ⟨Bc, 0, none⟩)] (PrS s1 s2 Bc) (srcN css n) (LieS css n) w0)
    (w0 : World) (Bc : Nat) (v : Value) (hP : RdP s1 s2 w0 v (n + 1) css) (hc : w0.cell? ⟨Bc, 0, none⟩ = some v) (hBl : Bc < w0.heap.size) (hs : s2 ≤ w0.heap.size) :
    SeqM Try.prog 115 #[.pointer (some ⟨Bc, 0, none⟩)] (PrS s1 s2 Bc) (srcN css (n + 1)) (LieS css (n + 1)) w0 := by
  intro C l J Jx W hW hC hJ hJx hY h0
  have hWs := hW.size
  have hcW : W.cell? ⟨Bc, 0, none⟩ = some v := (hW.cell hBl (fun h => h (.inr rfl))).trans hc
  have hBW : Bc < W.heap.size := by omega
  have hPW := hP.but hs hW (fun b h1 h2 h3 => h3 (.inl ⟨h1, h2⟩))
  have hsW : s2 ≤ W.heap.size := by omega
  clear hP hc hBl hs hW hWs
  obtain ⟨hnl, a, cap, rfl, hcap, hPc⟩ := hPW
  rcases hPc with h | ⟨b, off, rfl, hb1, hb2, hPc⟩
  · exact absurd h (by omega)
  have hdw : Fence.wide.depth = none := rfl
  have hsem := @Oper.semAt_some
  have i1 : (0 : Int) ≤ (n : Int) := Int.natCast_nonneg _
  have i2 : (n : Int) ≤ (cap : Int) := by omega
  have i4 : ((n : Int) + 1 == 0) = false := by simp; omega
  refine (callsIn_wide (n := 0)).1 (callsIn_of_wp_marks Try.func115 rfl trivial ?_ rfl)
  simp only [Try.ntmps115, List.size_toArray, List.length_cons, List.length_nil, Nat.reduceAdd, Nat.reduceSub, Array.replicate_succ, Array.replicate_zero, List.push_toArray, List.append_toArray, List.nil_append, List.cons_append]
  gi_wp2_with (refine ⟨trivial, ?_⟩; gi_at_call 79; refine (callsIn_wide.2 (sources_any _ _ _ _)).mono ?_; rintro e w' ⟨rfl, rfl⟩)
  -- the world in which the loop begins
  have c0 := (((But.refl (NC W.heap.size W) W).alloc (.cells #[.func (.yield l) #[] #[]] 130)).alloc (.cells #[.int .i64 n] 3)).alloc (.cells #[.slice (some ⟨b, off, none⟩) n cap] 68)
  obtain ⟨W3, hW3⟩ : ∃ W3, W3 = ((W.alloc (.cells #[.func (.yield l) #[] #[]] 130)).alloc (.cells #[.int .i64 n] 3)).alloc (.cells #[.slice (some ⟨b, off, none⟩) n cap] 68) := ⟨_, rfl⟩
  have hz : W3.heap.size = W.heap.size + 3 := by rw [hW3]; simp
  have cy : W3.cell? ⟨W.heap.size, 0, none⟩ = some (.func (.yield l) #[] #[]) := by
    have h1 := (Boxed.new W 130 (.func (.yield l) #[] #[])).alloc (.cells #[.int .i64 n] 3)
    rw [hW3]; exact (h1.alloc _).cell
  have cn : W3.cell? ⟨W.heap.size + 1, 0, none⟩ = some (.int .i64 n) := by
    have h1 := Boxed.new (W.alloc (.cells #[.func (.yield l) #[] #[]] 130)) 3 (.int .i64 n)
    rw [World.size_alloc] at h1
    rw [hW3]; exact (h1.alloc _).cell
  have cc : W3.cell? ⟨W.heap.size + 2, 0, none⟩ = some (.slice (some ⟨b, off, none⟩) n cap) := by
    have h1 := Boxed.new ((W.alloc (.cells #[.func (.yield l) #[] #[]] 130)).alloc (.cells #[.int .i64 n] 3)) 68 (.slice (some ⟨b, off, none⟩) n cap)
    simp only [World.size_alloc] at h1
    rw [hW3]; exact h1.cell
  rw [← hW3] at c0 ⊢
  clear hW3
  have nW : ∀ b', b' < W.heap.size → ¬ NC W.heap.size W b' := fun b' h1 h2 => by have := h2.1; omega
  have hP3 : RdP s1 s2 W3 (.slice (some ⟨b, off, none⟩) n cap) n css := by
    refine ⟨by omega, _, _, rfl, by omega, ?_⟩
    by_cases h : n = 0
    · exact .inl h
    · refine .inr ⟨b, off, rfl, hb1, hb2, fun i hi => ?_⟩
      obtain ⟨vi, e1, e2⟩ := hPc i (by omega)
      exact ⟨vi, (c0.cell (by omega) (nW _ (by omega))).trans e1, e2.but hsW c0 (fun b' _ _ => nW b' (by omega))⟩
  have hseq := ih W3 (W.heap.size + 2) _ hP3 cc (by omega) (by omega)
  have hmul : ∀ k, (k + 1) * (css.getD n []).length = k * (css.getD n []).length + (css.getD n []).length := fun k => by rw [Nat.add_mul, Nat.one_mul]
  refine wp_rangeM (gf := 115) (lb := #[.pointer (some ⟨W.heap.size + 2, 0, none⟩)]) rfl (enters_of Try.func115 (by kernel_rfl) rfl) rfl hseq (But.refl _ _) ?pr C ?hC
    (fun k A => J (k * (css.getD n []).length) A ∧ But (fun b => C b ∨ W3.heap.size ≤ b) W3 A)
    (fun c _ A => c = .ret ∧ ∃ j, j < srcN css (n + 1) ∧ Jx j A) ?hI ?hIx (lieS_but css n) ?h0
    (fun v => { tmps := #[.func (.yield l) #[] #[], .pointer (some ⟨Bc, 0, none⟩), .pointer (some ⟨W.heap.size, 0, none⟩), .pointer (some ⟨W.heap.size + 1, 0, none⟩), v, undef, undef, .slice (some ⟨b, off, none⟩) (n + 1) cap, .int .i64 ((n : Int) + 1), .bool false, undef, undef, undef, .slice (some ⟨b, off, none⟩) (n + 1) cap, .int .i64 ((n : Int) + 1), .int .i64 n, .slice (some ⟨b, off, none⟩) (n + 1) cap, .int .i64 n, .slice (some ⟨b, off, none⟩) n cap, .func (.func 115) #[] #[.pointer (some ⟨W.heap.size + 2, 0, none⟩)], v, undef, undef, undef, undef, undef, undef, undef, undef, undef, undef, undef, undef, undef, undef, undef, undef, undef, undef], defers := [] }) ?assign ?body ?done ?stop
  case pr =>
    rintro b' (⟨_, h⟩ | rfl) <;> omega
  case hC =>
    intro b' h
    have := hC b' h
    refine ⟨by omega, ?_⟩
    rintro (h2 | rfl)
    · exact this.2 (.inl h2)
    · omega
  case hI =>
    rintro k A B ⟨h1, h2⟩ hB
    exact ⟨hJ _ _ _ h1 (hB.mono (fun b' _ h => h.le (by omega))), h2.trans (hB.mono (fun b' _ h => .inr h.1))⟩
  case hIx =>
    rintro c k A B ⟨h1, j, h2, h3⟩ hB
    exact ⟨h1, j, h2, hJx _ _ _ h3 (hB.mono (fun b' _ h => h.le (by omega)))⟩
  case h0 => exact ⟨by rw [Nat.zero_mul]; exact hJ 0 _ _ h0 c0, But.refl _ _⟩
  case assign =>
    intro m v W K hK
    gi_wp2
    exact hK
  case body =>
    rintro m k v W4 hk ⟨hJk, hBk⟩ hv
    have nB : ∀ b', b' < W.heap.size → PrS s1 s2 Bc b' → ¬ (C b' ∨ W3.heap.size ≤ b') := fun b' h1 h2 h3 => h3.elim (fun h => (hC b' h).2 h2) (fun h => by omega)
    have dc : W4.cell? ⟨Bc, 0, none⟩ = some (.slice (some ⟨b, off, none⟩) (n + 1) cap) := ((hBk.cell (by omega) (nB Bc hBW (.inr rfl))).trans (c0.cell hBW (nW _ hBW))).trans hcW
    have nN : ∀ b', W.heap.size ≤ b' → b' < W3.heap.size → ¬ (C b' ∨ W3.heap.size ≤ b') := fun b' h1 h2 h3 => h3.elim (fun h => by have := (hC b' h).1; omega) (fun h => by omega)
    have dy : W4.cell? ⟨W.heap.size, 0, none⟩ = some (.func (.yield l) #[] #[]) := (hBk.cell (by omega) (nN _ (by omega) (by omega))).trans cy
    have dn : W4.cell? ⟨W.heap.size + 1, 0, none⟩ = some (.int .i64 n) := (hBk.cell (by omega) (nN _ (by omega) (by omega))).trans cn
    obtain ⟨vi, e1, e2⟩ := hPc n (by omega)
    have dv : W4.cell? ⟨b, off + n, none⟩ = some vi := ((hBk.cell (by omega) (nB b (by omega) (.inl ⟨hb1, hb2⟩))).trans (c0.cell (by omega) (nW _ (by omega)))).trans e1
    have hR4 : RdR s1 s2 W4 vi (css.getD n []) := (e2.but hsW c0 (fun b' _ _ => nW b' (by omega))).but (by omega) hBk (fun b' h1 h2 => nB b' (by omega) (.inl ⟨h1, h2⟩))
    have hs4 : W3.heap.size ≤ W4.heap.size := hBk.size
    have hat := fun i (hi : i < (css.getD n []).length) => atP_succ css n k i (by omega) hi
    have hlt := fun i (hi : i < (css.getD n []).length) => src_lt hk hi
    rw [← srcN_succ] at hlt
    have hm1 := hmul k
    have h12 := hcl n
    have hal : (atP css n k).length ≤ 12 := by rw [atP_len css n k (by omega)]; omega
    clear e1 e2 hPc hmul hP3 hseq ih nN hnl hcap h0 hcW
    have hv' : Own W4 (W3.heap.size + 2) v (atP css n k) := hv
    clear hv
    generalize css.getD n [] = zs at *
    generalize atP css n k = ah at *
    obtain ⟨av, cv, rfl, -⟩ := hv'.rd
    obtain ⟨az, cz, rfl, hzs⟩ := hR4
    have j1 : (0 : Int) ≤ (n : Int) := i1
    have j2 : (n : Int) < (n : Int) + 1 := by omega
    gi_wp2
    gi_loopw [26] (fun i wr => ∃ j : Nat, j ≤ zs.length ∧ i = .int .i64 j ∧ J (k * zs.length + j) wr ∧ But C W4 wr) (fun i _ => zs.length - (intOf i).toNat)
    case atStart => exact ⟨0, Nat.zero_le _, rfl, hJk, But.refl _ _⟩
    case round =>
      obtain ⟨j, hj, rfl, hJr, hBr⟩ := hrel
      by_cases hjl : j < zs.length
      · rcases hzs with h | ⟨bz, oz, rfl, hz1, hz2, hzc⟩
        · exfalso; rw [h] at hjl; simp at hjl
        have nC : ∀ b', W.heap.size ≤ b' → ¬ C b' := fun b' h1 h2 => by have := (hC b' h2).1; omega
        have d8 : wr.cell? ⟨bz, oz + j, none⟩ = some (.int .i64 (zs.getD j 0)) := (hBr.cell (by omega) (fun h => (hC _ h).2 (.inl ⟨hz1, hz2⟩))).trans (hzc j hjl)
        have dyr : wr.cell? ⟨W.heap.size, 0, none⟩ = some (.func (.yield l) #[] #[]) := (hBr.cell (by omega) (nC _ (Nat.le_refl _))).trans dy
        have hvr : Own wr (W3.heap.size + 2) _ ah := hv'.but hBr (fun b' h1 _ => nC b' (by omega))
        have hsr := hBr.size
        have hatj := hat j hjl
        have hltj := hlt j hjl
        generalize zs.getD j 0 = x at d8 hatj
        clear hzc hat hlt dc dn dv
        have k1 : (0 : Int) ≤ (j : Int) := Int.natCast_nonneg _
        have k2 : (j : Int) < (zs.length : Int) := by omega
        gi_wp2
        gi_cut [37] from 30 (fun s wx => ∃ bb : Bool, s = .bool (!bb) ∧ But C W4 wx ∧ (bb = true → J (k * zs.length + j + 1) wx) ∧ (bb = false → Jx (k * zs.length + j) wx))
        case first =>
          have hmix : Try.prog.follows .mixedOrders = true := by kernel_rfl
          obtain ⟨t0, t1, t2, t3, t4⟩ := info_parts Try.infoI
          have hdz : wr.drew.heap.size = wr.heap.size := rfl
          have dyd : wr.drew.cell? ⟨W.heap.size, 0, none⟩ = some (.func (.yield l) #[] #[]) := dyr
          have hRd : Rd wr.drew (.slice av ah.length cv) ah := hvr.rd.keep ((Keep.refl wr).drew)
          have K0 : Keep wr.drew wr.drew := Keep.refl _
          refine region_round hmix ?nd ?_
          case nd =>
            intro i o ho c
            have hi8 : i < 8 := by
              have := (Array.getElem?_eq_some_iff.1 ho).1
              simpa using this
            rcases (by omega : i = 0 ∨ i = 1 ∨ i = 2 ∨ i = 3 ∨ i = 4 ∨ i = 5 ∨ i = 6 ∨ i = 7) with rfl | rfl | rfl | rfl | rfl | rfl | rfl | rfl <;> (simp at ho; subst ho; intro h; cases h)
          refine takeIn 1 31 (.slice av ah.length cv) rfl rfl rfl (by kernel_rfl) (by kernel_rfl) (by kernel_rfl) (fun _ _ _ h => h) ⟨Or.inl ⟨by rfl, by intro w; go_simp⟩, fun _ => rfl⟩ ?_
          simp only [Act.put, List.setIfInBounds_toArray, List.set_cons_zero, List.set_cons_succ]
          refine takeIn 3 33 (.int .i64 x) rfl rfl rfl (by kernel_rfl) (by kernel_rfl) (by kernel_rfl) (fun _ _ _ h => h) ⟨Or.inl ⟨by rfl, by intro w; go_simp⟩, fun _ => rfl⟩ ?_
          simp only [Act.put, List.setIfInBounds_toArray, List.set_cons_zero, List.set_cons_succ]
          refine wpAnyIn_ready (rs := [0, 2, 4]) (by kernel_rfl) (by simp) ?_
          refine AllReadyIn.cons rfl (fun K hK => ?_) ?_
          · have dy1 := (K0.cell (b := W.heap.size) (o := 0) (by rw [hdz]; omega)).trans dyd
            go_simp
            refine hK _ _ ?_
            clear hK K dy1
            refine wpAnyIn_ready (rs := [2, 4]) (by kernel_rfl) (by simp) ?_
            refine AllReadyIn.cons rfl (fun K hK => ?_) ?_
            · go_simp
              refine ⟨trivial, (callsIn_wide.2 (clone_any _ _ ah (hRd.keep K0) (by omega))).mono ?_⟩
              rintro e w2 ⟨v2, rfl, o2, k2⟩
              have hk2 := K0.size
              have O2 := o2.base_le (base' := wr.heap.size) (by rw [hdz] at hk2; omega)
              have K2 := K0.trans k2
              clear o2 k2 hk2
              obtain ⟨a2, c2, rfl, -⟩ := O2.rd
              dsimp only
              refine hK _ _ ?_
              clear hK K
              refine wpAnyIn_ready (rs := [4]) (by kernel_rfl) (by simp) ?_
              refine AllReadyIn.cons rfl (fun K hK => ?_) ?_
              · go_simp
                have T3 := (Boxed.new (w2) 2 (.int .i64 x)).cell
                have tl3 : (w2).heap.size < ((w2).alloc (.cells #[.int .i64 x] 2)).heap.size := by simp
                have K3 := K2.alloc (.cells #[.int .i64 x] 2)
                have O3 := O2.keep ((Keep.refl (w2)).alloc (.cells #[.int .i64 x] 2))
                refine hK _ _ ?_
                clear hK K
                refine wpAnyIn_ready (rs := [5]) (by kernel_rfl) (by simp) ?_
                refine AllReadyIn.cons rfl (fun K hK => ?_) ?_
                · refine stepIn_append_own rfl (.tmp 32) (.tmp 34) 27 rfl wr.heap.size 2 t0 (.int .i64 0) 1 8 Try.underlying27 t1 t2 t3 t4 rfl (by decide) _ _ _ rfl O3 ⟨_, 0, none⟩ 1 1 [.int .i64 x] rfl rfl (one_new T3) (by simp [Value.oneCell']) (by unfold maxLen; omega) (by omega) (by have := K3.size; rw [hdz] at this; omega) ?_
                  intro v4 w4 ho4 hg4
                  have O4 : Own w4 wr.heap.size v4 (ah ++ [x]) := own_hit ho4
                  have K4 : Keep wr.drew w4 := K3.grown hg4 (fun k hk => by rw [hdz]; exact O3.ge k hk)
                  obtain ⟨g4, c4, rfl⟩ := ownsRow_succ ho4
                  clear ho4 hg4
                  refine hK _ _ ?_
                  clear hK K
                  refine wpAnyIn_ready (rs := [6]) (by kernel_rfl) (by simp) ?_
                  refine AllReadyIn.cons rfl (fun K hK => ?_) ?_
                  · obtain ⟨fn, tmps, assign, body, hy, hR⟩ := hY (m - 1) (k * zs.length + j) (.slice (some ⟨g4, 0, none⟩) (ah.length + 1) c4) w4 hltj (hJ _ _ _ hJr (((But.refl _ wr).drew).keep K4)) (by show Own _ _ _ (atP css (n + 1) (k * zs.length + j)); rw [hatj]; exact O4.base_le (by omega))
                    go_simp
                    refine hR.mono ?_
                    rintro e w3 ⟨bb, rfl, hB3, hT3, hF3⟩
                    dsimp only
                    refine hK _ _ ?_
                    clear hK K hy hR
                    refine wpAnyIn_ready (rs := [7]) (by kernel_rfl) (by simp) ?_
                    refine AllReadyIn.cons rfl (fun K hK => ?_) ?_
                    · go_simp
                      refine hK _ _ ?_
                      clear hK K
                      refine wpAnyIn_done (by kernel_rfl) ?_ _
                      gi_wp2
                      gi_meet
                      case rel => exact ⟨bb, rfl, ((hBr.drew).keep K4).trans hB3, hT3, hF3⟩
                    exact AllReadyIn.nil
                  exact AllReadyIn.nil
                exact AllReadyIn.nil
              exact AllReadyIn.nil
            refine AllReadyIn.cons rfl (fun K hK => ?_) ?_
            · go_simp
              have T7 := (Boxed.new (wr.drew) 2 (.int .i64 x)).cell
              have tl7 : (wr.drew).heap.size < ((wr.drew).alloc (.cells #[.int .i64 x] 2)).heap.size := by simp
              have K7 := K0.alloc (.cells #[.int .i64 x] 2)
              refine hK _ _ ?_
              clear hK K
              refine wpAnyIn_ready (rs := [2]) (by kernel_rfl) (by simp) ?_
              refine AllReadyIn.cons rfl (fun K hK => ?_) ?_
              · go_simp
                refine ⟨trivial, (callsIn_wide.2 (clone_any _ _ ah (hRd.keep K7) (by omega))).mono ?_⟩
                rintro e w8 ⟨v8, rfl, o8, k8⟩
                have hk8 := K7.size
                have O8 := o8.base_le (base' := wr.heap.size) (by rw [hdz] at hk8; omega)
                have K8 := K7.trans k8
                have T8 := (k8.cell tl7).trans T7
                have tl8 := Nat.lt_of_lt_of_le tl7 k8.size
                clear o8 k8 hk8
                obtain ⟨a8, c8, rfl, -⟩ := O8.rd
                dsimp only
                refine hK _ _ ?_
                clear hK K
                refine wpAnyIn_ready (rs := [5]) (by kernel_rfl) (by simp) ?_
                refine AllReadyIn.cons rfl (fun K hK => ?_) ?_
                · refine stepIn_append_own rfl (.tmp 32) (.tmp 34) 27 rfl wr.heap.size 2 t0 (.int .i64 0) 1 8 Try.underlying27 t1 t2 t3 t4 rfl (by decide) _ _ _ rfl O8 ⟨_, 0, none⟩ 1 1 [.int .i64 x] rfl rfl (one_new T8) (by simp [Value.oneCell']) (by unfold maxLen; omega) (by omega) (by have := K8.size; rw [hdz] at this; omega) ?_
                  intro v9 w9 ho9 hg9
                  have O9 : Own w9 wr.heap.size v9 (ah ++ [x]) := own_hit ho9
                  have K9 : Keep wr.drew w9 := K8.grown hg9 (fun k hk => by rw [hdz]; exact O8.ge k hk)
                  obtain ⟨g9, c9, rfl⟩ := ownsRow_succ ho9
                  clear ho9 hg9
                  refine hK _ _ ?_
                  clear hK K
                  refine wpAnyIn_ready (rs := [6]) (by kernel_rfl) (by simp) ?_
                  refine AllReadyIn.cons rfl (fun K hK => ?_) ?_
                  · obtain ⟨fn, tmps, assign, body, hy, hR⟩ := hY (m - 1) (k * zs.length + j) (.slice (some ⟨g9, 0, none⟩) (ah.length + 1) c9) w9 hltj (hJ _ _ _ hJr (((But.refl _ wr).drew).keep K9)) (by show Own _ _ _ (atP css (n + 1) (k * zs.length + j)); rw [hatj]; exact O9.base_le (by omega))
                    go_simp
                    refine hR.mono ?_
                    rintro e w3 ⟨bb, rfl, hB3, hT3, hF3⟩
                    dsimp only
                    refine hK _ _ ?_
                    clear hK K hy hR
                    refine wpAnyIn_ready (rs := [7]) (by kernel_rfl) (by simp) ?_
                    refine AllReadyIn.cons rfl (fun K hK => ?_) ?_
                    · go_simp
                      refine hK _ _ ?_
                      clear hK K
                      refine wpAnyIn_done (by kernel_rfl) ?_ _
                      gi_wp2
                      gi_meet
                      case rel => exact ⟨bb, rfl, ((hBr.drew).keep K9).trans hB3, hT3, hF3⟩
                    exact AllReadyIn.nil
                  exact AllReadyIn.nil
                exact AllReadyIn.nil
              exact AllReadyIn.nil
            exact AllReadyIn.nil
          refine AllReadyIn.cons rfl (fun K hK => ?_) ?_
          · go_simp
            refine ⟨trivial, (callsIn_wide.2 (clone_any _ _ ah (hRd.keep K0) (by omega))).mono ?_⟩
            rintro e w12 ⟨v12, rfl, o12, k12⟩
            have hk12 := K0.size
            have O12 := o12.base_le (base' := wr.heap.size) (by rw [hdz] at hk12; omega)
            have K12 := K0.trans k12
            clear o12 k12 hk12
            obtain ⟨a12, c12, rfl, -⟩ := O12.rd
            dsimp only
            refine hK _ _ ?_
            clear hK K
            refine wpAnyIn_ready (rs := [0, 4]) (by kernel_rfl) (by simp) ?_
            refine AllReadyIn.cons rfl (fun K hK => ?_) ?_
            · have dy13 := (K12.cell (b := W.heap.size) (o := 0) (by rw [hdz]; omega)).trans dyd
              go_simp
              refine hK _ _ ?_
              clear hK K dy13
              refine wpAnyIn_ready (rs := [4]) (by kernel_rfl) (by simp) ?_
              refine AllReadyIn.cons rfl (fun K hK => ?_) ?_
              · go_simp
                have T14 := (Boxed.new (w12) 2 (.int .i64 x)).cell
                have tl14 : (w12).heap.size < ((w12).alloc (.cells #[.int .i64 x] 2)).heap.size := by simp
                have K14 := K12.alloc (.cells #[.int .i64 x] 2)
                have O14 := O12.keep ((Keep.refl (w12)).alloc (.cells #[.int .i64 x] 2))
                refine hK _ _ ?_
                clear hK K
                refine wpAnyIn_ready (rs := [5]) (by kernel_rfl) (by simp) ?_
                refine AllReadyIn.cons rfl (fun K hK => ?_) ?_
                · refine stepIn_append_own rfl (.tmp 32) (.tmp 34) 27 rfl wr.heap.size 2 t0 (.int .i64 0) 1 8 Try.underlying27 t1 t2 t3 t4 rfl (by decide) _ _ _ rfl O14 ⟨_, 0, none⟩ 1 1 [.int .i64 x] rfl rfl (one_new T14) (by simp [Value.oneCell']) (by unfold maxLen; omega) (by omega) (by have := K14.size; rw [hdz] at this; omega) ?_
                  intro v15 w15 ho15 hg15
                  have O15 : Own w15 wr.heap.size v15 (ah ++ [x]) := own_hit ho15
                  have K15 : Keep wr.drew w15 := K14.grown hg15 (fun k hk => by rw [hdz]; exact O14.ge k hk)
                  obtain ⟨g15, c15, rfl⟩ := ownsRow_succ ho15
                  clear ho15 hg15
                  refine hK _ _ ?_
                  clear hK K
                  refine wpAnyIn_ready (rs := [6]) (by kernel_rfl) (by simp) ?_
                  refine AllReadyIn.cons rfl (fun K hK => ?_) ?_
                  · obtain ⟨fn, tmps, assign, body, hy, hR⟩ := hY (m - 1) (k * zs.length + j) (.slice (some ⟨g15, 0, none⟩) (ah.length + 1) c15) w15 hltj (hJ _ _ _ hJr (((But.refl _ wr).drew).keep K15)) (by show Own _ _ _ (atP css (n + 1) (k * zs.length + j)); rw [hatj]; exact O15.base_le (by omega))
                    go_simp
                    refine hR.mono ?_
                    rintro e w3 ⟨bb, rfl, hB3, hT3, hF3⟩
                    dsimp only
                    refine hK _ _ ?_
                    clear hK K hy hR
                    refine wpAnyIn_ready (rs := [7]) (by kernel_rfl) (by simp) ?_
                    refine AllReadyIn.cons rfl (fun K hK => ?_) ?_
                    · go_simp
                      refine hK _ _ ?_
                      clear hK K
                      refine wpAnyIn_done (by kernel_rfl) ?_ _
                      gi_wp2
                      gi_meet
                      case rel => exact ⟨bb, rfl, ((hBr.drew).keep K15).trans hB3, hT3, hF3⟩
                    exact AllReadyIn.nil
                  exact AllReadyIn.nil
                exact AllReadyIn.nil
              exact AllReadyIn.nil
            refine AllReadyIn.cons rfl (fun K hK => ?_) ?_
            · go_simp
              have T18 := (Boxed.new (w12) 2 (.int .i64 x)).cell
              have tl18 : (w12).heap.size < ((w12).alloc (.cells #[.int .i64 x] 2)).heap.size := by simp
              have K18 := K12.alloc (.cells #[.int .i64 x] 2)
              have O18 := O12.keep ((Keep.refl (w12)).alloc (.cells #[.int .i64 x] 2))
              refine hK _ _ ?_
              clear hK K
              refine wpAnyIn_ready (rs := [0, 5]) (by kernel_rfl) (by simp) ?_
              refine AllReadyIn.cons rfl (fun K hK => ?_) ?_
              · have dy19 := (K18.cell (b := W.heap.size) (o := 0) (by rw [hdz]; omega)).trans dyd
                go_simp
                refine hK _ _ ?_
                clear hK K dy19
                refine wpAnyIn_ready (rs := [5]) (by kernel_rfl) (by simp) ?_
                refine AllReadyIn.cons rfl (fun K hK => ?_) ?_
                · refine stepIn_append_own rfl (.tmp 32) (.tmp 34) 27 rfl wr.heap.size 2 t0 (.int .i64 0) 1 8 Try.underlying27 t1 t2 t3 t4 rfl (by decide) _ _ _ rfl O18 ⟨_, 0, none⟩ 1 1 [.int .i64 x] rfl rfl (one_new T18) (by simp [Value.oneCell']) (by unfold maxLen; omega) (by omega) (by have := K18.size; rw [hdz] at this; omega) ?_
                  intro v20 w20 ho20 hg20
                  have O20 : Own w20 wr.heap.size v20 (ah ++ [x]) := own_hit ho20
                  have K20 : Keep wr.drew w20 := K18.grown hg20 (fun k hk => by rw [hdz]; exact O18.ge k hk)
                  obtain ⟨g20, c20, rfl⟩ := ownsRow_succ ho20
                  clear ho20 hg20
                  refine hK _ _ ?_
                  clear hK K
                  refine wpAnyIn_ready (rs := [6]) (by kernel_rfl) (by simp) ?_
                  refine AllReadyIn.cons rfl (fun K hK => ?_) ?_
                  · obtain ⟨fn, tmps, assign, body, hy, hR⟩ := hY (m - 1) (k * zs.length + j) (.slice (some ⟨g20, 0, none⟩) (ah.length + 1) c20) w20 hltj (hJ _ _ _ hJr (((But.refl _ wr).drew).keep K20)) (by show Own _ _ _ (atP css (n + 1) (k * zs.length + j)); rw [hatj]; exact O20.base_le (by omega))
                    go_simp
                    refine hR.mono ?_
                    rintro e w3 ⟨bb, rfl, hB3, hT3, hF3⟩
                    dsimp only
                    refine hK _ _ ?_
                    clear hK K hy hR
                    refine wpAnyIn_ready (rs := [7]) (by kernel_rfl) (by simp) ?_
                    refine AllReadyIn.cons rfl (fun K hK => ?_) ?_
                    · go_simp
                      refine hK _ _ ?_
                      clear hK K
                      refine wpAnyIn_done (by kernel_rfl) ?_ _
                      gi_wp2
                      gi_meet
                      case rel => exact ⟨bb, rfl, ((hBr.drew).keep K20).trans hB3, hT3, hF3⟩
                    exact AllReadyIn.nil
                  exact AllReadyIn.nil
                exact AllReadyIn.nil
              refine AllReadyIn.cons rfl (fun K hK => ?_) ?_
              · refine stepIn_append_own rfl (.tmp 32) (.tmp 34) 27 rfl wr.heap.size 2 t0 (.int .i64 0) 1 8 Try.underlying27 t1 t2 t3 t4 rfl (by decide) _ _ _ rfl O18 ⟨_, 0, none⟩ 1 1 [.int .i64 x] rfl rfl (one_new T18) (by simp [Value.oneCell']) (by unfold maxLen; omega) (by omega) (by have := K18.size; rw [hdz] at this; omega) ?_
                intro v23 w23 ho23 hg23
                have O23 : Own w23 wr.heap.size v23 (ah ++ [x]) := own_hit ho23
                have K23 : Keep wr.drew w23 := K18.grown hg23 (fun k hk => by rw [hdz]; exact O18.ge k hk)
                obtain ⟨g23, c23, rfl⟩ := ownsRow_succ ho23
                clear ho23 hg23
                refine hK _ _ ?_
                clear hK K
                refine wpAnyIn_ready (rs := [0]) (by kernel_rfl) (by simp) ?_
                refine AllReadyIn.cons rfl (fun K hK => ?_) ?_
                · have dy24 := (K23.cell (b := W.heap.size) (o := 0) (by rw [hdz]; omega)).trans dyd
                  go_simp
                  refine hK _ _ ?_
                  clear hK K dy24
                  refine wpAnyIn_ready (rs := [6]) (by kernel_rfl) (by simp) ?_
                  refine AllReadyIn.cons rfl (fun K hK => ?_) ?_
                  · obtain ⟨fn, tmps, assign, body, hy, hR⟩ := hY (m - 1) (k * zs.length + j) (.slice (some ⟨g23, 0, none⟩) (ah.length + 1) c23) w23 hltj (hJ _ _ _ hJr (((But.refl _ wr).drew).keep K23)) (by show Own _ _ _ (atP css (n + 1) (k * zs.length + j)); rw [hatj]; exact O23.base_le (by omega))
                    go_simp
                    refine hR.mono ?_
                    rintro e w3 ⟨bb, rfl, hB3, hT3, hF3⟩
                    dsimp only
                    refine hK _ _ ?_
                    clear hK K hy hR
                    refine wpAnyIn_ready (rs := [7]) (by kernel_rfl) (by simp) ?_
                    refine AllReadyIn.cons rfl (fun K hK => ?_) ?_
                    · go_simp
                      refine hK _ _ ?_
                      clear hK K
                      refine wpAnyIn_done (by kernel_rfl) ?_ _
                      gi_wp2
                      gi_meet
                      case rel => exact ⟨bb, rfl, ((hBr.drew).keep K23).trans hB3, hT3, hF3⟩
                    exact AllReadyIn.nil
                  exact AllReadyIn.nil
                exact AllReadyIn.nil
              exact AllReadyIn.nil
            exact AllReadyIn.nil
          refine AllReadyIn.cons rfl (fun K hK => ?_) ?_
          · go_simp
            have T27 := (Boxed.new (wr.drew) 2 (.int .i64 x)).cell
            have tl27 : (wr.drew).heap.size < ((wr.drew).alloc (.cells #[.int .i64 x] 2)).heap.size := by simp
            have K27 := K0.alloc (.cells #[.int .i64 x] 2)
            refine hK _ _ ?_
            clear hK K
            refine wpAnyIn_ready (rs := [0, 2]) (by kernel_rfl) (by simp) ?_
            refine AllReadyIn.cons rfl (fun K hK => ?_) ?_
            · have dy28 := (K27.cell (b := W.heap.size) (o := 0) (by rw [hdz]; omega)).trans dyd
              have dx28 : ((wr).alloc (.cells #[.int .i64 x] 2)).cell? ⟨W.heap.size, 0, none⟩ = some (.func (.yield l) #[] #[]) := dy28
              go_simp
              refine hK _ _ ?_
              clear hK K dy28
              refine wpAnyIn_ready (rs := [2]) (by kernel_rfl) (by simp) ?_
              refine AllReadyIn.cons rfl (fun K hK => ?_) ?_
              · go_simp
                refine ⟨trivial, (callsIn_wide.2 (clone_any _ _ ah (hRd.keep K27) (by omega))).mono ?_⟩
                rintro e w29 ⟨v29, rfl, o29, k29⟩
                have hk29 := K27.size
                have O29 := o29.base_le (base' := wr.heap.size) (by rw [hdz] at hk29; omega)
                have K29 := K27.trans k29
                have T29 := (k29.cell tl27).trans T27
                have tl29 := Nat.lt_of_lt_of_le tl27 k29.size
                clear o29 k29 hk29
                obtain ⟨a29, c29, rfl, -⟩ := O29.rd
                dsimp only
                refine hK _ _ ?_
                clear hK K
                refine wpAnyIn_ready (rs := [5]) (by kernel_rfl) (by simp) ?_
                refine AllReadyIn.cons rfl (fun K hK => ?_) ?_
                · refine stepIn_append_own rfl (.tmp 32) (.tmp 34) 27 rfl wr.heap.size 2 t0 (.int .i64 0) 1 8 Try.underlying27 t1 t2 t3 t4 rfl (by decide) _ _ _ rfl O29 ⟨_, 0, none⟩ 1 1 [.int .i64 x] rfl rfl (one_new T29) (by simp [Value.oneCell']) (by unfold maxLen; omega) (by omega) (by have := K29.size; rw [hdz] at this; omega) ?_
                  intro v30 w30 ho30 hg30
                  have O30 : Own w30 wr.heap.size v30 (ah ++ [x]) := own_hit ho30
                  have K30 : Keep wr.drew w30 := K29.grown hg30 (fun k hk => by rw [hdz]; exact O29.ge k hk)
                  obtain ⟨g30, c30, rfl⟩ := ownsRow_succ ho30
                  clear ho30 hg30
                  refine hK _ _ ?_
                  clear hK K
                  refine wpAnyIn_ready (rs := [6]) (by kernel_rfl) (by simp) ?_
                  refine AllReadyIn.cons rfl (fun K hK => ?_) ?_
                  · obtain ⟨fn, tmps, assign, body, hy, hR⟩ := hY (m - 1) (k * zs.length + j) (.slice (some ⟨g30, 0, none⟩) (ah.length + 1) c30) w30 hltj (hJ _ _ _ hJr (((But.refl _ wr).drew).keep K30)) (by show Own _ _ _ (atP css (n + 1) (k * zs.length + j)); rw [hatj]; exact O30.base_le (by omega))
                    go_simp
                    refine hR.mono ?_
                    rintro e w3 ⟨bb, rfl, hB3, hT3, hF3⟩
                    dsimp only
                    refine hK _ _ ?_
                    clear hK K hy hR
                    refine wpAnyIn_ready (rs := [7]) (by kernel_rfl) (by simp) ?_
                    refine AllReadyIn.cons rfl (fun K hK => ?_) ?_
                    · go_simp
                      refine hK _ _ ?_
                      clear hK K
                      refine wpAnyIn_done (by kernel_rfl) ?_ _
                      gi_wp2
                      gi_meet
                      case rel => exact ⟨bb, rfl, ((hBr.drew).keep K30).trans hB3, hT3, hF3⟩
                    exact AllReadyIn.nil
                  exact AllReadyIn.nil
                exact AllReadyIn.nil
              exact AllReadyIn.nil
            refine AllReadyIn.cons rfl (fun K hK => ?_) ?_
            · go_simp
              refine ⟨trivial, (callsIn_wide.2 (clone_any _ _ ah (hRd.keep K27) (by omega))).mono ?_⟩
              rintro e w33 ⟨v33, rfl, o33, k33⟩
              have hk33 := K27.size
              have O33 := o33.base_le (base' := wr.heap.size) (by rw [hdz] at hk33; omega)
              have K33 := K27.trans k33
              have T33 := (k33.cell tl27).trans T27
              have tl33 := Nat.lt_of_lt_of_le tl27 k33.size
              clear o33 k33 hk33
              obtain ⟨a33, c33, rfl, -⟩ := O33.rd
              dsimp only
              refine hK _ _ ?_
              clear hK K
              refine wpAnyIn_ready (rs := [0, 5]) (by kernel_rfl) (by simp) ?_
              refine AllReadyIn.cons rfl (fun K hK => ?_) ?_
              · have dy34 := (K33.cell (b := W.heap.size) (o := 0) (by rw [hdz]; omega)).trans dyd
                go_simp
                refine hK _ _ ?_
                clear hK K dy34
                refine wpAnyIn_ready (rs := [5]) (by kernel_rfl) (by simp) ?_
                refine AllReadyIn.cons rfl (fun K hK => ?_) ?_
                · refine stepIn_append_own rfl (.tmp 32) (.tmp 34) 27 rfl wr.heap.size 2 t0 (.int .i64 0) 1 8 Try.underlying27 t1 t2 t3 t4 rfl (by decide) _ _ _ rfl O33 ⟨_, 0, none⟩ 1 1 [.int .i64 x] rfl rfl (one_new T33) (by simp [Value.oneCell']) (by unfold maxLen; omega) (by omega) (by have := K33.size; rw [hdz] at this; omega) ?_
                  intro v35 w35 ho35 hg35
                  have O35 : Own w35 wr.heap.size v35 (ah ++ [x]) := own_hit ho35
                  have K35 : Keep wr.drew w35 := K33.grown hg35 (fun k hk => by rw [hdz]; exact O33.ge k hk)
                  obtain ⟨g35, c35, rfl⟩ := ownsRow_succ ho35
                  clear ho35 hg35
                  refine hK _ _ ?_
                  clear hK K
                  refine wpAnyIn_ready (rs := [6]) (by kernel_rfl) (by simp) ?_
                  refine AllReadyIn.cons rfl (fun K hK => ?_) ?_
                  · obtain ⟨fn, tmps, assign, body, hy, hR⟩ := hY (m - 1) (k * zs.length + j) (.slice (some ⟨g35, 0, none⟩) (ah.length + 1) c35) w35 hltj (hJ _ _ _ hJr (((But.refl _ wr).drew).keep K35)) (by show Own _ _ _ (atP css (n + 1) (k * zs.length + j)); rw [hatj]; exact O35.base_le (by omega))
                    go_simp
                    refine hR.mono ?_
                    rintro e w3 ⟨bb, rfl, hB3, hT3, hF3⟩
                    dsimp only
                    refine hK _ _ ?_
                    clear hK K hy hR
                    refine wpAnyIn_ready (rs := [7]) (by kernel_rfl) (by simp) ?_
                    refine AllReadyIn.cons rfl (fun K hK => ?_) ?_
                    · go_simp
                      refine hK _ _ ?_
                      clear hK K
                      refine wpAnyIn_done (by kernel_rfl) ?_ _
                      gi_wp2
                      gi_meet
                      case rel => exact ⟨bb, rfl, ((hBr.drew).keep K35).trans hB3, hT3, hF3⟩
                    exact AllReadyIn.nil
                  exact AllReadyIn.nil
                exact AllReadyIn.nil
              refine AllReadyIn.cons rfl (fun K hK => ?_) ?_
              · refine stepIn_append_own rfl (.tmp 32) (.tmp 34) 27 rfl wr.heap.size 2 t0 (.int .i64 0) 1 8 Try.underlying27 t1 t2 t3 t4 rfl (by decide) _ _ _ rfl O33 ⟨_, 0, none⟩ 1 1 [.int .i64 x] rfl rfl (one_new T33) (by simp [Value.oneCell']) (by unfold maxLen; omega) (by omega) (by have := K33.size; rw [hdz] at this; omega) ?_
                intro v38 w38 ho38 hg38
                have O38 : Own w38 wr.heap.size v38 (ah ++ [x]) := own_hit ho38
                have K38 : Keep wr.drew w38 := K33.grown hg38 (fun k hk => by rw [hdz]; exact O33.ge k hk)
                obtain ⟨g38, c38, rfl⟩ := ownsRow_succ ho38
                clear ho38 hg38
                refine hK _ _ ?_
                clear hK K
                refine wpAnyIn_ready (rs := [0]) (by kernel_rfl) (by simp) ?_
                refine AllReadyIn.cons rfl (fun K hK => ?_) ?_
                · have dy39 := (K38.cell (b := W.heap.size) (o := 0) (by rw [hdz]; omega)).trans dyd
                  go_simp
                  refine hK _ _ ?_
                  clear hK K dy39
                  refine wpAnyIn_ready (rs := [6]) (by kernel_rfl) (by simp) ?_
                  refine AllReadyIn.cons rfl (fun K hK => ?_) ?_
                  · obtain ⟨fn, tmps, assign, body, hy, hR⟩ := hY (m - 1) (k * zs.length + j) (.slice (some ⟨g38, 0, none⟩) (ah.length + 1) c38) w38 hltj (hJ _ _ _ hJr (((But.refl _ wr).drew).keep K38)) (by show Own _ _ _ (atP css (n + 1) (k * zs.length + j)); rw [hatj]; exact O38.base_le (by omega))
                    go_simp
                    refine hR.mono ?_
                    rintro e w3 ⟨bb, rfl, hB3, hT3, hF3⟩
                    dsimp only
                    refine hK _ _ ?_
                    clear hK K hy hR
                    refine wpAnyIn_ready (rs := [7]) (by kernel_rfl) (by simp) ?_
                    refine AllReadyIn.cons rfl (fun K hK => ?_) ?_
                    · go_simp
                      refine hK _ _ ?_
                      clear hK K
                      refine wpAnyIn_done (by kernel_rfl) ?_ _
                      gi_wp2
                      gi_meet
                      case rel => exact ⟨bb, rfl, ((hBr.drew).keep K38).trans hB3, hT3, hF3⟩
                    exact AllReadyIn.nil
                  exact AllReadyIn.nil
                exact AllReadyIn.nil
              exact AllReadyIn.nil
            exact AllReadyIn.nil
          exact AllReadyIn.nil
        case rest =>
          obtain ⟨bb, rfl, hB5, hT5, hF5⟩ := hcut
          cases bb
          · have hF6 := hF5 rfl
            clear hF5 hT5
            gi_wp2
            exact ⟨hB5, rfl, _, hltj, hF6⟩
          · have hT6 := hT5 rfl
            clear hF5 hT5
            gi_wp2
            go_roundw
            case rel => exact ⟨j + 1, by omega, by go_num, hT6, hB5⟩
            case measure => simp [intOf]; omega
      · obtain rfl : j = zs.length := by omega
        gi_wp2
        exact ⟨hBr, by rw [hm1]; exact hJr, hBk.trans (hBr.mono (fun _ _ h => .inl h))⟩
  case done =>
    rintro W4 ⟨h1, h2⟩ hD
    gi_wp2
    refine ⟨by simp, .inl ⟨_, _, rfl, run_takeDeferred hD, ?_⟩⟩
    exact ⟨_, results_none rfl _ _ _, ⟨_, rfl⟩, .inl (by rw [srcN_succ]; exact hJ _ _ _ h1 ((But.refl (NC W.heap.size W4) W4).put ⟨by omega, _, hD, rfl⟩ _))⟩
  case stop =>
    rintro c k W4 hk ⟨rfl, j, hj, h2⟩ hD
    gi_wp2
    refine ⟨by simp, .inl ⟨_, _, rfl, run_takeDeferred hD, ?_⟩⟩
    exact ⟨_, results_none rfl _ _ _, ⟨_, rfl⟩, .inr ⟨j, hj, hJx _ _ _ h2 ((But.refl (NC W.heap.size W4) W4).put ⟨by omega, _, hD, rfl⟩ _)⟩⟩
end Go.Proofs.Ytgolhjmbloiakaa

/- The program's iterator over the sources, whatever the choices. -/
namespace Go.Proofs.Ytgolhjmbloiakaa
open Go.ChangeShapes Go.WideShapes Go.ChangeAt Go.RowKit

theorem sources_seq (css : List (List Int)) (s1 s2 : Nat) (hcl : ∀ i, (css.getD i []).length ≤ 12) : ∀ n : Nat, n ≤ 12 → ∀ (w0 : World) (Bc : Nat) (v : Value), RdP s1 s2 w0 v n css → w0.cell? ⟨Bc, 0, none⟩ = some v → Bc < w0.heap.size → s2 ≤ w0.heap.size →
    SeqM Try.prog 115 #[.pointer (some ⟨Bc, 0, none⟩)] (PrS s1 s2 Bc) (srcN css n) (LieS css n) w0
  | 0, _, w0, Bc, v, h1, h2, h3, _ => sources0_seq css s1 s2 w0 Bc v h1 h2 h3
  | n + 1, hn, w0, Bc, v, h1, h2, h3, h4 => sourcesS_seq css s1 s2 hcl n hn (sources_seq css s1 s2 hcl n (by omega)) w0 Bc v h1 h2 h3 h4
theorem boxed_but {C : Nat → Prop} {A B : World} {g : Nat} {t : TypeId} {v : Value} (h : Boxed A g t v) (k : But C A B) (hn : ¬ C g) : Boxed B g t v := (k.block g h.lt hn).trans h
theorem keep_but {C : Nat → Prop} {w A B : World} (h : Keep w A) (k : But C A B) (hc : ∀ b, C b → w.heap.size ≤ b) : Keep w B :=
  ⟨k.os.trans h.os, k.tape.trans h.tape, k.output.trans h.output, Nat.le_trans h.size k.size, fun b hb => (k.block b (by have := h.size; omega) (fun e => by have := hc b e; omega)).trans (h.block b hb)⟩
theorem boxed_keep {A B : World} {g : Nat} {t : TypeId} {v : Value} (h : Boxed A g t v) (k : Keep A B) : Boxed B g t v := (k.block g h.lt).trans h
end Go.Proofs.Ytgolhjmbloiakaa

/- Contract of the program's SourcesCount. -/
namespace Go.Proofs.Ytgolhjmbloiakaa
open Go.ChangeShapes Go.WideShapes Go.ChangeAt Go.RowKit Go.Shelf

theorem chc_twelve {es : List Ev} (h : es.length ≤ 12) : ∀ i, ((chcL es).getD i []).length ≤ 12 := by
  intro i
  by_cases hi : i < (chcL es).length
  · exact (chc_len h).2 i hi
  · rw [List.getD_eq_getElem?_getD, List.getElem?_eq_none (by omega)]
    simp
set_option maxRecDepth 100000 in
set_option maxHeartbeats 2000000 in
theorem implSourcesCount_any (w : World) (v : Value) (dss : List (List Dd)) (h : RdW w v dss) (hx : dss.length ≤ 1048576) (hm : ∀ i, i < dss.length → (dss.getD i []).length ≤ 1048576) :
    Calls Try.prog 46 #[v] w fun e w' => e = .returned (.int .i64 (cntB dss)) ∧ Keep w w' := by
  have h12 : (eventsB dss).length ≤ 12 := by have := eventsB_len9 dss; omega
  obtain ⟨cl1, cl2⟩ := chc_len h12
  have cl3 := chc_twelve h12
  cases hb : workB dss
  · have HE : Hid (cntB dss = -1) := Lib.hid (by rw [cntB, hb]; rfl)
    have C := implWorkOk_any w v dss h hx hm
    rw [hb] at C
    go_enter Try.func46, Try.ntmps46
    go_wp2_with fail
    refine C.mono ?_
    rintro e w1 ⟨rfl, k1⟩
    go_wp2
    go_ret
    exact ⟨by rw [HE.out]; rfl, k1⟩
  have HE : Hid (cntB dss = (srcN (chcL (eventsB dss)) (chcL (eventsB dss)).length : Nat)) := Lib.hid (by rw [srcN_int, cntB, if_pos hb])
  have ct := (cnt_top cl1 cl2 _ (Nat.le_refl _)).2
  rw [← srcN_int] at ct
  have C := implWorkOk_any w v dss h hx hm
  rw [hb] at C
  have hdw : Fence.wide.depth = none := rfl
  have hsem := @Oper.semAt_some
  refine (callsIn_wide (n := 0)).1 (callsIn_of_wp_marks Try.func46 rfl trivial ?_ rfl)
  simp only [Try.ntmps46, List.size_toArray, List.length_cons, List.length_nil, Nat.reduceAdd, Nat.reduceSub, Array.replicate_succ, Array.replicate_zero, List.push_toArray, List.append_toArray, List.nil_append, List.cons_append]
  gi_wp2_with fail
  refine ⟨trivial, (callsIn_wide.2 C).mono ?_⟩
  rintro e w1 ⟨rfl, k1⟩
  have b1 := Boxed.new w1 2 (.int .i64 0)
  have k1' : Keep w (w1.alloc (.cells #[.int .i64 0] 2)) := k1.alloc _
  gi_wp2_with fail
  refine ⟨trivial, (callsIn_wide.2 (implEventsOf_any _ _ _ (h.keep k1') hx hm)).mono ?_⟩
  rintro e w2 ⟨v2, rfl, a2, k2⟩
  gi_wp2_with fail
  refine ⟨trivial, (callsIn_wide.2 (choicesOf_any _ _ _ a2.rd h12)).mono ?_⟩
  rintro e w3 ⟨v3, rfl, rp, k3⟩
  have b3 := boxed_keep (boxed_keep b1 k2) k3
  have K3 := (k1'.trans k2).trans k3
  have s2 := k2.size
  rw [heap_size] at s2
  have s3 := k3.size
  have hw1 := k1.size
  generalize chcL (eventsB dss) = css at *
  obtain ⟨ac, cc, hv3, -, -⟩ := rp.2
  subst hv3
  clear k1 k1' k2 k3 b1 a2 C h hx hm h12
  gi_wp2_with fail
  refine ⟨trivial, (callsIn_wide.2 (sources_any _ _ _ _)).mono ?_⟩
  rintro e w4 ⟨rfl, rfl⟩
  have bc := (Boxed.new w3 68 (.slice ac css.length cc)).cell
  have b4 := b3.alloc (.cells #[.slice ac css.length cc] 68)
  have K4 := K3.alloc (.cells #[.slice ac css.length cc] 68)
  have rp4 := rp.but (Nat.le_refl _) ((But.refl (fun _ => False) w3).alloc (.cells #[.slice ac css.length cc] 68)) (fun _ _ _ h => h)
  have hz4 := heap_size w3 (.cells #[.slice ac css.length cc] 68)
  generalize w3.alloc (.cells #[.slice ac css.length cc] 68) = w4 at *
  have hseq := sources_seq css w2.heap.size w3.heap.size cl3 css.length cl1 w4 w3.heap.size _ rp4 bc (by omega) (by omega)
  gi_wp2
  refine wp_rangeM (gf := 115) (lb := #[.pointer (some ⟨w3.heap.size, 0, none⟩)]) rfl (enters_of Try.func115 (by kernel_rfl) rfl) rfl hseq (But.refl _ _) ?pr (fun b => b = w1.heap.size) ?hC
    (fun k A => Boxed A w1.heap.size 2 (.int .i64 k) ∧ Keep w A) (fun _ _ _ => False) ?hI ?hIx (lieS_but css css.length) ⟨b4, K4⟩
    (fun v' => { tmps := #[v, undef, .int .i64 0, .pointer (some ⟨w1.heap.size, 0, none⟩), v, .bool true, .bool false, v, v2, .slice ac css.length cc, .func (.func 115) #[] #[.pointer (some ⟨w3.heap.size, 0, none⟩)], v', undef, undef, undef], defers := [] }) ?assign ?body ?done ?stop
  case pr => rintro b' (⟨_, h⟩ | rfl) <;> omega
  case hC =>
    rintro b' rfl
    refine ⟨by omega, ?_⟩
    rintro (⟨h1, h2⟩ | h) <;> omega
  case hI =>
    rintro k A B ⟨h1, h2⟩ hB
    exact ⟨boxed_but h1 hB (fun h => by have := h.1; omega), keep_but h2 hB (fun b hb => by have := hb.1; omega)⟩
  case hIx => intro c k A B h _; exact h
  case assign =>
    intro m v' W K hK
    gi_wp2
    simpa using hK
  case body =>
    rintro m k v' W hk ⟨h1, h2⟩ _
    have c1 := h1.cell
    have c2 := h1.frozen
    have i1 : (0 : Int) ≤ (k : Int) := Int.natCast_nonneg _
    have i2 : (k : Int) < 8916100448256 := by omega
    gi_wp2
    exact ⟨(But.refl (fun b => b = w1.heap.size) W).setCell rfl _ _, by have := h1.set (.int .i64 ((k : Int) + 1)); simpa using this, keep_but h2 ((But.refl (fun b => b = w1.heap.size) W).setCell rfl _ _) (fun b hb => by omega)⟩
  case done =>
    rintro W ⟨h1, h2⟩ hD
    have c1 := h1.cell
    gi_wp2
    refine ⟨by simp, .inl ⟨_, _, rfl, run_takeDeferred hD, ?_⟩⟩
    exact ⟨_, results_tmp rfl _ _ _, by rw [HE.out]; rfl, keep_but h2 ((But.refl (fun b => b = w4.heap.size) W).put rfl _) (fun b hb => by omega)⟩
  case stop => rintro c k W _ h _; exact h.elim
end Go.Proofs.Ytgolhjmbloiakaa

/- A scope in which the run jumps to several labels: what holds at each label when it is jumped to, with a number that each pass lowers. -/
namespace Go.Proofs.Ytgolhjmbloiakaa

/-- By a goto to a label: J of that label; else as Q. -/
def atLabel (J : Nat → Act → World → Prop) (Q : Exit → Act → World → Prop) : Exit → Act → World → Prop
  | .goto l, a, w => J l a w
  | e, a, w => Q e a w
theorem atLabel_ret {J : Nat → Act → World → Prop} {Q : Exit → Act → World → Prop} {a : Act} {w : World} : atLabel J Q .ret a w = Q .ret a w := rfl
theorem wp_scope_labels {P : Program} {Q : Exit → Act → World → Prop} {c : Code} {a : Act} {w : World} (rest : Nat → Code) (J : Nat → Nat → Act → World → Prop)
    (hf : ∀ l m a w, J l m a w → findLabel c l = some (rest l)) (first : c.wp P (atLabel (fun l a w => ∃ m, J l m a w) Q) a w)
    (pass : ∀ l m a w, J l m a w → (rest l).wp P (atLabel (fun l' a' w' => ∃ m', m' < m ∧ J l' m' a' w') Q) a w) : (Code.scope c).wp P Q a w := by
  intro b k cs
  have on : ∀ m l a w, J l m a w → ∃ e a' w', Q e a' w' ∧ Arrives P (lone (b.at a (.code (rest l) :: .inScope c :: k)) cs w) b k cs e a' w' := by
    intro m
    induction m using Nat.strongRecOn with
    | _ m ih =>
      intro l a w hJ
      obtain ⟨e, a₁, w₁, hq, harr⟩ := pass l m a w hJ b (.inScope c :: k) cs
      cases e with
      | goto l' =>
        obtain ⟨m', hlt, hJ'⟩ : ∃ m', m' < m ∧ J l' m' a₁ w₁ := hq
        obtain ⟨e₂, a₂, w₂, hq₂, harr₂⟩ := ih _ hlt l' a₁ w₁ hJ'
        have hg : gotoIn l' (.inScope c :: k) = some (.code (rest l') :: .inScope c :: k) := by simp [gotoIn, hf l' m' a₁ w₁ hJ']
        exact ⟨e₂, a₂, w₂, hq₂, .of_steps (harr _ hg) harr₂⟩
      | normal => exact ⟨.normal, a₁, w₁, hq, Steps.trans harr (.one step_inScope)⟩
      | exit id => exact ⟨.exit id, a₁, w₁, hq, fun k' hk => harr k' (by simp [exitTo, hk])⟩
      | ret => exact ⟨_, a₁, w₁, hq, harr⟩
      | panic ch => exact ⟨_, a₁, w₁, hq, harr⟩
      | outgrown => exact ⟨_, a₁, w₁, hq, harr⟩
  obtain ⟨e, a₁, w₁, hq, harr⟩ := first b (.inScope c :: k) cs
  cases e with
  | goto l' =>
    obtain ⟨m, hJ'⟩ : ∃ m, J l' m a₁ w₁ := hq
    obtain ⟨e₂, a₂, w₂, hq₂, harr₂⟩ := on m l' a₁ w₁ hJ'
    have hg : gotoIn l' (.inScope c :: k) = some (.code (rest l') :: .inScope c :: k) := by simp [gotoIn, hf l' m a₁ w₁ hJ']
    exact ⟨e₂, a₂, w₂, hq₂, .of_steps (.head step_scope (harr _ hg)) harr₂⟩
  | normal => exact ⟨.normal, a₁, w₁, hq, .head step_scope (Steps.trans harr (.one step_inScope))⟩
  | exit id => exact ⟨.exit id, a₁, w₁, hq, fun k' hk => .head step_scope (harr k' (by simp [exitTo, hk]))⟩
  | ret => exact ⟨_, a₁, w₁, hq, .of_steps (.one step_scope) harr⟩
  | panic ch => exact ⟨_, a₁, w₁, hq, .of_steps (.one step_scope) harr⟩
  | outgrown => exact ⟨_, a₁, w₁, hq, .of_steps (.one step_scope) harr⟩
def ofTwo {α : Type} (x0 x1 d : α) : Nat → α
  | 0 => x0
  | 1 => x1
  | _ => d
/-- Where one goes on: at each of two labels, with a lower number. -/
def below2 (J0 J1 : Nat → Act → World → Prop) (Q : Exit → Act → World → Prop) (m : Nat) : Exit → Act → World → Prop := atLabel (ofTwo (fun a' w' => ∃ m', m' < m ∧ J0 m' a' w') (fun a' w' => ∃ m', m' < m ∧ J1 m' a' w') (fun _ _ => False)) Q
def any2 (J0 J1 : Nat → Act → World → Prop) (Q : Exit → Act → World → Prop) : Exit → Act → World → Prop := atLabel (ofTwo (fun a w => ∃ m, J0 m a w) (fun a w => ∃ m, J1 m a w) (fun _ _ => False)) Q
theorem below2_ret {J0 J1 : Nat → Act → World → Prop} {Q : Exit → Act → World → Prop} {m : Nat} {a : Act} {w : World} : below2 J0 J1 Q m .ret a w = Q .ret a w := rfl
theorem below2_to0 {J0 J1 : Nat → Act → World → Prop} {Q : Exit → Act → World → Prop} {m : Nat} {a : Act} {w : World} (h : ∃ m', m' < m ∧ J0 m' a w) : below2 J0 J1 Q m (.goto 0) a w := h
theorem below2_to1 {J0 J1 : Nat → Act → World → Prop} {Q : Exit → Act → World → Prop} {m : Nat} {a : Act} {w : World} (h : ∃ m', m' < m ∧ J1 m' a w) : below2 J0 J1 Q m (.goto 1) a w := h
theorem below2_any {J0 J1 : Nat → Act → World → Prop} {Q : Exit → Act → World → Prop} {m : Nat} (e : Exit) (a : Act) (w : World) (h : below2 J0 J1 Q m e a w) : any2 J0 J1 Q e a w := by
  cases e with
  | goto l =>
    match l, h with
    | 0, h => obtain ⟨m', _, h⟩ : ∃ m', m' < m ∧ J0 m' a w := h; exact ⟨m', h⟩
    | 1, h => obtain ⟨m', _, h⟩ : ∃ m', m' < m ∧ J1 m' a w := h; exact ⟨m', h⟩
  | _ => exact h
theorem below2_le {J0 J1 : Nat → Act → World → Prop} {Q : Exit → Act → World → Prop} {k m : Nat} (hk : k ≤ m) (e : Exit) (a : Act) (w : World) (h : below2 J0 J1 Q k e a w) : below2 J0 J1 Q m e a w := by
  cases e with
  | goto l =>
    match l, h with
    | 0, h => obtain ⟨m', hl, h⟩ : ∃ m', m' < k ∧ J0 m' a w := h; exact ⟨m', by omega, h⟩
    | 1, h => obtain ⟨m', hl, h⟩ : ∃ m', m' < k ∧ J1 m' a w := h; exact ⟨m', by omega, h⟩
  | _ => exact h
/-- Two labels; from label 1 the run may also go straight on to label 0. -/
theorem wp_scope_two {P : Program} {Q : Exit → Act → World → Prop} {c r0 r1 : Code} {a : Act} {w : World} (J0 J1 : Nat → Act → World → Prop)
    (hf0 : findLabel c 0 = some (Code.skip.seq r0)) (hf1 : findLabel c 1 = some (Code.skip.seq r1))
    (pass0 : ∀ m a w, J0 m a w → r0.wp P (below2 J0 J1 Q m) a w)
    (pass1 : ∀ m, (∀ m' a w, m' < m → J0 m' a w → r0.wp P (below2 J0 J1 Q m) a w) → ∀ a w, J1 m a w → r1.wp P (below2 J0 J1 Q m) a w)
    (first : (∀ m a w, J1 m a w → r1.wp P (any2 J0 J1 Q) a w) → c.wp P (any2 J0 J1 Q) a w) : (Code.scope c).wp P Q a w := by
  have p1 : ∀ m a w, J1 m a w → r1.wp P (below2 J0 J1 Q m) a w := fun m a w h => pass1 m (fun m' a w hm h0 => Code.wp_mono (below2_le (Nat.le_of_lt hm)) (pass0 m' a w h0)) a w h
  have e1 : (fun l a w => ∃ m, ofTwo J0 J1 (fun _ _ _ => False) l m a w) = ofTwo (fun a w => ∃ m, J0 m a w) (fun a w => ∃ m, J1 m a w) (fun _ _ => False) := by
    funext l a w
    match l with
    | 0 => rfl
    | 1 => rfl
    | l + 2 => simp [ofTwo]
  have e2 : ∀ m : Nat, (fun l a w => ∃ m', m' < m ∧ ofTwo J0 J1 (fun _ _ _ => False) l m' a w) = ofTwo (fun a w => ∃ m', m' < m ∧ J0 m' a w) (fun a w => ∃ m', m' < m ∧ J1 m' a w) (fun _ _ => False) := by
    intro m
    funext l a w
    match l with
    | 0 => rfl
    | 1 => rfl
    | l + 2 => simp [ofTwo]
  refine wp_scope_labels (ofTwo (Code.skip.seq r0) (Code.skip.seq r1) r0) (ofTwo J0 J1 (fun _ _ _ => False)) (fun l m a w h => ?_) (by rw [e1]; exact first (fun m a w h => Code.wp_mono below2_any (p1 m a w h))) (fun l m a w h => ?_)
  · match l, h with
    | 0, _ => exact hf0
    | 1, _ => exact hf1
  · rw [e2]
    match l, h with
    | 0, h => exact wp_seq (wp_skip (pass0 m a w h))
    | 1, h => exact wp_seq (wp_skip (p1 m a w h))
end Go.Proofs.Ytgolhjmbloiakaa

/- Contract of the program's nextFor: the least that may have a seat, is past the one that had it last, and has none ahead. -/
namespace Go.Proofs.Ytgolhjmbloiakaa
open Go.ChangeShapes Go.WideShapes Go.ChangeAt Go.RowKit

theorem take_snocI (s : List Int) (k : Nat) (h : k < s.length) : s.take (k + 1) = s.take k ++ [s.getD k 0] := by
  rw [List.take_add_one, List.getElem?_eq_getElem h, List.getD_eq_getElem?_getD, List.getElem?_eq_getElem h]
  rfl
theorem next_take_more {s a : List Int} {last p : Int} {k : Nat} (h : nextL (s.take k) a last = []) (hk : k < s.length) (hp : p = s.getD k 0) (ht : (decide (last < p) && !isB a p) = false) : nextL (s.take (k + 1)) a last = [] := by
  unfold nextL at h ⊢
  rw [take_snocI s k hk, List.filter_append, h, ← hp]
  simp [ht]
theorem next_take_hit {s a : List Int} {last p : Int} {k : Nat} (h : nextL (s.take k) a last = []) (hk : k < s.length) (hp : p = s.getD k 0) (ht : (decide (last < p) && !isB a p) = true) : nextB s a last = p := by
  have e : s = s.take k ++ (p :: s.drop (k + 1)) := by
    rw [hp, List.getD_eq_getElem?_getD, List.getElem?_eq_getElem hk]
    show s = s.take k ++ s[k] :: s.drop (k + 1)
    rw [← List.drop_eq_getElem_cons hk, List.take_append_drop]
  unfold nextB
  unfold nextL at h ⊢
  rw [e, List.filter_append, h, List.filter_cons, if_pos ht]
  rfl
set_option maxHeartbeats 1000000 in
theorem nextFor_any (w : World) (v va : Value) (s a : List Int) (last : Int) (h : Rd w v s) (ha : Rd w va a) (hn : s.length ≤ 1048576) (han : a.length ≤ 1048576) :
    Calls Try.prog 114 #[v, va, .int .i64 last] w fun e w' => e = .returned (.int .i64 (nextB s a last)) ∧ w' = w := by
  obtain ⟨a1, c1, rfl, -⟩ := id ha
  obtain ⟨a0, c0, rfl, h⟩ := h
  go_enter Try.func114, Try.ntmps114
  go_wp2
  go_loop [11] (fun i => ∃ k : Nat, k ≤ s.length ∧ i = .int .i64 k ∧ Hid (nextL (s.take k) a last = [])) (fun i => s.length - (intOf i).toNat)
  case atStart => exact ⟨0, Nat.zero_le _, rfl, Lib.hid rfl⟩
  case round =>
    obtain ⟨k, hk, rfl, hno⟩ := hrel
    by_cases hlt : k < s.length
    · rcases h with h | ⟨b, o, rfl, hb, hc⟩
      · exfalso; rw [h] at hlt; simp at hlt
      have d1 := hc k hlt
      obtain ⟨p, hp⟩ : ∃ p, p = s.getD k 0 := ⟨_, rfl⟩
      have HP := Lib.hid hp
      rw [← hp] at d1
      clear hc hp
      have i1 : (0 : Int) ≤ (k : Int) := Int.natCast_nonneg _
      have i2 : (k : Int) < (s.length : Int) := by omega
      have C := contains_any w _ a ha han p
      by_cases hgt : last < p
      · cases hi : isB a p
        · have HE : Hid (nextB s a last = p) := Lib.hid (next_take_hit hno.out hlt HP.out (by rw [hi]; simp [hgt]))
          rw [hi] at C
          go_wp2_with fail
          refine C.mono ?_
          rintro e w5 ⟨rfl, rfl⟩
          go_wp2
          go_ret
          exact ⟨by rw [HE.out]; rfl, rfl⟩
        · have HE : Hid (nextL (s.take (k + 1)) a last = []) := Lib.hid (next_take_more hno.out hlt HP.out (by rw [hi]; simp))
          rw [hi] at C
          go_wp2_with fail
          refine C.mono ?_
          rintro e w5 ⟨rfl, rfl⟩
          go_wp2
          go_round
          case rel => exact ⟨k + 1, by omega, by go_num, HE⟩
          case measure => simp [intOf]; omega
      · have HE : Hid (nextL (s.take (k + 1)) a last = []) := Lib.hid (next_take_more hno.out hlt HP.out (by simp [hgt]))
        have hg2 : decide (last < p) = false := by simp [hgt]
        clear C
        go_wp2
        go_round
        case rel => exact ⟨k + 1, by omega, by go_num, HE⟩
        case measure => simp [intOf]; omega
    · obtain rfl : k = s.length := by omega
      have HE : Hid (nextB s a last = -1) := Lib.hid (by
        have := hno.out
        rw [List.take_length] at this
        unfold nextB
        rw [this]
        rfl)
      go_wp2
      go_ret
      exact ⟨by rw [HE.out]; rfl, rfl⟩
end Go.Proofs.Ytgolhjmbloiakaa

/- Contract of the program's walkedRows: it meets all that the seats allow, in their order, and stops at the n-th. -/
namespace Go.Proofs.Ytgolhjmbloiakaa
open Go.ChangeShapes Go.WideShapes Go.ChangeAt Go.RowKit

/-- The n-th of all, if there is one; how many were met. -/
def wrB (E : List (List Int)) (n : Int) : List Int := if 0 ≤ n ∧ n < (E.length : Int) then E.getD n.toNat [] else []
def wcB (E : List (List Int)) (n : Int) : Int := if 0 ≤ n ∧ n < (E.length : Int) then n else (E.length : Int)
/-- What holds while it walks: T is still to come. -/
structure Wk (ss : List (List Int)) (n : Int) (rows : List Int) (last : Int) (met : Nat) (T : List (Option (List Int))) : Prop where
  come : T.filterMap id = (allS ss []).drop met
  top : met ≤ (allS ss []).length
  low : n < 0 ∨ (met : Int) ≤ n
  len : rows.length ≤ ss.length
  lst : -1 ≤ last
  pos : ∀ x ∈ rows, 0 ≤ x
theorem Wk.start (ss : List (List Int)) (n : Int) : Wk ss n [] (-1) 0 (comeT ss [] (-1)) := by
  refine ⟨?_, Nat.zero_le _, by omega, Nat.zero_le _, by decide, by simp⟩
  have e : comeT ss [] (-1) = allT ss [] := by
    unfold comeT
    rw [here_all]
    exact List.append_nil _
  rw [e, all_found, List.drop_zero]
theorem Wk.nil {ss : List (List Int)} {n : Int} {rows : List Int} {last : Int} {met : Nat} {T : List (Option (List Int))} (h : Wk ss n rows last met T) (hT : T = []) : wcB (allS ss []) n = (met : Int) ∧ wrB (allS ss []) n = [] := by
  have hc := h.come
  rw [hT, List.filterMap_nil] at hc
  have hl := congrArg List.length hc
  rw [List.length_drop, List.length_nil] at hl
  have := h.top
  have := h.low
  unfold wcB wrB
  rw [if_neg (by omega), if_neg (by omega)]
  exact ⟨by omega, rfl⟩
theorem Wk.back {ss : List (List Int)} {n : Int} {r' : List Int} {x last : Int} {met : Nat} {T T' : List (Option (List Int))} (h : Wk ss n (r' ++ [x]) last met T) (hT : T = T') : Wk ss n r' x met T' := by
  have hl := h.len
  rw [List.length_append, List.length_singleton] at hl
  have := h.pos x (by simp)
  exact ⟨by rw [← hT]; exact h.come, h.top, h.low, by omega, by omega, fun y hy => h.pos y (by simp [hy])⟩
theorem Wk.fail {ss : List (List Int)} {n : Int} {rows : List Int} {last last' : Int} {met : Nat} {T T' : List (Option (List Int))} (h : Wk ss n rows last met T) (hT : T = none :: T') (hl : -1 ≤ last') : Wk ss n rows last' met T' := by
  have hc := h.come
  rw [hT, List.filterMap_cons] at hc
  exact ⟨hc, h.top, h.low, h.len, hl, h.pos⟩
theorem Wk.give {ss : List (List Int)} {n : Int} {rows : List Int} {last x : Int} {met : Nat} {T T' : List (Option (List Int))} (h : Wk ss n rows last met T) (hT : T = none :: T') (hx : 0 ≤ x) (hlt : rows.length < ss.length) : Wk ss n (rows ++ [x]) (-1) met T' := by
  have hc := h.come
  rw [hT, List.filterMap_cons] at hc
  refine ⟨hc, h.top, h.low, by rw [List.length_append, List.length_singleton]; omega, by decide, fun y hy => ?_⟩
  rcases List.mem_append.1 hy with hy | hy
  · exact h.pos y hy
  · rw [List.mem_singleton] at hy
    omega
theorem Wk.met {ss : List (List Int)} {n : Int} {rows : List Int} {last : Int} {met : Nat} {T T' : List (Option (List Int))} (h : Wk ss n rows last met T) (hT : T = some rows :: T') :
    met < (allS ss []).length ∧ (allS ss []).getD met [] = rows ∧ T'.filterMap id = (allS ss []).drop (met + 1) := by
  have hc := h.come
  rw [hT, List.filterMap_cons] at hc
  have hl : met < (allS ss []).length := by
    apply Classical.byContradiction
    intro hn
    rw [List.drop_of_length_le (by omega)] at hc
    cases hc
  rw [List.drop_eq_getElem_cons hl] at hc
  simp only [id, List.cons.injEq] at hc
  refine ⟨hl, ?_, hc.2⟩
  rw [List.getD_eq_getElem?_getD, List.getElem?_eq_getElem hl]
  exact hc.1.symm
theorem Wk.hit {ss : List (List Int)} {n : Int} {rows : List Int} {last : Int} {met : Nat} {T T' : List (Option (List Int))} (h : Wk ss n rows last met T) (hT : T = some rows :: T') (hn : (met : Int) = n) : wcB (allS ss []) n = (met : Int) ∧ wrB (allS ss []) n = rows := by
  obtain ⟨h1, h2, _⟩ := h.met hT
  unfold wcB wrB
  rw [if_pos (by omega), if_pos (by omega), ← hn, Int.toNat_natCast]
  exact ⟨rfl, h2⟩
theorem Wk.pass {ss : List (List Int)} {n : Int} {rows : List Int} {last : Int} {met : Nat} {T T' : List (Option (List Int))} (h : Wk ss n rows last met T) (hT : T = some rows :: T') (hn : (met : Int) ≠ n) : Wk ss n rows last (met + 1) T' := by
  obtain ⟨h1, h2, h3⟩ := h.met hT
  have := h.low
  exact ⟨h3, by omega, by omega, h.len, h.lst, h.pos⟩
theorem wrap_small {n : Int} (h : 0 ≤ n ∧ n < 4611686018427387904) : IntKind.i64.wrap n = n := by
  rw [IntKind.wrap_i64]
  omega
theorem Own.short {w : World} {base : Nat} {ar : Option Addr} {cr : Nat} {r' : List Int} {x : Int} {n : Nat} (h : Own w base (.slice ar n cr) (r' ++ [x])) :
    ∃ g, ar = some ⟨g, 0, none⟩ ∧ Own w base (.slice (some ⟨g, 0, none⟩) r'.length cr) r' ∧ w.cell? ⟨g, r'.length, none⟩ = some (.int .i64 x) ∧ r'.length + 1 ≤ cr := by
  have hrd := h.rd
  unfold Own World.ownsRow at h
  rcases h.2 with ⟨h1, h2⟩ | ⟨g, cap, cur, hv, hb, hg, hc, hm, hs, ht⟩
  · simp at h2
  · simp only [Value.slice.injEq] at hv
    obtain ⟨rfl, rfl, rfl⟩ := hv
    rw [List.length_append, List.length_singleton] at hc
    refine ⟨g, rfl, ⟨by simp, .inr ⟨g, cr, cur, rfl, hb, hg, by omega, hm, hs, ?_⟩⟩, ?_, hc⟩
    · rw [Nat.mul_one, List.length_append, List.length_singleton] at ht
      have := congrArg (List.take r'.length) ht
      rw [List.take_take, Nat.min_eq_left (by omega), List.map_append, List.take_append_of_le_length (by simp)] at this
      have e : (r'.map (Value.int .i64)).take r'.length = r'.map (Value.int .i64) := List.take_of_length_le (by simp)
      rw [e] at this
      rw [Nat.mul_one]
      exact this
    · obtain ⟨a, c, he, hr⟩ := hrd
      simp only [Value.slice.injEq] at he
      obtain ⟨rfl, _, rfl⟩ := he
      rcases hr with hr | ⟨b, off, he, hb2, hcell⟩
      · simp at hr
      · simp only [Option.some.injEq, Addr.mk.injEq, and_true] at he
        obtain ⟨rfl, rfl⟩ := he
        have := hcell r'.length (by simp)
        rw [Nat.zero_add, List.getD_eq_getElem?_getD, List.getElem?_append_right (Nat.le_refl _), Nat.sub_self] at this
        exact this
def atBack (w : World) (a0 : Option Addr) (c0 : Nat) (ss : List (List Int)) (n : Int) : Nat → Act → World → Prop := fun m a wr => ∃ (rows : List Int) (vr : Value) (met : Nat) (last : Int), m = 2 * (backT ss rows rows.length).length + 1 ∧ Wk ss n rows last met (backT ss rows rows.length) ∧ Own wr w.heap.size vr rows ∧ Keep w wr ∧ ∃ (u9 u10 u11 u12 u13 u14 u15 u16 u17 u18 u19 u20 u21 u22 u23 u24 u25 u26 u27 u28 u29 u30 u31 u32 u33 u34 u35 u36 u37 u38 u39 u40 u41 u42 u43 u44 u45 u46 u47 u48 u49 u50 u51 : Value), a = { tmps := #[.slice a0 ss.length c0, .int .i64 n, undef, undef, .slice none 0 0, .int .i64 0, vr, .int .i64 met, .int .i64 last, u9, u10, u11, u12, u13, u14, u15, u16, u17, u18, u19, u20, u21, u22, u23, u24, u25, u26, u27, u28, u29, u30, u31, u32, u33, u34, u35, u36, u37, u38, u39, u40, u41, u42, u43, u44, u45, u46, u47, u48, u49, u50, u51], defers := [] }
def atOn (w : World) (a0 : Option Addr) (c0 : Nat) (ss : List (List Int)) (n : Int) : Nat → Act → World → Prop := fun m a wr => ∃ (rows : List Int) (vr : Value) (met : Nat) (last : Int), m = 2 * (comeT ss rows last).length ∧ Wk ss n rows last met (comeT ss rows last) ∧ Own wr w.heap.size vr rows ∧ Keep w wr ∧ ∃ (u9 u10 u11 u12 u13 u14 u15 u16 u17 u18 u19 u20 u21 u22 u23 u24 u25 u26 u27 u28 u29 u30 u31 u32 u33 u34 u35 u36 u37 u38 u39 u40 u41 u42 u43 u44 u45 u46 u47 u48 u49 u50 u51 : Value), a = { tmps := #[.slice a0 ss.length c0, .int .i64 n, undef, undef, .slice none 0 0, .int .i64 0, vr, .int .i64 met, .int .i64 last, u9, u10, u11, u12, u13, u14, u15, u16, u17, u18, u19, u20, u21, u22, u23, u24, u25, u26, u27, u28, u29, u30, u31, u32, u33, u34, u35, u36, u37, u38, u39, u40, u41, u42, u43, u44, u45, u46, u47, u48, u49, u50, u51], defers := [] }
set_option maxRecDepth 100000 in
set_option maxHeartbeats 4000000 in
theorem walkedRows_any (w : World) (v : Value) (ss : List (List Int)) (n : Int) (h : RdL w v ss) (hsl : ss.length ≤ 1048576) (hs : ∀ i, i < ss.length → (ss.getD i []).Pairwise (· < ·) ∧ (ss.getD i []).length ≤ 1048576) (hE : (allS ss []).length ≤ 1000000000000000000) :
    Calls Try.prog 77 #[v, .int .i64 n] w fun e w' => ∃ v', e = .returned (.tuple #[v', .int .i64 (wcB (allS ss []) n)]) ∧ Own w' w.heap.size v' (wrB (allS ss []) n) ∧ Keep w w' := by
  have hL := h
  obtain ⟨a0, c0, rfl, -⟩ := id h
  have hown0 : Own (w.alloc (.cells #[] 2)) w.heap.size (.slice (some ⟨w.heap.size, 0, none⟩) 0 0) [] := World.ownsRow_lit w #[] 0 (Nat.le_refl _) (by decide) rfl
  have K0 : Keep w (w.alloc (.cells #[] 2)) := (Keep.refl w).alloc _
  obtain ⟨i0, hi, hz0, hz1, hz2⟩ := info_parts Try.infoI
  have hS := Lib.hid hs
  clear h hs
  have W0 := Wk.start ss n
  go_enter Try.func77, Try.ntmps77
  go_wp2
  refine wp_scope_two (atBack w a0 c0 ss n) (atOn w a0 c0 ss n) rfl rfl ?pass0 ?pass1 ?first
  case pass0 =>
    rintro m a wr ⟨rows, vr, met, last, hm, hW, hO, hK, u9, u10, u11, u12, u13, u14, u15, u16, u17, u18, u19, u20, u21, u22, u23, u24, u25, u26, u27, u28, u29, u30, u31, u32, u33, u34, u35, u36, u37, u38, u39, u40, u41, u42, u43, u44, u45, u46, u47, u48, u49, u50, u51, rfl⟩
    obtain ⟨ar, cr, rfl, -⟩ := id hO.rd
    have HM0 := Lib.hid hm
    have RS := hL
    clear hown0 K0 W0 hm
    by_cases h0 : rows.length = 0
    · have hr0 : rows = [] := List.eq_nil_of_length_eq_zero h0
      have hb0 : ((rows.length : Int) == 0) = true := by simp [h0]
      have HA : Hid (wcB (allS ss []) n = (met : Int) ∧ wrB (allS ss []) n = rows) := Lib.hid (by rw [hr0]; exact hW.nil (by rw [hr0]; rfl))
      clear h0 hr0 hW hS RS hL
      go_wp2
      rw [below2_ret]
      go_ret2
      exact ⟨.slice ar rows.length cr, by rw [HA.out.1]; rfl, by rw [HA.out.2]; exact hO, hK⟩
    · obtain ⟨r', x, hrx⟩ : ∃ r' x, rows = r' ++ [x] := ⟨rows.dropLast, rows.getLast (fun e => h0 (by rw [e]; rfl)), (List.dropLast_concat_getLast _).symm⟩
      subst hrx
      have hlen : (r' ++ [x]).length = r'.length + 1 := by simp
      have HC : Hid (backT ss (r' ++ [x]) (r' ++ [x]).length = comeT ss r' x) := Lib.hid (back_snoc ss r' x)
      have hb0 : (((r'.length + 1 : Nat) : Int) == 0) = false := by simp; omega
      have hW' := hW.back HC.out
      have HM : Hid (2 * (comeT ss r' x).length < m) := Lib.hid (by rw [← HC.out]; have := HM0.out; omega)
      have hrl := hW'.len
      obtain ⟨g, hg, hO', hcell, hcap⟩ := hO.short
      subst hg
      have i1 : IntKind.i64.wrap (((r'.length + 1 : Nat) : Int) - 1) = (r'.length : Int) := by
        have : ((r'.length + 1 : Nat) : Int) - 1 = (r'.length : Int) := by omega
        rw [this]
        exact wrap_small (by omega)
      have i2 : (0 : Int) ≤ (r'.length : Int) := Int.natCast_nonneg _
      have i3 : (r'.length : Int) < ((r'.length + 1 : Nat) : Int) := by omega
      have i4 : (r'.length : Int) ≤ (cr : Int) := by omega
      rw [hlen]
      clear h0 hW hS RS hL hO HC hlen
      go_wp2
      go_step3
      refine below2_to1 ?_
      exact ⟨_, HM.out, r', _, met, x, rfl, hW', hO', hK, _, _, _, _, _, _, _, _, _, _, _, _, _, _, _, _, _, _, _, _, _, _, _, _, _, _, _, _, _, _, _, _, _, _, _, _, _, _, _, _, _, _, _, rfl⟩

  case pass1 =>
    intro m pass0
    rintro a wr ⟨rows, vr, met, last, hm, hW, hO, hK, u9, u10, u11, u12, u13, u14, u15, u16, u17, u18, u19, u20, u21, u22, u23, u24, u25, u26, u27, u28, u29, u30, u31, u32, u33, u34, u35, u36, u37, u38, u39, u40, u41, u42, u43, u44, u45, u46, u47, u48, u49, u50, u51, rfl⟩
    obtain ⟨ar, cr, rfl, -⟩ := id hO.rd
    have HM0 := Lib.hid hm
    have PB := Lib.hid pass0
    clear hown0 K0 W0 hm pass0
    have hwl := hW.len
    by_cases hfull : rows.length = ss.length
    · have HF : Hid (comeT ss rows last = some rows :: backT ss rows rows.length) := Lib.hid (come_full hfull)
      have hb1 : ((rows.length : Int) == (ss.length : Int)) = true := by simp [hfull]
      have hb1' : ((ss.length : Int) == (rows.length : Int)) = true := by simp [hfull]
      clear hfull
      by_cases hmn : (met : Int) = n
      · have HA : Hid (wcB (allS ss []) n = (met : Int) ∧ wrB (allS ss []) n = rows) := Lib.hid (hW.hit HF.out hmn)
        have hb2 : ((met : Int) == n) = true := by simp [hmn]
        clear hmn hW hS hL PB hwl
        go_wp2
        rw [below2_ret]
        go_ret2
        exact ⟨.slice ar rows.length cr, by rw [HA.out.1]; rfl, by rw [HA.out.2]; exact hO, hK⟩
      · have hW2 := hW.pass HF.out hmn
        have hb2 : ((met : Int) == n) = false := by simp [hmn]
        have htop := hW2.top
        have i1 : IntKind.i64.wrap ((met : Int) + 1) = ((met + 1 : Nat) : Int) := by
          have : (met : Int) + 1 = ((met + 1 : Nat) : Int) := by omega
          rw [this]
          exact wrap_small (by omega)
        have HM : Hid (2 * (backT ss rows rows.length).length + 1 < m) := Lib.hid (by rw [HM0.out, HF.out, List.length_cons]; omega)
        clear hmn hW hS hL PB hwl htop
        go_wp2
        go_step3
        refine below2_to0 ?_
        exact ⟨_, HM.out, rows, _, met + 1, last, rfl, hW2, hO, hK, _, _, _, _, _, _, _, _, _, _, _, _, _, _, _, _, _, _, _, _, _, _, _, _, _, _, _, _, _, _, _, _, _, _, _, _, _, _, _, _, _, _, _, rfl⟩
    · have hlt : rows.length < ss.length := by omega
      have hb1 : ((rows.length : Int) == (ss.length : Int)) = false := by simp; omega
      have RS := hL.keep hK
      obtain ⟨a', c', he', RS⟩ := RS
      simp only [Value.slice.injEq, true_and] at he'
      obtain ⟨rfl, rfl⟩ := he'
      rcases RS with h0 | ⟨b, o, rfl, hb, hc⟩
      · exfalso; rw [h0] at hlt; simp at hlt
      obtain ⟨vi, d1, r2⟩ := hc rows.length hlt
      obtain ⟨hs1, hs2⟩ := hS.out rows.length hlt
      have j1 : (0 : Int) ≤ (rows.length : Int) := Int.natCast_nonneg _
      have j2 : (rows.length : Int) < (ss.length : Int) := by omega
      have C := nextFor_any wr vi _ (ss.getD rows.length []) rows last r2 hO.rd hs2 (by omega)
      obtain ⟨az, cz, hvi, -⟩ := id r2
      have hsz := hK.size
      rcases hnx : nextL (ss.getD rows.length []) rows last with _ | ⟨x, t⟩
      · have HF : Hid (comeT ss rows last = none :: backT ss rows rows.length) := Lib.hid (come_none hlt hnx)
        have hnb : nextB (ss.getD rows.length []) rows last = -1 := by unfold nextB; rw [hnx]; rfl
        rw [hnb] at C
        have hW2 := hW.fail HF.out (last' := -1) (by decide)
        have HM : Hid (2 * (backT ss rows rows.length).length + 1 < m) := Lib.hid (by rw [HM0.out, HF.out, List.length_cons]; omega)
        have hrb : ((-1 : Int) != -1) = false := by decide
        clear hc hs1 hs2 hnx hnb hS hL hW hfull r2 hb hwl
        generalize (ss.getD rows.length []).length = sl at hvi
        subst hvi
        go_wp2_with fail
        refine C.mono ?_
        rintro e w5 ⟨rfl, rfl⟩
        clear C
        go_wp2
        go_step3
        simp only [Exit.then]
        rename_i hkk
        apply hkk
        exact PB.out _ _ _ HM.out ⟨rows, _, met, -1, rfl, hW2, hO, hK, _, _, _, _, _, _, _, _, _, _, _, _, _, _, _, _, _, _, _, _, _, _, _, _, _, _, _, _, _, _, _, _, _, _, _, _, _, _, _, _, _, _, _, rfl⟩
      · obtain ⟨-, hx1, -⟩ := next_step hs1 hnx
        have hx0 : 0 ≤ x := by have := hW.lst; omega
        have HF : Hid (comeT ss rows last = none :: comeT ss (rows ++ [x]) (-1)) := Lib.hid (come_give hlt hs1 hnx)
        have hnb : nextB (ss.getD rows.length []) rows last = x := by unfold nextB; rw [hnx]; rfl
        rw [hnb] at C
        have hW2 := hW.give HF.out hx0 hlt
        have HM : Hid (2 * (comeT ss (rows ++ [x]) (-1)).length < m) := Lib.hid (by rw [HM0.out, HF.out, List.length_cons]; omega)
        have hrb : (x != -1) = true := by simp; omega
        clear hc hs1 hs2 hnx hnb hS hL hW hfull r2 hb PB hx1
        generalize (ss.getD rows.length []).length = sl at hvi
        subst hvi
        go_wp2_with fail
        refine C.mono ?_
        rintro e w5 ⟨rfl, rfl⟩
        clear C
        go_wp2_with (at_builtin; refine wpList_append_own _ rfl _ _ 27 rfl w.heap.size 2 i0 (.int .i64 0) 1 8 Try.underlying27 hi hz0 hz1 hz2 rfl (by decide) _ _ _ rfl (World.ownsRow.alloc hO _) ⟨_, 0, none⟩ 1 1 [.int .i64 x] rfl rfl ?c1 ?c2 ?c3 ?c4 ?c5 ?_)
        case c1 =>
          intro j u hj
          match j, hj with
          | 0, hj => simp at hj; subst hj; simp [Addr.add]
        case c2 => intro u hu; simp at hu; subst hu; rfl
        case c3 => unfold maxLen; omega
        case c4 => omega
        case c5 => simp; omega
        intro v' w2 hown' hgrow _
        have hK2 : Keep w w2 := (hK.alloc _).grown hgrow hO.ge
        have hO2 := own_hit hown'
        clear hgrow hown' hO hK
        go_wp2
        go_step3
        refine below2_to1 ?_
        exact ⟨_, HM.out, rows ++ [x], v', met, -1, rfl, hW2, hO2, hK2, _, _, _, _, _, _, _, _, _, _, _, _, _, _, _, _, _, _, _, _, _, _, _, _, _, _, _, _, _, _, _, _, _, _, _, _, _, _, _, _, _, _, _, rfl⟩
  case first =>
    intro P1
    have PB := Lib.hid P1
    clear P1
    go_wp2
    go_step3
    simp only [Exit.then]
    rename_i hkk
    apply hkk
    refine PB.out _ _ _ ⟨[], _, 0, -1, rfl, W0, hown0, K0, _, _, _, _, _, _, _, _, _, _, _, _, _, _, _, _, _, _, _, _, _, _, _, _, _, _, _, _, _, _, _, _, _, _, _, _, _, _, _, _, _, _, _, rfl⟩
end Go.Proofs.Ytgolhjmbloiakaa

/- Contracts of the program's RowsCount and RowsAt. -/
namespace Go.Proofs.Ytgolhjmbloiakaa
open Go.ChangeShapes Go.WideShapes Go.ChangeAt Go.RowKit

theorem rcnt_top {es : List Ev} (hx : es.length ≤ 9) : rcntL es ≤ 47784725839872000 := by
  have a0 := fac_mono9 (m := (plcW es 0).length - 1) (by have := plcW_9 hx 0; omega)
  have a1 := fac_mono9 (m := (plcW es 1).length - 1) (by have := plcW_9 hx 1; omega)
  have a2 := fac_mono9 (m := (plcW es 2).length - 1) (by have := plcW_9 hx 2; omega)
  have b0 := fac_pos ((plcW es 0).length - 1)
  have b1 := fac_pos ((plcW es 1).length - 1)
  have b2 := fac_pos ((plcW es 2).length - 1)
  unfold rcntL
  have h1 := Int.mul_le_mul a0 a1 (by omega) (by omega)
  have h2 := Int.mul_le_mul h1 a2 (by omega) (by omega)
  omega
theorem all_len {dss : List (List Dd)} (hb : workB dss = true) : ((allS (seatsL (eventsB dss)) []).length : Int) = rcntL (eventsB dss) := by
  rw [all_rows hb, List.length_map, List.length_range]
  have := rcnt_pos (eventsB dss)
  omega
theorem all_top (dss : List (List Dd)) : (allS (seatsL (eventsB dss)) []).length ≤ 1000000000000000000 := by
  cases hb : workB dss
  · rw [all_none hb]; simp
  · have h1 := all_len hb
    have h2 := rcnt_top (eventsB_len9 dss)
    omega
theorem wr_same (dss : List (List Dd)) (n : Int) : wrB (allS (seatsL (eventsB dss)) []) n = ratB dss n := by
  cases hb : workB dss
  · have hc : rcntB dss = -1 := by unfold rcntB; rw [hb]; rfl
    rw [all_none hb]
    unfold wrB ratB
    rw [hc, if_neg (show ¬ (0 ≤ n ∧ n < (-1 : Int)) by omega)]
    split
    · rename_i h
      have : n = 0 := by simp at h; omega
      subst this
      rfl
    · rfl
  · have hc : rcntB dss = rcntL (eventsB dss) := by unfold rcntB; rw [hb]; rfl
    have hl := all_len hb
    unfold wrB ratB
    rw [hl, hc]
    split
    · rename_i h
      rw [all_rows hb, List.getD_eq_getElem?_getD, List.getElem?_map, List.getElem?_range (by omega)]
      show ratL (eventsB dss) ((n.toNat : Nat) : Int) = ratL (eventsB dss) n
      rw [Int.toNat_of_nonneg h.1]
    · rfl
theorem wc_same {dss : List (List Dd)} (hb : workB dss = true) : wcB (allS (seatsL (eventsB dss)) []) (-1) = rcntB dss := by
  unfold wcB rcntB
  rw [if_neg (by omega), all_len hb, if_pos hb]
set_option maxHeartbeats 1000000 in
theorem implRowsCount_any (w : World) (v : Value) (dss : List (List Dd)) (h : RdW w v dss) (hx : dss.length ≤ 1048576) (hm : ∀ i, i < dss.length → (dss.getD i []).length ≤ 1048576) :
    Calls Try.prog 42 #[v] w fun e w' => e = .returned (.int .i64 (rcntB dss)) ∧ Keep w w' := by
  have h12 : (eventsB dss).length ≤ 12 := by have := eventsB_len9 dss; omega
  have CW := implWorkOk_any w v dss h hx hm
  cases hb : workB dss
  · have HN : Hid (rcntB dss = -1) := Lib.hid (by unfold rcntB; rw [hb]; rfl)
    rw [hb] at CW
    go_enter Try.func42, Try.ntmps42
    go_wp2_with fail
    refine CW.mono ?_
    rintro e w1 ⟨rfl, k1⟩
    go_wp2
    go_ret
    exact ⟨by rw [HN.out]; rfl, k1⟩
  · have HN : Hid (rcntB dss = wcB (allS (seatsL (eventsB dss)) []) (-1)) := Lib.hid (wc_same hb).symm
    rw [hb] at CW
    go_enter Try.func42, Try.ntmps42
    go_wp2_with fail
    refine CW.mono ?_
    rintro e w1 ⟨rfl, k1⟩
    go_wp2_with fail
    refine (implEventsOf_any _ _ _ (h.keep k1) hx hm).mono ?_
    rintro e w2 ⟨v2, rfl, a2, k2⟩
    go_wp2_with fail
    refine (seatsOf_any _ _ _ a2.rd h12).mono ?_
    rintro e w3 ⟨v3, rfl, rc, k3⟩
    go_wp2_with fail
    refine (walkedRows_any _ _ _ (-1) rc (by have := seats_36 h12; omega) (fun i hi => ⟨(seat_rises h12 hi).1, by have := (seat_rises h12 hi).2; omega⟩) (all_top dss)).mono ?_
    rintro e w4 ⟨v4, rfl, o4, k4⟩
    go_wp2
    go_ret
    exact ⟨by rw [HN.out]; rfl, ((k1.trans k2).trans k3).trans k4⟩
set_option maxHeartbeats 1000000 in
theorem implRowsAt_own (w : World) (v : Value) (dss : List (List Dd)) (n : Int) (h : RdW w v dss) (hx : dss.length ≤ 1048576) (hm : ∀ i, i < dss.length → (dss.getD i []).length ≤ 1048576) :
    Calls Try.prog 44 #[v, .int .i64 n] w fun e w' => ∃ v', e = .returned v' ∧ Own w' w.heap.size v' (ratB dss n) ∧ Keep w w' := by
  have h12 : (eventsB dss).length ≤ 12 := by have := eventsB_len9 dss; omega
  have HN : Hid (ratB dss n = wrB (allS (seatsL (eventsB dss)) []) n) := Lib.hid (wr_same dss n).symm
  go_enter Try.func44, Try.ntmps44
  go_wp2_with fail
  refine (implEventsOf_any _ _ _ h hx hm).mono ?_
  rintro e w2 ⟨v2, rfl, a2, k2⟩
  go_wp2_with fail
  refine (seatsOf_any _ _ _ a2.rd h12).mono ?_
  rintro e w3 ⟨v3, rfl, rc, k3⟩
  go_wp2_with fail
  refine (walkedRows_any _ _ _ n rc (by have := seats_36 h12; omega) (fun i hi => ⟨(seat_rises h12 hi).1, by have := (seat_rises h12 hi).2; omega⟩) (all_top dss)).mono ?_
  rintro e w4 ⟨v4, rfl, o4, k4⟩
  have hs := (k2.trans k3).size
  go_wp2
  go_ret
  exact ⟨_, rfl, by rw [HN.out]; exact o4.base_le hs, (k2.trans k3).trans k4⟩
theorem implRowsAt_cap (w : World) (v : Value) (dss : List (List Dd)) (n : Int) (h : RdW w v dss) (hx : dss.length ≤ 1048576) (hm : ∀ i, i < dss.length → (dss.getD i []).length ≤ 1048576) :
    Calls Try.prog 44 #[v, .int .i64 n] w fun e w' => ∃ v', e = .returned v' ∧ Row w' w.heap.size v' (ratB dss n) ∧ (ratB dss n).length ≤ capZ v' ∧ Keep w w' :=
  (implRowsAt_own w v dss n h hx hm).mono (fun _ _ ⟨v', he, ho, k⟩ => ⟨v', he, ho.row, ho.capz, k⟩)
theorem implRowsAt_any (w : World) (v : Value) (dss : List (List Dd)) (n : Int) (h : RdW w v dss) (hx : dss.length ≤ 1048576) (hm : ∀ i, i < dss.length → (dss.getD i []).length ≤ 1048576) :
    Calls Try.prog 44 #[v, .int .i64 n] w fun e w' => ∃ v', e = .returned v' ∧ Row w' w.heap.size v' (ratB dss n) ∧ Keep w w' :=
  (implRowsAt_own w v dss n h hx hm).mono (fun _ _ ⟨v', he, ho, k⟩ => ⟨v', he, ho.row, k⟩)
end Go.Proofs.Ytgolhjmbloiakaa

/- How great the numbers of sources, rows and tales are. -/
namespace Go.Proofs.Ytgolhjmbloiakaa

theorem evs_parts {dss : List (List Dd)} (hb : workB dss = true) : (idxB rdE (eventsB dss)).length ≤ 6 ∧ ∀ p, p < 3 → 0 < (plcW (eventsB dss) p).length ∧ (plcW (eventsB dss) p).length ≤ 7 := by
  obtain ⟨h12, hl, hsum, _, _⟩ := events_law hb
  have h9 : (evsW dss dss.length).length ≤ 9 := by
    simp only [workB, Bool.and_eq_true, decide_eq_true_eq] at hb
    obtain ⟨⟨⟨⟨_, _⟩, _⟩, h4⟩, _⟩ := hb
    omega
  have p0 := (plcW_first hb 0 (by decide)).1
  have p1 := (plcW_first hb 1 (by decide)).1
  have p2 := (plcW_first hb 2 (by decide)).1
  have e : ∀ f, idxB f (eventsB dss) = idxK f (evsW dss dss.length) (evsW dss dss.length).length := fun f => by
    unfold idxB
    rw [eventsB, if_pos hb, if_pos h12]
  unfold plcW at p0 p1 p2 ⊢
  rw [e] at p0 p1 p2 ⊢
  refine ⟨?_, fun p hp => ?_⟩
  · have q0 : (idxK (toE ((0 : Nat) : Int)) (evsW dss dss.length) (evsW dss dss.length).length).length = (idxK (toE 0) (evsW dss dss.length) (evsW dss dss.length).length).length := rfl
    have q1 : (idxK (toE ((1 : Nat) : Int)) (evsW dss dss.length) (evsW dss dss.length).length).length = (idxK (toE 1) (evsW dss dss.length) (evsW dss dss.length).length).length := rfl
    have q2 : (idxK (toE ((2 : Nat) : Int)) (evsW dss dss.length) (evsW dss dss.length).length).length = (idxK (toE 2) (evsW dss dss.length) (evsW dss dss.length).length).length := rfl
    omega
  · have q0 : (idxK (toE ((0 : Nat) : Int)) (evsW dss dss.length) (evsW dss dss.length).length).length = (idxK (toE 0) (evsW dss dss.length) (evsW dss dss.length).length).length := rfl
    have q1 : (idxK (toE ((1 : Nat) : Int)) (evsW dss dss.length) (evsW dss dss.length).length).length = (idxK (toE 1) (evsW dss dss.length) (evsW dss dss.length).length).length := rfl
    have q2 : (idxK (toE ((2 : Nat) : Int)) (evsW dss dss.length) (evsW dss dss.length).length).length = (idxK (toE 2) (evsW dss dss.length) (evsW dss dss.length).length).length := rfl
    rw [e]
    have : p = 0 ∨ p = 1 ∨ p = 2 := by omega
    rcases this with rfl | rfl | rfl
    · exact ⟨p0, by omega⟩
    · exact ⟨p1, by omega⟩
    · exact ⟨p2, by omega⟩
theorem cnt_nine {c : List (List Int)} (hb : ∀ i, i < c.length → (c.getD i []).length ≤ 9) : ∀ k : Nat, k ≤ c.length → 0 ≤ cntK c k ∧ cntK c k ≤ 9 ^ k
  | 0, _ => by simp [cntK]
  | k + 1, h => by
    obtain ⟨h1, h2⟩ := cnt_nine hb k (by omega)
    have h3 := hb k (by omega)
    rw [cntK]
    refine ⟨Int.mul_nonneg h1 (Int.natCast_nonneg _), ?_⟩
    rw [Int.pow_succ]
    exact Int.mul_le_mul h2 (by omega) (Int.natCast_nonneg _) (Int.le_trans h1 h2)
theorem cnt_six {dss : List (List Dd)} (hb : workB dss = true) : 0 ≤ cntB dss ∧ cntB dss ≤ 531441 := by
  obtain ⟨h6, _⟩ := evs_parts hb
  have hl : (chcL (eventsB dss)).length = (idxB rdE (eventsB dss)).length := chcK_len _ _ _
  have h9 : (eventsB dss).length ≤ 9 := by
    rw [eventsB, if_pos hb]
    have := (events_law hb).2.1
    simp only [workB, Bool.and_eq_true, decide_eq_true_eq] at hb
    obtain ⟨⟨⟨⟨_, _⟩, _⟩, h4⟩, _⟩ := hb
    omega
  have each : ∀ i, i < (chcL (eventsB dss)).length → ((chcL (eventsB dss)).getD i []).length ≤ 9 := fun i hi => by
    unfold chcL
    rw [chcK_get _ _ _ _ (by rw [hl] at hi; exact hi)]
    unfold idxB
    rw [if_pos (by omega)]
    have := idxK_len (toE (plE (eventsB dss) ((if (eventsB dss).length ≤ 12 then idxK rdE (eventsB dss) (eventsB dss).length else []).getD i 0))) (eventsB dss) (eventsB dss).length
    omega
  have h1 := cnt_nine each _ (Nat.le_refl _)
  have h2 : ∀ j : Nat, j ≤ 6 → (9 : Int) ^ j ≤ 531441 := by decide +kernel
  rw [cntB, if_pos hb]
  exact ⟨h1.1, Int.le_trans h1.2 (h2 _ (by omega))⟩
theorem rcnt_six {dss : List (List Dd)} (hb : workB dss = true) : 0 < rcntB dss ∧ rcntB dss ≤ 373248000 := by
  obtain ⟨_, hp⟩ := evs_parts hb
  have top : ∀ j : Nat, j ≤ 6 → fac j ≤ 720 := by decide +kernel
  have f0 := fac_pos ((plcW (eventsB dss) 0).length - 1)
  have f1 := fac_pos ((plcW (eventsB dss) 1).length - 1)
  have f2 := fac_pos ((plcW (eventsB dss) 2).length - 1)
  have t0 := top _ (show (plcW (eventsB dss) 0).length - 1 ≤ 6 by have := (hp 0 (by decide)).2; omega)
  have t1 := top _ (show (plcW (eventsB dss) 1).length - 1 ≤ 6 by have := (hp 1 (by decide)).2; omega)
  have t2 := top _ (show (plcW (eventsB dss) 2).length - 1 ≤ 6 by have := (hp 2 (by decide)).2; omega)
  rw [rcntB, if_pos hb]
  unfold rcntL
  refine ⟨Int.mul_pos (Int.mul_pos f0 f1) f2, ?_⟩
  have m1 : fac ((plcW (eventsB dss) 0).length - 1) * fac ((plcW (eventsB dss) 1).length - 1) ≤ 720 * 720 := Int.mul_le_mul t0 t1 (by omega) (by decide)
  have m2 : fac ((plcW (eventsB dss) 0).length - 1) * fac ((plcW (eventsB dss) 1).length - 1) * fac ((plcW (eventsB dss) 2).length - 1) ≤ 720 * 720 * 720 := Int.mul_le_mul m1 t2 (by omega) (by decide)
  omega
theorem tcB_in (dss : List (List Dd)) : -1 ≤ tcB dss ∧ tcB dss ≤ 198359290368000 := by
  unfold tcB
  split
  · rename_i hb
    obtain ⟨a0, a1⟩ := cnt_six hb
    obtain ⟨b0, b1⟩ := rcnt_six hb
    have m : cntB dss * rcntB dss ≤ 531441 * 373248000 := Int.mul_le_mul a1 b1 (by omega) (by decide)
    exact ⟨by have := Int.mul_nonneg a0 (Int.le_of_lt b0); omega, by omega⟩
  · decide
end Go.Proofs.Ytgolhjmbloiakaa

/- Contract of the program's TalesCount. -/
namespace Go.Proofs.Ytgolhjmbloiakaa
open Go.ChangeShapes Go.WideShapes Go.ChangeAt Go.RowKit

theorem implTalesCount_any (w : World) (v : Value) (dss : List (List Dd)) (h : RdW w v dss) (hx : dss.length ≤ 1048576) (hm : ∀ i, i < dss.length → (dss.getD i []).length ≤ 1048576) :
    Calls Try.prog 11 #[v] w fun e w' => e = .returned (.int .i64 (tcB dss)) ∧ Keep w w' := by
  have C := implWorkOk_any w v dss h hx hm
  cases hb : workB dss
  · have HE : Hid (tcB dss = -1) := Lib.hid (by rw [tcB, hb]; rfl)
    rw [hb] at C
    go_enter Try.func11, Try.ntmps11
    go_wp2_with fail
    refine C.mono ?_
    rintro e w1 ⟨rfl, k1⟩
    go_wp2
    go_ret
    exact ⟨by rw [HE.out]; rfl, k1⟩
  · have HE : Hid (tcB dss = cntB dss * rcntB dss) := Lib.hid (by rw [tcB, if_pos hb])
    have c1 := cnt_six hb
    have c2 := rcnt_six hb
    have c3 := tcB_in dss
    rw [HE.out] at c3
    have HW : Hid (IntKind.i64.wrap (cntB dss * rcntB dss) = cntB dss * rcntB dss) := Lib.hid (by rw [IntKind.wrap_i64]; omega)
    rw [hb] at C
    have CS := fun (W : World) (kW : Keep w W) => implSourcesCount_any W v dss (h.keep kW) hx hm
    have CR := fun (W : World) (kW : Keep w W) => implRowsCount_any W v dss (h.keep kW) hx hm
    generalize cntB dss = m1 at *
    generalize rcntB dss = m2 at *
    have hw := HW.out
    clear c3
    go_enter Try.func11, Try.ntmps11
    go_wp2_with fail
    refine C.mono ?_
    rintro e w1 ⟨rfl, k1⟩
    go_wp2_with fail
    refine (CS _ k1).mono ?_
    rintro e w2 ⟨rfl, k2⟩
    go_wp2_with fail
    refine (CR _ (k1.trans k2)).mono ?_
    rintro e w3 ⟨rfl, k3⟩
    go_wp2
    go_ret
    exact ⟨by rw [HE.out]; rfl, (k1.trans k2).trans k3⟩
end Go.Proofs.Ytgolhjmbloiakaa

/- Contract of the program's SourceAt. -/
namespace Go.Proofs.Ytgolhjmbloiakaa
open Go.ChangeShapes Go.WideShapes Go.ChangeAt Go.RowKit Go.Shelf

/-- A result that lies in a box of one cell. -/
theorem results_box {P : Program} {fn : Func} {p : Tmp} {ty e : TypeId} (h : fn.results = #[.cell p ty]) (hu : P.underlying ty = some (.slice e)) (tmps : Array Value) (w : World) (g : Nat) (v : Value) (hp : tmps.getD p undef = .pointer (some ⟨g, 0, none⟩)) (hc : w.cell? ⟨g, 0, none⟩ = some v) :
    (results fn tmps).run P w = .ok v w := by
  have hp' : tmps[p]?.getD undef = .pointer (some ⟨g, 0, none⟩) := by simpa using hp
  have hagg : (isAgg ty).run P w = .ok false w := by
    unfold isAgg
    rw [Sem.run_bind, run_underlying hu w]
    rfl
  simp only [results, h]
  simp [Sem.run_bind, Result.andThen, asAddr, hp', loadVar, load, hagg]
  simp [Sem.run, hc]
/-- Which source comes k-th, and which numbers none has. -/
theorem at_hit {dss : List (List Dd)} {n : Int} {k : Nat} (hk : k < srcN (chcL (eventsB dss)) (chcL (eventsB dss)).length) (e : (k : Int) = n) : atB dss n = atP (chcL (eventsB dss)) (chcL (eventsB dss)).length k := by
  rw [atP_all]
  cases hb : workB dss
  · have e0 : eventsB dss = [] := by rw [eventsB, hb]; rfl
    have e1 : chcL (eventsB dss) = [] := by rw [e0]; rfl
    have e2 : cntB dss = -1 := by rw [cntB, hb]; rfl
    rw [e1]
    unfold atB
    rw [if_neg (by omega)]
    rfl
  · have e2 : cntB dss = (srcN (chcL (eventsB dss)) (chcL (eventsB dss)).length : Nat) := by rw [srcN_int, cntB, if_pos hb]
    unfold atB
    rw [if_pos (by omega), e]
theorem at_none {dss : List (List Dd)} {n : Int} (h : ∀ k : Nat, k < srcN (chcL (eventsB dss)) (chcL (eventsB dss)).length → (k : Int) ≠ n) : atB dss n = [] := by
  unfold atB
  rw [if_neg]
  rintro ⟨h1, h2⟩
  cases hb : workB dss
  · have e2 : cntB dss = -1 := by rw [cntB, hb]; rfl
    omega
  · have e2 : cntB dss = (srcN (chcL (eventsB dss)) (chcL (eventsB dss)).length : Nat) := by rw [srcN_int, cntB, if_pos hb]
    obtain ⟨k, hk⟩ := Int.eq_ofNat_of_zero_le h1
    exact h k (by omega) hk.symm
set_option maxRecDepth 100000 in
set_option maxHeartbeats 2000000 in
theorem implSourceAt_own (w : World) (v : Value) (dss : List (List Dd)) (n : Int) (h : RdW w v dss) (hx : dss.length ≤ 1048576) (hm : ∀ i, i < dss.length → (dss.getD i []).length ≤ 1048576) :
    Calls Try.prog 43 #[v, .int .i64 n] w fun e w' => ∃ v', e = .returned v' ∧ Own w' w.heap.size v' (atB dss n) ∧ Keep w w' := by
  have h12 : (eventsB dss).length ≤ 12 := by have := eventsB_len9 dss; omega
  obtain ⟨cl1, cl2⟩ := chc_len h12
  have cl3 := chc_twelve h12
  have ct := (cnt_top cl1 cl2 _ (Nat.le_refl _)).2
  rw [← srcN_int] at ct
  have HH := fun (k : Nat) hk e => Lib.hid (at_hit (dss := dss) (n := n) (k := k) hk e)
  have HN := fun h => Lib.hid (at_none (dss := dss) (n := n) h)
  have hdw : Fence.wide.depth = none := rfl
  have hsem := @Oper.semAt_some
  have bA := ((Boxed.new w 2 (.int .i64 n)).alloc (.cells #[.slice none 0 0] 27)).alloc (.cells #[.int .i64 0] 2)
  have bB := (Boxed.new (w.alloc (.cells #[.int .i64 n] 2)) 27 (.slice none 0 0)).alloc (.cells #[.int .i64 0] 2)
  have bC := Boxed.new ((w.alloc (.cells #[.int .i64 n] 2)).alloc (.cells #[.slice none 0 0] 27)) 2 (.int .i64 0)
  have k1 : Keep w (((w.alloc (.cells #[.int .i64 n] 2)).alloc (.cells #[.slice none 0 0] 27)).alloc (.cells #[.int .i64 0] 2)) := (((Keep.refl w).alloc _).alloc _).alloc _
  have hz1 : (((w.alloc (.cells #[.int .i64 n] 2)).alloc (.cells #[.slice none 0 0] 27)).alloc (.cells #[.int .i64 0] 2)).heap.size = w.heap.size + 3 := by simp only [heap_size]
  simp only [heap_size] at bB bC
  refine (callsIn_wide (n := 0)).1 (callsIn_of_wp_marks Try.func43 rfl trivial ?_ rfl)
  simp only [Try.ntmps43, List.size_toArray, List.length_cons, List.length_nil, Nat.reduceAdd, Nat.reduceSub, Array.replicate_succ, Array.replicate_zero, List.push_toArray, List.append_toArray, List.nil_append, List.cons_append]
  gi_wp2_with fail
  generalize ((w.alloc (.cells #[.int .i64 n] 2)).alloc (.cells #[.slice none 0 0] 27)).alloc (.cells #[.int .i64 0] 2) = w1 at *
  refine ⟨trivial, (callsIn_wide.2 (implEventsOf_any _ _ _ (h.keep k1) hx hm)).mono ?_⟩
  rintro e w2 ⟨v2, rfl, a2, k2⟩
  gi_wp2_with fail
  refine ⟨trivial, (callsIn_wide.2 (choicesOf_any _ _ _ a2.rd h12)).mono ?_⟩
  rintro e w3 ⟨v3, rfl, rp, k3⟩
  have cA := boxed_keep (boxed_keep bA k2) k3
  have cB := boxed_keep (boxed_keep bB k2) k3
  have cC := boxed_keep (boxed_keep bC k2) k3
  have K3 := (k1.trans k2).trans k3
  have s2 := k2.size
  have s3 := k3.size
  generalize chcL (eventsB dss) = css at *
  obtain ⟨ac, cc, hv3, -, -⟩ := rp.2
  subst hv3
  clear k1 k2 k3 bA bB bC a2 h hx hm h12
  gi_wp2_with fail
  refine ⟨trivial, (callsIn_wide.2 (sources_any _ _ _ _)).mono ?_⟩
  rintro e w4 ⟨rfl, rfl⟩
  have bc := (Boxed.new w3 68 (.slice ac css.length cc)).cell
  have dA := cA.alloc (.cells #[.slice ac css.length cc] 68)
  have dB := cB.alloc (.cells #[.slice ac css.length cc] 68)
  have dC := cC.alloc (.cells #[.slice ac css.length cc] 68)
  have K4 := K3.alloc (.cells #[.slice ac css.length cc] 68)
  have rp4 := rp.but (Nat.le_refl _) ((But.refl (fun _ => False) w3).alloc (.cells #[.slice ac css.length cc] 68)) (fun _ _ _ h => h)
  have hz4 := heap_size w3 (.cells #[.slice ac css.length cc] 68)
  generalize w3.alloc (.cells #[.slice ac css.length cc] 68) = w4 at *
  have hseq := sources_seq css w2.heap.size w3.heap.size cl3 css.length cl1 w4 w3.heap.size _ rp4 bc (by omega) (by omega)
  clear cA cB cC K3 bc rp rp4
  gi_wp2
  refine wp_rangeM (gf := 115) (lb := #[.pointer (some ⟨w3.heap.size, 0, none⟩)]) rfl (enters_of Try.func115 (by kernel_rfl) rfl) rfl hseq (But.refl _ _) ?pr (fun b => b = w.heap.size + 1 ∨ b = w.heap.size + 2) ?hC
    (fun k A => Boxed A w.heap.size 2 (.int .i64 n) ∧ Boxed A (w.heap.size + 1) 27 (.slice none 0 0) ∧ Boxed A (w.heap.size + 2) 2 (.int .i64 k) ∧ Keep w A ∧ ∀ j : Nat, j < k → (j : Int) ≠ n)
    (fun c k A => c = .ret ∧ (k : Int) = n ∧ ∃ v', Boxed A (w.heap.size + 1) 27 v' ∧ Own A (w4.heap.size + 2) v' (atP css css.length k) ∧ Keep w A) ?hI ?hIx (lieS_but css css.length) ⟨dA, dB, dC, K4, fun j hj => absurd hj (Nat.not_lt_zero _)⟩
    (fun v' => { tmps := #[v, .int .i64 n, undef, .pointer (some ⟨w.heap.size, 0, none⟩), .pointer (some ⟨w.heap.size + 1, 0, none⟩), .pointer (some ⟨w.heap.size + 2, 0, none⟩), v', v, v2, .slice ac css.length cc, .func (.func 115) #[] #[.pointer (some ⟨w3.heap.size, 0, none⟩)], v', undef, undef, undef, undef, undef, undef, undef], defers := [] }) ?assign ?body ?done ?stop
  case pr => rintro b' (⟨_, h⟩ | rfl) <;> omega
  case hC =>
    intro b' hb
    refine ⟨by omega, ?_⟩
    rintro (⟨h1, h2⟩ | h) <;> omega
  case hI =>
    rintro k A B ⟨h1, h2, h3, h4, h5⟩ hB
    have nl : ∀ b, b < w4.heap.size → ¬ NC w4.heap.size A b := fun b h1 h2 => by have := h2.1; omega
    exact ⟨boxed_but h1 hB (nl _ (by omega)), boxed_but h2 hB (nl _ (by omega)), boxed_but h3 hB (nl _ (by omega)), keep_but h4 hB (fun b hb => by have := hb.1; omega), h5⟩
  case hIx =>
    rintro c k A B ⟨h1, h2, v', h3, h4, h5⟩ hB
    exact ⟨h1, h2, v', boxed_but h3 hB (fun h => by have := h.1; omega), h4.turn hB, keep_but h5 hB (fun b hb => by have := hb.1; omega)⟩
  case assign =>
    intro m v' W K hK
    gi_wp2
    exact hK
  case body =>
    rintro m k v' W hk ⟨h1, h2, h3, h4, h5⟩ hv
    have hv' : Own W (w4.heap.size + 2) v' (atP css css.length k) := hv
    clear hv
    obtain ⟨av, cv, rfl, -⟩ := hv'.rd
    have c1 := h1.cell
    have c2 := h2.cell
    have f2 := h2.frozen
    have c3 := h3.cell
    have f3 := h3.frozen
    have i1 : (0 : Int) ≤ (k : Int) := Int.natCast_nonneg _
    have i2 : (k : Int) < 8916100448256 := by omega
    by_cases he : (k : Int) = n
    · have hbe : ((k : Int) == n) = true := by simp [he]
      have HK := Lib.hid he
      clear he
      gi_wp2
      have bu := (But.refl (fun b => b = w.heap.size + 1 ∨ b = w.heap.size + 2) W).setCell (.inl rfl) 0 (.slice av (atP css css.length k).length cv)
      exact ⟨bu, rfl, HK.out, _, h2.set _, hv'.but bu (fun b h1 _ h2 => by omega), keep_but h4 bu (fun b hb => by omega)⟩
    · have hbe : ((k : Int) == n) = false := by simp [he]
      have HK := Lib.hid he
      clear he
      gi_wp2
      have bu := (But.refl (fun b => b = w.heap.size + 1 ∨ b = w.heap.size + 2) W).setCell (.inr rfl) 0 (.int .i64 ((k : Int) + 1))
      refine ⟨bu, boxed_but h1 bu (by omega), boxed_but h2 ((But.refl (fun b => b = w.heap.size + 2) W).setCell rfl 0 _) (by omega), by have := h3.set (.int .i64 ((k : Int) + 1)); simpa using this, keep_but h4 bu (fun b hb => by omega), fun j hj => ?_⟩
      by_cases e : j = k
      · subst e; exact HK.out
      · exact h5 j (by omega)
  case done =>
    rintro W ⟨h1, h2, h3, h4, h5⟩ hD
    have HE := HN h5
    have c2 := (h2.alloc (.cells #[] 2)).cell
    have f2 := (h2.alloc (.cells #[] 2)).frozen
    have HZ := Lib.hid hz4
    clear hz4 HN HH
    gi_wp2
    have hz := HZ.out
    have hlt := (Array.getElem?_eq_some_iff.1 hD).1
    have hD' : ((W.alloc (.cells #[] 2)).setCell ⟨w.heap.size + 1, 0, none⟩ (.slice (some ⟨W.heap.size, 0, none⟩) 0 0)).heap[w4.heap.size]? = some (.deferred (some [])) :=
      (Below.heap_setCell _ _ _ _ (by simp; omega)).trans ((Below.heap_alloc _ _ _ hlt).trans hD)
    have bu := ((But.refl (fun b => b = w.heap.size + 1 ∨ b = w4.heap.size) (W.alloc (.cells #[] 2))).setCell (.inl rfl) 0 (.slice (some ⟨W.heap.size, 0, none⟩) 0 0)).put (.inr rfl) (.deferred none)
    refine ⟨by simp, .inl ⟨_, _, rfl, run_takeDeferred hD', ?_⟩⟩
    exact ⟨_, results_box rfl Try.underlying27 _ _ (w.heap.size + 1) _ rfl (boxed_but ((h2.alloc _).set _) ((But.refl (fun b => b = w4.heap.size) _).put rfl _) (by omega)).cell, _, rfl,
      by rw [HE.out]; exact ((own_emptyI W).but bu (fun b h1 _ h2 => by omega)).base_le h4.size, keep_but (h4.alloc _) bu (fun b hb => by omega)⟩
  case stop =>
    rintro c k W hk ⟨rfl, h2, v', h3, h4, h5⟩ hD
    have HE := HH k hk h2
    have HZ := Lib.hid hz4
    clear hz4 HN HH
    gi_wp2
    have hz := HZ.out
    have bu := (But.refl (fun b => b = w4.heap.size) W).put rfl (.deferred none)
    refine ⟨by simp, .inl ⟨_, _, rfl, run_takeDeferred hD, ?_⟩⟩
    exact ⟨_, results_box rfl Try.underlying27 _ _ (w.heap.size + 1) _ rfl (boxed_but h3 bu (by omega)).cell, _, rfl,
      by rw [HE.out]; exact (h4.but bu (fun b h1 _ h2 => by omega)).base_le (by omega), keep_but h5 bu (fun b hb => by omega)⟩
theorem implSourceAt_any (w : World) (v : Value) (dss : List (List Dd)) (n : Int) (h : RdW w v dss) (hx : dss.length ≤ 1048576) (hm : ∀ i, i < dss.length → (dss.getD i []).length ≤ 1048576) :
    Calls Try.prog 43 #[v, .int .i64 n] w fun e w' => ∃ v', e = .returned v' ∧ Row w' w.heap.size v' (atB dss n) ∧ Keep w w' :=
  (implSourceAt_own w v dss n h hx hm).mono (by
    rintro e w' ⟨v', h1, h2, h3⟩
    exact ⟨v', h1, h2.row, h3⟩)
end Go.Proofs.Ytgolhjmbloiakaa

/- Contract of the program's TaleAt. -/
namespace Go.Proofs.Ytgolhjmbloiakaa
open Go.ChangeShapes Go.WideShapes Go.ChangeAt Go.RowKit

theorem Own.shpI {w : World} {base : Nat} {v : Value} {zs : List Int} (h : Own w base v zs) : ∃ a cap, v = .slice a zs.length cap := by
  obtain ⟨a, c, e, _⟩ := h.rd
  exact ⟨a, c, e⟩
theorem own_nilI (w : World) (base : Nat) : Own w base nilV [] := World.ownsRow_nil _ _ _ _
set_option maxRecDepth 100000 in
set_option maxHeartbeats 2000000 in
theorem implTaleAt_own (w : World) (v : Value) (dss : List (List Dd)) (n : Int) (h : RdW w v dss) (hx : dss.length ≤ 1048576) (hm : ∀ i, i < dss.length → (dss.getD i []).length ≤ 1048576) :
    Calls Try.prog 10 #[v, .int .i64 n] w fun e w' => ∃ vF vR, e = .returned (.tuple #[.agg #[vF, vR], .bool (taB dss n)]) ∧ Own w' w.heap.size vF (tfB dss n) ∧ Own w' w.heap.size vR (trB dss n) ∧ (vF.ownBlock = none ∨ vF.ownBlock ≠ vR.ownBlock) ∧ Keep w w' := by
  have CT := fun (W : World) (kW : Keep w W) => implTalesCount_any W v dss (h.keep kW) hx hm
  have hcb := tcB_in dss
  have qs : IntKind.i64.wrap (tcB dss - 1) = tcB dss - 1 := by rw [IntKind.wrap_i64]; omega
  have HI : Hid (inB n 0 (tcB dss - 1) = taB dss n) := Lib.hid (by
    unfold inB taB
    rw [Bool.eq_iff_iff]
    simp only [decide_eq_true_eq]
    omega)
  have CI := fun (W : World) => isFrom_any 0 n (tcB dss - 1) W
  rw [HI.out] at CI
  cases ht : taB dss n
  · have HA := Lib.hid ht
    have HF : Hid (tfB dss n = []) := Lib.hid (by rw [tfB, ht]; rfl)
    have HR : Hid (trB dss n = []) := Lib.hid (by rw [trB, ht]; rfl)
    rw [ht] at CI
    clear ht HI
    generalize tcB dss = m at CT CI hcb qs
    go_enter Try.func10, Try.ntmps10
    go_wp2_with fail
    refine (CT _ ((Keep.refl w).alloc _)).mono ?_
    rintro e w1 ⟨rfl, k1⟩
    have hS : StT w w1 w.heap.size nilV nilV := (StT.start _ _).keep k1
    obtain ⟨r0, r1⟩ := hS.cells
    have g0 := hS.free 0
    have g1 := hS.free 1
    go_wp2_with fail
    refine (CI _).mono ?_
    rintro e w2 ⟨rfl, rfl⟩
    go_wp2
    have hZ := (hS.set0 nilV).set1 nilV
    refine bodyPost_ret (results_row_tmp (by rfl) _ _ w.heap.size _ _ (0, 0) _ (.bool false) rfl hZ.1 rfl Try.underlying29 rfl (by kernel_rfl)) rfl ?_
    exact ⟨nilV, nilV, rfl, by rw [HF.out]; exact own_nilI _ _, by rw [HR.out]; exact own_nilI _ _, .inl rfl, hZ.keep1⟩
  · have h01 : 0 ≤ n ∧ n < tcB dss := by have := ht; unfold taB at this; simpa using this
    have h0' := h01.1
    have h1' := h01.2
    obtain ⟨hb, hpos, -⟩ := tale_at ht
    have hrb := (rcnt_six hb).2
    have HA := Lib.hid ht
    have HF : Hid (tfB dss n = atB dss (n / rcntB dss)) := Lib.hid (by rw [tfB, ht]; rfl)
    have HR : Hid (trB dss n = ratB dss (n % rcntB dss)) := Lib.hid (by rw [trB, ht]; rfl)
    have CR := fun (W : World) (kW : Keep w W) => implRowsCount_any W v dss (h.keep kW) hx hm
    have CA := fun (W : World) (kW : Keep w W) (q : Int) => implSourceAt_own W v dss q (h.keep kW) hx hm
    have CB := fun (W : World) (kW : Keep w W) (q : Int) => implRowsAt_own W v dss q (h.keep kW) hx hm
    rw [ht] at CI
    clear ht HI h01
    generalize tcB dss = m at CT CI h1' hcb qs
    generalize rcntB dss = k at CR HF HR hpos hrb
    have q1 : n.tdiv k = n / k := by rw [Int.tdiv_eq_ediv]; simp [h0']
    have q2 : n.tmod k = n % k := by rw [Int.tmod_eq_emod]; simp [h0']
    have ne : k ≠ 0 := by omega
    have qb := Int.ediv_nonneg h0' (by omega : 0 ≤ k)
    have qc : n / k ≤ n := Int.ediv_le_self _ h0'
    have qd := Int.emod_nonneg n ne
    have qe := Int.emod_lt_of_pos n hpos
    have qw : IntKind.i64.wrap (n / k) = n / k := by rw [IntKind.wrap_i64]; omega
    have qx : IntKind.i64.wrap (n % k) = n % k := by rw [IntKind.wrap_i64]; omega
    clear hb
    go_enter Try.func10, Try.ntmps10
    go_wp2_with fail
    refine (CT _ ((Keep.refl w).alloc _)).mono ?_
    rintro e w1 ⟨rfl, k1⟩
    have K1 := ((Keep.refl w).alloc _).trans k1
    go_wp2_with fail
    refine (CI _).mono ?_
    rintro e w9 ⟨rfl, rfl⟩
    go_wp2_with fail
    refine (CR _ K1).mono ?_
    rintro e w2 ⟨rfl, k2⟩
    have hS : StT w w2 w.heap.size nilV nilV := (StT.start _ _).keep (k1.trans k2)
    have K2 := K1.trans k2
    clear k1 k2 K1 CT CR CI
    have z2 := hS.size
    go_wp2_with fail
    go_region_law ((first
      | (go_simp
         refine (CA _ K2.drew (n / k)).mono ?_
         rintro e w3 ⟨vF, rfl, oF, k3⟩)
      | (go_simp
         refine (CB _ (K2.drew.trans k3) (n % k)).mono ?_
         rintro e w4 ⟨vR, rfl, oR, k4⟩
         obtain ⟨aF, cF, hvF⟩ := oF.shpI
         subst hvF
         obtain ⟨aR, cR, hvR⟩ := oR.shpI
         subst hvR
         have hS4 : StT w w4 w.heap.size nilV nilV := hS.keep (((Keep.refl w2).drew.trans k3).trans k4)
         obtain ⟨r0, r1⟩ := hS4.cells
         have g0 := hS4.free 0
         have g1 := hS4.free 1)))
    all_goals
      go_wp2
      have hZ := (hS4.set0 (.slice aF (atB dss (n / k)).length cF)).set1 (.slice aR (ratB dss (n % k)).length cR)
      refine bodyPost_ret (results_row_tmp (by rfl) _ _ w.heap.size _ _ (0, 0) _ (.bool true) rfl hZ.1 rfl Try.underlying29 rfl (by kernel_rfl)) rfl ?_
      have s3 := k3.size
      have oF4 := oF.keep k4
      have gg : ∀ x y : Value, w4.grownBy ((w4.setCell ⟨w.heap.size, 0, none⟩ x).setCell ⟨w.heap.size, 1, none⟩ y) (some w.heap.size) := fun x y => grown_trans (grown_setT _ _ _ _) (grown_setT _ _ _ _)
      exact ⟨_, _, rfl, by rw [HF.out]; exact (oF4.other z2 (gg _ _)).base_le (Nat.le_of_lt z2), by rw [HR.out]; exact (oR.other (Nat.lt_of_lt_of_le z2 s3) (gg _ _)).base_le (by have := Nat.lt_of_lt_of_le z2 s3; omega), oF.apart oR, hZ.keep1⟩
theorem implTaleAt_any (w : World) (v : Value) (dss : List (List Dd)) (n : Int) (h : RdW w v dss) (hx : dss.length ≤ 1048576) (hm : ∀ i, i < dss.length → (dss.getD i []).length ≤ 1048576) :
    Calls Try.prog 10 #[v, .int .i64 n] w fun e w' => ∃ vF vR, e = .returned (.tuple #[.agg #[vF, vR], .bool (taB dss n)]) ∧ Row w' w.heap.size vF (tfB dss n) ∧ Row w' w.heap.size vR (trB dss n) ∧ (trB dss n).length ≤ capZ vR ∧ (vF.ownBlock = none ∨ vF.ownBlock ≠ vR.ownBlock) ∧ Keep w w' :=
  (implTaleAt_own w v dss n h hx hm).mono (fun _ _ ⟨vF, vR, he, oF, oR, ap, k⟩ => ⟨vF, vR, he, oF.row, oR.row, oR.capz, ap, k⟩)
end Go.Proofs.Ytgolhjmbloiakaa

/- The cell of a new block of one. -/
namespace Go.Proofs.Ytgolhjmbloiakaa
open Go.ChangeShapes Go.WideShapes Go.ChangeAt Go.RowKit

theorem new_one (w : World) (u : Value) (n : Nat) (hn : w.heap.size = n) : ∀ j y, ([u] : List Value)[j]? = some y → (w.alloc (.cells #[u] 27)).cell? ((⟨n, 0, none⟩ : Addr).add j) = some y := by
  subst hn
  intro j y hj
  match j, hj with
  | 0, hj => simp at hj; subst hj; simp [Addr.add]
end Go.Proofs.Ytgolhjmbloiakaa

/- Contract of the specification's ReadsOf: a new list of numbers. (Written by mkidx.py.) -/
namespace Go.Proofs.Ytgolhjmbloiakaa
open Go.ChangeShapes Go.WideShapes Go.ChangeAt Go.RowKit

set_option maxHeartbeats 1000000 in
theorem specReadsOf_any (w : World) (v : Value) (es : List Ev) (h : RdE w v es) (hx : es.length ≤ 1048576) :
    Calls Try.prog 96 #[v] w fun e w' => ∃ v', e = .returned v' ∧ Own w' w.heap.size v' (idxB rdE es) ∧ Keep w w' := by
  have hown0 : Own (w.alloc (.cells #[] 2)) w.heap.size (.slice (some ⟨w.heap.size, 0, none⟩) 0 0) [] := World.ownsRow_lit w #[] 0 (Nat.le_refl _) (by decide) rfl
  obtain ⟨a, cap, rfl, h⟩ := h
  by_cases hl : 12 < es.length
  · have HE : Hid (idxB rdE es = []) := Lib.hid (by unfold idxB; rw [if_neg (by omega)])
    have l1 : (12 : Int) < (es.length : Int) := by omega
    go_enter Try.func96, Try.ntmps96
    go_wp2
    refine wp_loop_rounds 1 ?_
    rw [rounds_succ]
    go_wp2
    go_ret
    exact ⟨_, rfl, by rw [HE.out]; exact hown0, (Keep.refl _).alloc _⟩
  have l1 : es.length ≤ 12 := by omega
  clear hl
  have HE : Hid (idxB rdE es = idxK rdE es es.length) := Lib.hid (by unfold idxB; rw [if_pos l1])
  obtain ⟨i0, hi, hz0, hz1, hz2⟩ := info_parts Try.infoI
  go_enter Try.func96, Try.ntmps96
  go_wp2
  go_loopw [3, 4] (fun v i wr => ∃ k : Nat, k ≤ es.length ∧ i = .int .i64 k ∧ Own wr w.heap.size v (idxK rdE es k) ∧ Keep w wr) (fun _ i _ => es.length - (intOf i).toNat)
  case atStart => exact ⟨0, Nat.zero_le _, rfl, hown0, (Keep.refl _).alloc _⟩
  case round =>
    obtain ⟨k, hk, rfl, ho, hK⟩ := hrel
    clear hown0
    by_cases hlt : k < es.length
    · rcases h with h | ⟨b, off, rfl, hb, hc⟩
      · exfalso; rw [h] at hlt; simp at hlt
      have AT := (hc k _ (evs_get hlt)).keep hb hK
      have hbw : b < wr.heap.size := Nat.lt_of_lt_of_le hb hK.size
      clear hc
      have hml : (idxK rdE es k).length ≤ k := idxK_len rdE es k
      have hsz := hK.size
      have i1 : (0 : Int) ≤ (k : Int) := Int.natCast_nonneg _
      have i2 : (k : Int) < (es.length : Int) := by omega
      have l2 : (es.length : Int) ≤ 12 := by omega
      have HP : Hid (idxK rdE es (k + 1) = if rdE (es.getD k zE) = true then idxK rdE es k ++ [(k : Int)] else idxK rdE es k) := Lib.hid rfl
      obtain ⟨e, he⟩ : ∃ e, e = es.getD k zE := ⟨_, rfl⟩
      rw [← he] at AT HP
      clear he
      obtain ⟨x0, x1, x2, x3, x4, x5⟩ := e
      obtain ⟨-, -, A2, -, -, -⟩ := atE AT
      clear AT
      cases x2
      · have HM : Hid (idxK rdE es (k + 1) = idxK rdE es k) := Lib.hid (by rw [HP.out]; rfl)
        clear HP
        go_wp2
        go_roundw
        case rel => exact ⟨k + 1, by omega, by go_num, by rw [HM.out]; exact ho, hK⟩
        case measure => simp [intOf]; omega
      · have HM : Hid (idxK rdE es (k + 1) = idxK rdE es k ++ [(k : Int)]) := Lib.hid (by rw [HP.out]; rfl)
        clear HP
        go_wp2_with (at_builtin; refine wpList_append_own _ rfl _ _ 27 rfl w.heap.size 2 i0 (.int .i64 0) 1 8 Try.underlying27 hi hz0 hz1 hz2 rfl (by decide) _ _ _ rfl (World.ownsRow.alloc ho _) ⟨_, 0, none⟩ 1 1 [.int .i64 k] rfl rfl ?c1 ?c2 ?c3 ?c4 ?c5 ?_)
        case c1 =>
          intro j u hj
          match j, hj with
          | 0, hj => simp at hj; subst hj; simp [Addr.add]
        case c2 => intro u hu; simp at hu; subst hu; rfl
        case c3 => unfold maxLen; omega
        case c4 => omega
        case c5 => simp; omega
        intro v' w1 hown' hgrow _
        have hK1 : Keep w w1 := (hK.alloc _).grown hgrow ho.ge
        clear hgrow
        go_wp2
        go_roundw
        case rel => exact ⟨k + 1, by omega, by go_num, by rw [HM.out]; exact own_hit hown', hK1⟩
        case measure => simp [intOf]; omega
    · obtain rfl : k = es.length := by omega
      go_wp2
      go_ret
      exact ⟨_, rfl, by rw [HE.out]; exact ho, hK⟩
end Go.Proofs.Ytgolhjmbloiakaa

/- Contract of the specification's WritesTo: a new list of numbers. (Written by mkidx.py.) -/
namespace Go.Proofs.Ytgolhjmbloiakaa
open Go.ChangeShapes Go.WideShapes Go.ChangeAt Go.RowKit

set_option maxRecDepth 100000 in
set_option maxHeartbeats 1000000 in
theorem specWritesTo_any (w : World) (v : Value) (es : List Ev) (p : Int) (h : RdE w v es) (hx : es.length ≤ 1048576) :
    Calls Try.prog 97 #[v, .int .i64 p] w fun e w' => ∃ v', e = .returned v' ∧ Own w' w.heap.size v' (idxB (toE p) es) ∧ Keep w w' := by
  have hown0 : Own (w.alloc (.cells #[] 2)) w.heap.size (.slice (some ⟨w.heap.size, 0, none⟩) 0 0) [] := World.ownsRow_lit w #[] 0 (Nat.le_refl _) (by decide) rfl
  obtain ⟨a, cap, rfl, h⟩ := h
  by_cases hl : 12 < es.length
  · have HE : Hid (idxB (toE p) es = []) := Lib.hid (by unfold idxB; rw [if_neg (by omega)])
    have l1 : (12 : Int) < (es.length : Int) := by omega
    go_enter Try.func97, Try.ntmps97
    go_wp2
    refine wp_loop_rounds 1 ?_
    rw [rounds_succ]
    go_wp2
    go_ret
    exact ⟨_, rfl, by rw [HE.out]; exact hown0, (Keep.refl _).alloc _⟩
  have l1 : es.length ≤ 12 := by omega
  clear hl
  have HE : Hid (idxB (toE p) es = idxK (toE p) es es.length) := Lib.hid (by unfold idxB; rw [if_pos l1])
  obtain ⟨i0, hi, hz0, hz1, hz2⟩ := info_parts Try.infoI
  go_enter Try.func97, Try.ntmps97
  go_wp2
  go_loopw [5, 6] (fun v i wr => ∃ k : Nat, k ≤ es.length ∧ i = .int .i64 k ∧ Own wr w.heap.size v (idxK (toE p) es k) ∧ Keep w wr) (fun _ i _ => es.length - (intOf i).toNat)
  case atStart => exact ⟨0, Nat.zero_le _, rfl, hown0, (Keep.refl _).alloc _⟩
  case round =>
    obtain ⟨k, hk, rfl, ho, hK⟩ := hrel
    clear hown0
    by_cases hlt : k < es.length
    · rcases h with h | ⟨b, off, rfl, hb, hc⟩
      · exfalso; rw [h] at hlt; simp at hlt
      have AT := (hc k _ (evs_get hlt)).keep hb hK
      have hbw : b < wr.heap.size := Nat.lt_of_lt_of_le hb hK.size
      clear hc
      have hml : (idxK (toE p) es k).length ≤ k := idxK_len (toE p) es k
      have hsz := hK.size
      have i1 : (0 : Int) ≤ (k : Int) := Int.natCast_nonneg _
      have i2 : (k : Int) < (es.length : Int) := by omega
      have l2 : (es.length : Int) ≤ 12 := by omega
      have HP : Hid (idxK (toE p) es (k + 1) = if toE p (es.getD k zE) = true then idxK (toE p) es k ++ [(k : Int)] else idxK (toE p) es k) := Lib.hid rfl
      obtain ⟨e, he⟩ : ∃ e, e = es.getD k zE := ⟨_, rfl⟩
      rw [← he] at AT HP
      clear he
      obtain ⟨x0, x1, x2, x3, x4, x5⟩ := e
      obtain ⟨-, -, A2, A3, -, -⟩ := atE AT
      clear AT
      cases x2
      · by_cases hp : x3 = p
        · subst hp
          have HM : Hid (idxK (toE x3) es (k + 1) = idxK (toE x3) es k ++ [(k : Int)]) := Lib.hid (by rw [HP.out]; simp [toE])
          clear HP
          go_wp2_with (at_builtin; refine wpList_append_own _ rfl _ _ 27 rfl w.heap.size 2 i0 (.int .i64 0) 1 8 Try.underlying27 hi hz0 hz1 hz2 rfl (by decide) _ _ _ rfl (World.ownsRow.alloc ho _) ⟨_, 0, none⟩ 1 1 [.int .i64 k] rfl rfl ?c1 ?c2 ?c3 ?c4 ?c5 ?_)
          case c1 =>
            intro j u hj
            match j, hj with
            | 0, hj => simp at hj; subst hj; simp [Addr.add]
          case c2 => intro u hu; simp at hu; subst hu; rfl
          case c3 => unfold maxLen; omega
          case c4 => omega
          case c5 => simp; omega
          intro v' w1 hown' hgrow _
          have hK1 : Keep w w1 := (hK.alloc _).grown hgrow ho.ge
          clear hgrow
          go_wp2
          go_roundw
          case rel => exact ⟨k + 1, by omega, by go_num, by rw [HM.out]; exact own_hit hown', hK1⟩
          case measure => simp [intOf]; omega
        · have HM : Hid (idxK (toE p) es (k + 1) = idxK (toE p) es k) := Lib.hid (by rw [HP.out]; simp [toE, hp])
          clear HP
          go_wp2
          go_roundw
          case rel => exact ⟨k + 1, by omega, by go_num, by rw [HM.out]; exact ho, hK⟩
          case measure => simp [intOf]; omega
      · have HM : Hid (idxK (toE p) es (k + 1) = idxK (toE p) es k) := Lib.hid (by rw [HP.out]; simp [toE])
        clear HP
        go_wp2
        go_roundw
        case rel => exact ⟨k + 1, by omega, by go_num, by rw [HM.out]; exact ho, hK⟩
        case measure => simp [intOf]; omega
    · obtain rfl : k = es.length := by omega
      go_wp2
      go_ret
      exact ⟨_, rfl, by rw [HE.out]; exact ho, hK⟩
end Go.Proofs.Ytgolhjmbloiakaa

/- Contracts of the specification's l8Is and l8Choices. -/
namespace Go.Proofs.Ytgolhjmbloiakaa
open Go.ChangeShapes Go.WideShapes Go.ChangeAt Go.RowKit

set_option maxRecDepth 100000 in
set_option maxHeartbeats 2000000 in
theorem l8Choices_any (w : World) (v : Value) (es : List Ev) (h : RdE w v es) (hx : es.length ≤ 12) :
    Calls Try.prog 57 #[v] w fun e w' => ∃ v', e = .returned v' ∧ RdL w' v' (chcL es) ∧ Keep w w' := by
  obtain ⟨i0, hi, hz0, hz1, hz2⟩ := info_parts Try.infoL
  have A0 := appL_empty w
  have rl : (idxB rdE es).length ≤ 12 := by
    unfold idxB
    rw [if_pos hx]
    have := idxK_len rdE es es.length
    omega
  have rin : ∀ i, i < (idxB rdE es).length → 0 ≤ (idxB rdE es).getD i 0 ∧ (idxB rdE es).getD i 0 < (es.length : Int) := by
    intro i hi
    have hm : (idxB rdE es).getD i 0 ∈ idxB rdE es := by
      rw [List.getD_eq_getElem?_getD, List.getElem?_eq_getElem hi]
      exact List.getElem_mem hi
    refine idxK_lt rdE es _ _ ?_
    unfold idxB at hm ⊢
    rw [if_pos hx] at hm ⊢
    exact hm
  have HL : Hid (chcL es = chcK es (idxB rdE es) (idxB rdE es).length) := Lib.hid rfl
  go_enter Try.func57, Try.ntmps57
  go_wp2_with fail
  refine (specReadsOf_any _ _ _ (h.keep ((Keep.refl w).alloc _)) (by omega)).mono ?_
  rintro e w1 ⟨vr, rfl, or1, k1⟩
  generalize idxB rdE es = rs at rl rin HL or1
  have A1 := A0.keep k1
  have K1 : Keep w w1 := ((Keep.refl w).alloc _).trans k1
  have R1 : Beside w1 (.slice (some ⟨w.heap.size, 0, none⟩) 0 0) vr rs := or1.beside (fun k hk => by rw [heap_size]; simp [Value.ownBlock] at hk; omega)
  have RIN := Lib.hid rin
  obtain ⟨ar, cr, rfl, -⟩ := R1.rd
  clear A0 k1 or1 rin
  go_wp2
  go_loopw [3, 5] (fun x i wr => ∃ k : Nat, ∃ vs : List Value, k ≤ rs.length ∧ i = .int .i64 k ∧ AppL wr w.heap.size x vs (chcK es rs k) ∧ Beside wr x (.slice ar rs.length cr) rs ∧ Keep w wr) (fun _ i _ => rs.length - (intOf i).toNat)
  case atStart => exact ⟨0, [], Nat.zero_le _, rfl, A1, R1, K1⟩
  case round =>
    obtain ⟨k, vs, hk, rfl, hA, hB, hK⟩ := hrel
    clear A1 R1 K1
    by_cases hlt : k < rs.length
    · have hr := RIN.out k hlt
      obtain ⟨r, hr'⟩ := Int.eq_ofNat_of_zero_le hr.1
      have hre : r < es.length := by omega
      have hRd := hB.rd
      obtain ⟨a', c', he', hRd⟩ := hRd
      simp only [Value.slice.injEq, true_and] at he'
      obtain ⟨rfl, rfl⟩ := he'
      rcases hRd with h0 | ⟨br, or', rfl, hbr, hcr⟩
      · exfalso; rw [h0] at hlt; simp at hlt
      have d1 := hcr k hlt
      rw [hr'] at d1
      have HC : Hid (chcK es rs (k + 1) = chcK es rs k ++ [idxB (toE (plE es (r : Int))) es]) := Lib.hid (by rw [chcK, hr'])
      have HP : Hid (plE es (r : Int) = (es.getD r zE).2.2.2.1) := Lib.hid (by unfold plE; rw [Int.toNat_natCast])
      clear hr hr' hcr
      have hE := h.keep hK
      obtain ⟨ae, ce, rfl, h2⟩ := id hE
      rcases h2 with h0 | ⟨be, oe, rfl, hbe, hce⟩
      · exfalso; rw [h0] at hre; simp at hre
      have AT := hce r _ (evs_get hre)
      clear hce
      generalize es.getD r zE = e at AT HP
      obtain ⟨x0, x1, x2, x3, x4, x5⟩ := e
      obtain ⟨-, -, -, q3, -, -⟩ := atE AT
      clear AT
      simp only at HP
      rw [HP.out] at HC
      clear HP
      have i1 : (0 : Int) ≤ (k : Int) := Int.natCast_nonneg _
      have i2 : (k : Int) < (rs.length : Int) := by omega
      have j1 : (0 : Int) ≤ (r : Int) := Int.natCast_nonneg _
      have j2 : (r : Int) < (es.length : Int) := by omega
      have hcl := chcK_len es rs k
      go_wp2_with fail
      refine (specWritesTo_any _ _ _ _ hE (by omega)).mono ?_
      rintro e w2 ⟨v2, rfl, o2, k2⟩
      obtain ⟨D, hD⟩ : ∃ D, D = chcK es rs k := ⟨_, rfl⟩
      rw [← hD] at hA HC hcl
      clear hD
      generalize idxB (toE x3) es = zs at o2 HC
      have hA2 := (hA.keep k2).keep ((Keep.refl w2).alloc (.cells #[v2] 27))
      have hB2 := (hB.keep k2).keep ((Keep.refl w2).alloc (.cells #[v2] 27))
      have hU : Beside (w2.alloc (.cells #[v2] 27)) _ v2 zs := (o2.beside (x := u3) (fun k hk => (hA.lt k hk).2)).keep ((Keep.refl w2).alloc _)
      have hK2 := hK.trans k2
      have hsz := hK2.size
      obtain ⟨a2, c2, hv2, -⟩ := o2.rd
      clear hA hB o2
      generalize zs.length = nz at hv2
      subst hv2
      go_wp2_with (at_builtin; refine wpList_append_own_at _ rfl _ _ 68 rfl w.heap.size 27 i0 (.slice none 0 0) 1 24 Try.underlying68 hi hz0 hz1 hz2 rfl (by decide) _ _ _ rfl hA2.row ⟨_, 0, none⟩ 1 1 [.slice a2 nz c2] rfl rfl ?c1 ?c2 ?c3 ?c4 ?c5 ?_)
      case c1 => exact new_one _ _ _ rfl
      case c2 => intro u hu; simp at hu; subst hu; rfl
      case c3 => unfold maxLen; omega
      case c4 => omega
      case c5 => first | omega | (simp; omega)
      intro v' w3 hown' hgrow _ hblk
      have hblk' : v'.ownBlock = u3.ownBlock ∨ v'.ownBlock = some (w2.alloc (.cells #[.slice a2 nz c2] 27)).heap.size := by rw [heap_size]; exact hblk
      have hA3 := hA2.push hU (by rw [hcl]; exact hown') hgrow hblk'
      have hB3 := hB2.grow hgrow hblk'
      have hK3 : Keep w w3 := (hK2.alloc _).grown hgrow (fun k hk => (hA2.lt k hk).1)
      clear hown' hgrow hblk hblk' hA2 hB2 hU
      go_wp2
      go_roundw
      case rel => exact ⟨k + 1, _, by omega, by go_num, by rw [HC.out]; exact hA3, hB3, hK3⟩
      case measure => simp [intOf]; omega
    · obtain rfl : k = rs.length := by omega
      have HR := Lib.hid hA.rd
      go_wp2
      go_ret
      exact ⟨_, rfl, by rw [HL.out]; exact HR.out, hK⟩
end Go.Proofs.Ytgolhjmbloiakaa

/- Contract of the specification's l8Is: is a number in a list. -/
namespace Go.Proofs.Ytgolhjmbloiakaa
open Go.ChangeShapes Go.WideShapes Go.ChangeAt Go.RowKit

set_option maxHeartbeats 1000000 in
theorem l8Is_any (w : World) (v : Value) (zs : List Int) (h : Rd w v zs) (hn : zs.length ≤ 1048576) (n : Int) :
    Calls Try.prog 94 #[v, .int .i64 n] w fun e w' => e = .returned (.bool (isB zs n)) ∧ w' = w := by
  obtain ⟨a, c, rfl, h⟩ := h
  go_enter Try.func94, Try.ntmps94
  go_wp2
  go_loop [5] (fun i => ∃ k : Nat, k ≤ zs.length ∧ i = .int .i64 k ∧ Hid (∀ i, i < k → zs.getD i 0 ≠ n)) (fun i => zs.length - (intOf i).toNat)
  case atStart => exact ⟨0, Nat.zero_le _, rfl, Lib.hid (fun i hi => absurd hi (Nat.not_lt_zero _))⟩
  case round =>
    obtain ⟨k, hk, rfl, hno⟩ := hrel
    by_cases hlt : k < zs.length
    · rcases h with h | ⟨b, o, rfl, hb, hc⟩
      · exfalso; rw [h] at hlt; simp at hlt
      have d1 := hc k hlt
      obtain ⟨p, hp⟩ : ∃ p, p = zs.getD k 0 := ⟨_, rfl⟩
      have HP := Lib.hid hp
      rw [← hp] at d1
      clear hc hp
      by_cases he : p = n
      · have hb : (p == n) = true := by simp [he]
        have HE : Hid (isB zs n = true) := Lib.hid (isB_at hlt (by rw [← HP.out]; exact he))
        clear he
        go_wp2
        go_ret
        exact ⟨by rw [HE.out]; rfl, rfl⟩
      · have hb : (p == n) = false := by simp [he]
        have HE : Hid (∀ i, i < k + 1 → zs.getD i 0 ≠ n) := Lib.hid (fun i hi => by
          by_cases e : i = k
          · subst e; rw [← HP.out]; exact he
          · exact hno.out i (by omega))
        clear he
        go_wp2
        go_round
        case rel => exact ⟨k + 1, by omega, by go_num, HE⟩
        case measure => simp [intOf]; omega
    · obtain rfl : k = zs.length := by omega
      have HE : Hid (isB zs n = false) := Lib.hid (isB_take hno.out)
      go_wp2
      go_ret
      exact ⟨by rw [HE.out]; rfl, rfl⟩
end Go.Proofs.Ytgolhjmbloiakaa
