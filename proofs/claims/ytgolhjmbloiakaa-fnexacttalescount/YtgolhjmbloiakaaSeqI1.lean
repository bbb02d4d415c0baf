/- The program's iterator over the sources: the last read innermost. -/
import Derived.Test.YtgolhjmbloiakaaSeqI0
import Derived.Test.YtgolhjmbloiakaaSourcesI
import Derived.Sort.CutIn
import Derived.Test.YtgolhjmbloiakaaRoundReg
namespace Go.Proofs.Ytgolhjmbloiakaa
open Go.ChangeShapes Go.WideShapes Go.ChangeAt Go.RowKit Go.Shelf

theorem one_new {w : World} {b : Nat} {v : Value} (h : w.cell? ⟨b, 0, none⟩ = some v) : ∀ j u, ([v] : List Value)[j]? = some u → w.cell? ((⟨b, 0, none⟩ : Addr).add j) = some u := by
  intro j u hj
  match j, hj with
  | 0, hj =>
    simp at hj
    subst hj
    exact h
  | k + 1, hj => simp at hj
set_option maxRecDepth 100000 in
set_option maxHeartbeats 4000000 in
theorem sourcesS_seq (css : List (List Int)) (s1 s2 : Nat) (hcl : ∀ i, (css.getD i []).length ≤ 12) (n : Nat) (hn : n + 1 ≤ 12)
    (ih : ∀ (w0 : World) (Bc : Nat) (v : Value), RdP s1 s2 w0 v n css → w0.cell? ⟨Bc, 0, none⟩ = some v → Bc < w0.heap.size → s2 ≤ w0.heap.size →
      SeqM Try.prog 115 #[.pointer (some ⟨Bc, 0, none⟩)] (PrS s1 s2 Bc) (srcN css n) (LieS css n) w0)
    (w0 : World) (Bc : Nat) (v : Value) (hP : RdP s1 s2 w0 v (n + 1) css) (hc : w0.cell? ⟨Bc, 0, none⟩ = some v) (hBl : Bc < w0.heap.size) (hs : s2 ≤ w0.heap.size) :
    SeqM Try.prog 115 #[.pointer (some ⟨Bc, 0, none⟩)] (PrS s1 s2 Bc) (srcN css (n + 1)) (LieS css (n + 1)) w0 := by
  intro C l J Jx W hW hC hJ hJx hY h0
  have hWs := hW.size
  have hcW : W.cell? ⟨Bc, 0, none⟩ = some v := (hW.cell hBl (fun h => h (.inr rfl))).trans hc
  have hBW : Bc < W.heap.size := by omega
  have hPW := hP.but hs hW (fun b h1 h2 h3 => h3 (.inl ⟨h1, h2⟩))
  have hsW : s2 ≤ W.heap.size := by omega
  clear hP hc hBl hs hW hWs
  obtain ⟨hnl, a, cap, rfl, hcap, hPc⟩ := hPW
  rcases hPc with h | ⟨b, off, rfl, hb1, hb2, hPc⟩
  · exact absurd h (by omega)
  have hdw : Fence.wide.depth = none := rfl
  have hsem := @Oper.semAt_some
  have i1 : (0 : Int) ≤ (n : Int) := Int.natCast_nonneg _
  have i2 : (n : Int) ≤ (cap : Int) := by omega
  have i4 : ((n : Int) + 1 == 0) = false := by simp; omega
  refine (callsIn_wide (n := 0)).1 (callsIn_of_wp_marks Try.func115 rfl trivial ?_ rfl)
  simp only [Try.ntmps115, List.size_toArray, List.length_cons, List.length_nil, Nat.reduceAdd, Nat.reduceSub, Array.replicate_succ, Array.replicate_zero, List.push_toArray, List.append_toArray, List.nil_append, List.cons_append]
  gi_wp2_with (refine ⟨trivial, ?_⟩; gi_at_call 79; refine (callsIn_wide.2 (sources_any _ _ _ _)).mono ?_; rintro e w' ⟨rfl, rfl⟩)
  -- the world in which the loop begins
  have c0 := (((But.refl (NC W.heap.size W) W).alloc (.cells #[.func (.yield l) #[] #[]] 130)).alloc (.cells #[.int .i64 n] 3)).alloc (.cells #[.slice (some ⟨b, off, none⟩) n cap] 68)
  obtain ⟨W3, hW3⟩ : ∃ W3, W3 = ((W.alloc (.cells #[.func (.yield l) #[] #[]] 130)).alloc (.cells #[.int .i64 n] 3)).alloc (.cells #[.slice (some ⟨b, off, none⟩) n cap] 68) := ⟨_, rfl⟩
  have hz : W3.heap.size = W.heap.size + 3 := by rw [hW3]; simp
  have cy : W3.cell? ⟨W.heap.size, 0, none⟩ = some (.func (.yield l) #[] #[]) := by
    have h1 := (Boxed.new W 130 (.func (.yield l) #[] #[])).alloc (.cells #[.int .i64 n] 3)
    rw [hW3]; exact (h1.alloc _).cell
  have cn : W3.cell? ⟨W.heap.size + 1, 0, none⟩ = some (.int .i64 n) := by
    have h1 := Boxed.new (W.alloc (.cells #[.func (.yield l) #[] #[]] 130)) 3 (.int .i64 n)
    rw [World.size_alloc] at h1
    rw [hW3]; exact (h1.alloc _).cell
  have cc : W3.cell? ⟨W.heap.size + 2, 0, none⟩ = some (.slice (some ⟨b, off, none⟩) n cap) := by
    have h1 := Boxed.new ((W.alloc (.cells #[.func (.yield l) #[] #[]] 130)).alloc (.cells #[.int .i64 n] 3)) 68 (.slice (some ⟨b, off, none⟩) n cap)
    simp only [World.size_alloc] at h1
    rw [hW3]; exact h1.cell
  rw [← hW3] at c0 ⊢
  clear hW3
  have nW : ∀ b', b' < W.heap.size → ¬ NC W.heap.size W b' := fun b' h1 h2 => by have := h2.1; omega
  have hP3 : RdP s1 s2 W3 (.slice (some ⟨b, off, none⟩) n cap) n css := by
    refine ⟨by omega, _, _, rfl, by omega, ?_⟩
    by_cases h : n = 0
    · exact .inl h
    · refine .inr ⟨b, off, rfl, hb1, hb2, fun i hi => ?_⟩
      obtain ⟨vi, e1, e2⟩ := hPc i (by omega)
      exact ⟨vi, (c0.cell (by omega) (nW _ (by omega))).trans e1, e2.but hsW c0 (fun b' _ _ => nW b' (by omega))⟩
  have hseq := ih W3 (W.heap.size + 2) _ hP3 cc (by omega) (by omega)
  have hmul : ∀ k, (k + 1) * (css.getD n []).length = k * (css.getD n []).length + (css.getD n []).length := fun k => by rw [Nat.add_mul, Nat.one_mul]
  refine wp_rangeM (gf := 115) (lb := #[.pointer (some ⟨W.heap.size + 2, 0, none⟩)]) rfl (enters_of Try.func115 (by kernel_rfl) rfl) rfl hseq (But.refl _ _) ?pr C ?hC
    (fun k A => J (k * (css.getD n []).length) A ∧ But (fun b => C b ∨ W3.heap.size ≤ b) W3 A)
    (fun c _ A => c = .ret ∧ ∃ j, j < srcN css (n + 1) ∧ Jx j A) ?hI ?hIx (lieS_but css n) ?h0
    (fun v => { tmps := #[.func (.yield l) #[] #[], .pointer (some ⟨Bc, 0, none⟩), .pointer (some ⟨W.heap.size, 0, none⟩), .pointer (some ⟨W.heap.size + 1, 0, none⟩), v, undef, undef, .slice (some ⟨b, off, none⟩) (n + 1) cap, .int .i64 ((n : Int) + 1), .bool false, undef, undef, undef, .slice (some ⟨b, off, none⟩) (n + 1) cap, .int .i64 ((n : Int) + 1), .int .i64 n, .slice (some ⟨b, off, none⟩) (n + 1) cap, .int .i64 n, .slice (some ⟨b, off, none⟩) n cap, .func (.func 115) #[] #[.pointer (some ⟨W.heap.size + 2, 0, none⟩)], v, undef, undef, undef, undef, undef, undef, undef, undef, undef, undef, undef, undef, undef, undef, undef, undef, undef, undef], defers := [] }) ?assign ?body ?done ?stop
  case pr =>
    rintro b' (⟨_, h⟩ | rfl) <;> omega
  case hC =>
    intro b' h
    have := hC b' h
    refine ⟨by omega, ?_⟩
    rintro (h2 | rfl)
    · exact this.2 (.inl h2)
    · omega
  case hI =>
    rintro k A B ⟨h1, h2⟩ hB
    exact ⟨hJ _ _ _ h1 (hB.mono (fun b' _ h => h.le (by omega))), h2.trans (hB.mono (fun b' _ h => .inr h.1))⟩
  case hIx =>
    rintro c k A B ⟨h1, j, h2, h3⟩ hB
    exact ⟨h1, j, h2, hJx _ _ _ h3 (hB.mono (fun b' _ h => h.le (by omega)))⟩
  case h0 => exact ⟨by rw [Nat.zero_mul]; exact hJ 0 _ _ h0 c0, But.refl _ _⟩
  case assign =>
    intro m v W K hK
    gi_wp2
    exact hK
  case body =>
    rintro m k v W4 hk ⟨hJk, hBk⟩ hv
    have nB : ∀ b', b' < W.heap.size → PrS s1 s2 Bc b' → ¬ (C b' ∨ W3.heap.size ≤ b') := fun b' h1 h2 h3 => h3.elim (fun h => (hC b' h).2 h2) (fun h => by omega)
    have dc : W4.cell? ⟨Bc, 0, none⟩ = some (.slice (some ⟨b, off, none⟩) (n + 1) cap) := ((hBk.cell (by omega) (nB Bc hBW (.inr rfl))).trans (c0.cell hBW (nW _ hBW))).trans hcW
    have nN : ∀ b', W.heap.size ≤ b' → b' < W3.heap.size → ¬ (C b' ∨ W3.heap.size ≤ b') := fun b' h1 h2 h3 => h3.elim (fun h => by have := (hC b' h).1; omega) (fun h => by omega)
    have dy : W4.cell? ⟨W.heap.size, 0, none⟩ = some (.func (.yield l) #[] #[]) := (hBk.cell (by omega) (nN _ (by omega) (by omega))).trans cy
    have dn : W4.cell? ⟨W.heap.size + 1, 0, none⟩ = some (.int .i64 n) := (hBk.cell (by omega) (nN _ (by omega) (by omega))).trans cn
    obtain ⟨vi, e1, e2⟩ := hPc n (by omega)
    have dv : W4.cell? ⟨b, off + n, none⟩ = some vi := ((hBk.cell (by omega) (nB b (by omega) (.inl ⟨hb1, hb2⟩))).trans (c0.cell (by omega) (nW _ (by omega)))).trans e1
    have hR4 : RdR s1 s2 W4 vi (css.getD n []) := (e2.but hsW c0 (fun b' _ _ => nW b' (by omega))).but (by omega) hBk (fun b' h1 h2 => nB b' (by omega) (.inl ⟨h1, h2⟩))
    have hs4 : W3.heap.size ≤ W4.heap.size := hBk.size
    have hat := fun i (hi : i < (css.getD n []).length) => atP_succ css n k i (by omega) hi
    have hlt := fun i (hi : i < (css.getD n []).length) => src_lt hk hi
    rw [← srcN_succ] at hlt
    have hm1 := hmul k
    have h12 := hcl n
    have hal : (atP css n k).length ≤ 12 := by rw [atP_len css n k (by omega)]; omega
    clear e1 e2 hPc hmul hP3 hseq ih nN hnl hcap h0 hcW
    have hv' : Own W4 (W3.heap.size + 2) v (atP css n k) := hv
    clear hv
    generalize css.getD n [] = zs at *
    generalize atP css n k = ah at *
    obtain ⟨av, cv, rfl, -⟩ := hv'.rd
    obtain ⟨az, cz, rfl, hzs⟩ := hR4
    have j1 : (0 : Int) ≤ (n : Int) := i1
    have j2 : (n : Int) < (n : Int) + 1 := by omega
    gi_wp2
    gi_loopw [26] (fun i wr => ∃ j : Nat, j ≤ zs.length ∧ i = .int .i64 j ∧ J (k * zs.length + j) wr ∧ But C W4 wr) (fun i _ => zs.length - (intOf i).toNat)
    case atStart => exact ⟨0, Nat.zero_le _, rfl, hJk, But.refl _ _⟩
    case round =>
      obtain ⟨j, hj, rfl, hJr, hBr⟩ := hrel
      by_cases hjl : j < zs.length
      · rcases hzs with h | ⟨bz, oz, rfl, hz1, hz2, hzc⟩
        · exfalso; rw [h] at hjl; simp at hjl
        have nC : ∀ b', W.heap.size ≤ b' → ¬ C b' := fun b' h1 h2 => by have := (hC b' h2).1; omega
        have d8 : wr.cell? ⟨bz, oz + j, none⟩ = some (.int .i64 (zs.getD j 0)) := (hBr.cell (by omega) (fun h => (hC _ h).2 (.inl ⟨hz1, hz2⟩))).trans (hzc j hjl)
        have dyr : wr.cell? ⟨W.heap.size, 0, none⟩ = some (.func (.yield l) #[] #[]) := (hBr.cell (by omega) (nC _ (Nat.le_refl _))).trans dy
        have hvr : Own wr (W3.heap.size + 2) _ ah := hv'.but hBr (fun b' h1 _ => nC b' (by omega))
        have hsr := hBr.size
        have hatj := hat j hjl
        have hltj := hlt j hjl
        generalize zs.getD j 0 = x at d8 hatj
        clear hzc hat hlt dc dn dv
        have k1 : (0 : Int) ≤ (j : Int) := Int.natCast_nonneg _
        have k2 : (j : Int) < (zs.length : Int) := by omega
        gi_wp2
        gi_cut [37] from 30 (fun s wx => ∃ bb : Bool, s = .bool (!bb) ∧ But C W4 wx ∧ (bb = true → J (k * zs.length + j + 1) wx) ∧ (bb = false → Jx (k * zs.length + j) wx))
        case first =>
          have hmix : Try.prog.follows .mixedOrders = true := by kernel_rfl
          obtain ⟨t0, t1, t2, t3, t4⟩ := info_parts Try.infoI
          have hdz : wr.drew.heap.size = wr.heap.size := rfl
          have dyd : wr.drew.cell? ⟨W.heap.size, 0, none⟩ = some (.func (.yield l) #[] #[]) := dyr
          have hRd : Rd wr.drew (.slice av ah.length cv) ah := hvr.rd.keep ((Keep.refl wr).drew)
          have K0 : Keep wr.drew wr.drew := Keep.refl _
          refine region_round hmix ?nd ?_
          case nd =>
            intro i o ho c
            have hi8 : i < 8 := by
              have := (Array.getElem?_eq_some_iff.1 ho).1
              simpa using this
            rcases (by omega : i = 0 ∨ i = 1 ∨ i = 2 ∨ i = 3 ∨ i = 4 ∨ i = 5 ∨ i = 6 ∨ i = 7) with rfl | rfl | rfl | rfl | rfl | rfl | rfl | rfl <;> (simp at ho; subst ho; intro h; cases h)
          refine takeIn 1 31 (.slice av ah.length cv) rfl rfl rfl (by kernel_rfl) (by kernel_rfl) (by kernel_rfl) (fun _ _ _ h => h) ⟨Or.inl ⟨by rfl, by intro w; go_simp⟩, fun _ => rfl⟩ ?_
          simp only [Act.put, List.setIfInBounds_toArray, List.set_cons_zero, List.set_cons_succ]
          refine takeIn 3 33 (.int .i64 x) rfl rfl rfl (by kernel_rfl) (by kernel_rfl) (by kernel_rfl) (fun _ _ _ h => h) ⟨Or.inl ⟨by rfl, by intro w; go_simp⟩, fun _ => rfl⟩ ?_
          simp only [Act.put, List.setIfInBounds_toArray, List.set_cons_zero, List.set_cons_succ]
          refine wpAnyIn_ready (rs := [0, 2, 4]) (by kernel_rfl) (by simp) ?_
          refine AllReadyIn.cons rfl (fun K hK => ?_) ?_
          · have dy1 := (K0.cell (b := W.heap.size) (o := 0) (by rw [hdz]; omega)).trans dyd
            go_simp
            refine hK _ _ ?_
            clear hK K dy1
            refine wpAnyIn_ready (rs := [2, 4]) (by kernel_rfl) (by simp) ?_
            refine AllReadyIn.cons rfl (fun K hK => ?_) ?_
            · go_simp
              refine ⟨trivial, (callsIn_wide.2 (clone_any _ _ ah (hRd.keep K0) (by omega))).mono ?_⟩
              rintro e w2 ⟨v2, rfl, o2, k2⟩
              have hk2 := K0.size
              have O2 := o2.base_le (base' := wr.heap.size) (by rw [hdz] at hk2; omega)
              have K2 := K0.trans k2
              clear o2 k2 hk2
              obtain ⟨a2, c2, rfl, -⟩ := O2.rd
              dsimp only
              refine hK _ _ ?_
              clear hK K
              refine wpAnyIn_ready (rs := [4]) (by kernel_rfl) (by simp) ?_
              refine AllReadyIn.cons rfl (fun K hK => ?_) ?_
              · go_simp
                have T3 := (Boxed.new (w2) 2 (.int .i64 x)).cell
                have tl3 : (w2).heap.size < ((w2).alloc (.cells #[.int .i64 x] 2)).heap.size := by simp
                have K3 := K2.alloc (.cells #[.int .i64 x] 2)
                have O3 := O2.keep ((Keep.refl (w2)).alloc (.cells #[.int .i64 x] 2))
                refine hK _ _ ?_
                clear hK K
                refine wpAnyIn_ready (rs := [5]) (by kernel_rfl) (by simp) ?_
                refine AllReadyIn.cons rfl (fun K hK => ?_) ?_
                · refine stepIn_append_own rfl (.tmp 32) (.tmp 34) 27 rfl wr.heap.size 2 t0 (.int .i64 0) 1 8 Try.underlying27 t1 t2 t3 t4 rfl (by decide) _ _ _ rfl O3 ⟨_, 0, none⟩ 1 1 [.int .i64 x] rfl rfl (one_new T3) (by simp [Value.oneCell']) (by unfold maxLen; omega) (by omega) (by have := K3.size; rw [hdz] at this; omega) ?_
                  intro v4 w4 ho4 hg4
                  have O4 : Own w4 wr.heap.size v4 (ah ++ [x]) := own_hit ho4
                  have K4 : Keep wr.drew w4 := K3.grown hg4 (fun k hk => by rw [hdz]; exact O3.ge k hk)
                  obtain ⟨g4, c4, rfl⟩ := ownsRow_succ ho4
                  clear ho4 hg4
                  refine hK _ _ ?_
                  clear hK K
                  refine wpAnyIn_ready (rs := [6]) (by kernel_rfl) (by simp) ?_
                  refine AllReadyIn.cons rfl (fun K hK => ?_) ?_
                  · obtain ⟨fn, tmps, assign, body, hy, hR⟩ := hY (m - 1) (k * zs.length + j) (.slice (some ⟨g4, 0, none⟩) (ah.length + 1) c4) w4 hltj (hJ _ _ _ hJr (((But.refl _ wr).drew).keep K4)) (by show Own _ _ _ (atP css (n + 1) (k * zs.length + j)); rw [hatj]; exact O4.base_le (by omega))
                    go_simp
                    refine hR.mono ?_
                    rintro e w3 ⟨bb, rfl, hB3, hT3, hF3⟩
                    dsimp only
                    refine hK _ _ ?_
                    clear hK K hy hR
                    refine wpAnyIn_ready (rs := [7]) (by kernel_rfl) (by simp) ?_
                    refine AllReadyIn.cons rfl (fun K hK => ?_) ?_
                    · go_simp
                      refine hK _ _ ?_
                      clear hK K
                      refine wpAnyIn_done (by kernel_rfl) ?_ _
                      gi_wp2
                      gi_meet
                      case rel => exact ⟨bb, rfl, ((hBr.drew).keep K4).trans hB3, hT3, hF3⟩
                    exact AllReadyIn.nil
                  exact AllReadyIn.nil
                exact AllReadyIn.nil
              exact AllReadyIn.nil
            refine AllReadyIn.cons rfl (fun K hK => ?_) ?_
            · go_simp
              have T7 := (Boxed.new (wr.drew) 2 (.int .i64 x)).cell
              have tl7 : (wr.drew).heap.size < ((wr.drew).alloc (.cells #[.int .i64 x] 2)).heap.size := by simp
              have K7 := K0.alloc (.cells #[.int .i64 x] 2)
              refine hK _ _ ?_
              clear hK K
              refine wpAnyIn_ready (rs := [2]) (by kernel_rfl) (by simp) ?_
              refine AllReadyIn.cons rfl (fun K hK => ?_) ?_
              · go_simp
                refine ⟨trivial, (callsIn_wide.2 (clone_any _ _ ah (hRd.keep K7) (by omega))).mono ?_⟩
                rintro e w8 ⟨v8, rfl, o8, k8⟩
                have hk8 := K7.size
                have O8 := o8.base_le (base' := wr.heap.size) (by rw [hdz] at hk8; omega)
                have K8 := K7.trans k8
                have T8 := (k8.cell tl7).trans T7
                have tl8 := Nat.lt_of_lt_of_le tl7 k8.size
                clear o8 k8 hk8
                obtain ⟨a8, c8, rfl, -⟩ := O8.rd
                dsimp only
                refine hK _ _ ?_
                clear hK K
                refine wpAnyIn_ready (rs := [5]) (by kernel_rfl) (by simp) ?_
                refine AllReadyIn.cons rfl (fun K hK => ?_) ?_
                · refine stepIn_append_own rfl (.tmp 32) (.tmp 34) 27 rfl wr.heap.size 2 t0 (.int .i64 0) 1 8 Try.underlying27 t1 t2 t3 t4 rfl (by decide) _ _ _ rfl O8 ⟨_, 0, none⟩ 1 1 [.int .i64 x] rfl rfl (one_new T8) (by simp [Value.oneCell']) (by unfold maxLen; omega) (by omega) (by have := K8.size; rw [hdz] at this; omega) ?_
                  intro v9 w9 ho9 hg9
                  have O9 : Own w9 wr.heap.size v9 (ah ++ [x]) := own_hit ho9
                  have K9 : Keep wr.drew w9 := K8.grown hg9 (fun k hk => by rw [hdz]; exact O8.ge k hk)
                  obtain ⟨g9, c9, rfl⟩ := ownsRow_succ ho9
                  clear ho9 hg9
                  refine hK _ _ ?_
                  clear hK K
                  refine wpAnyIn_ready (rs := [6]) (by kernel_rfl) (by simp) ?_
                  refine AllReadyIn.cons rfl (fun K hK => ?_) ?_
                  · obtain ⟨fn, tmps, assign, body, hy, hR⟩ := hY (m - 1) (k * zs.length + j) (.slice (some ⟨g9, 0, none⟩) (ah.length + 1) c9) w9 hltj (hJ _ _ _ hJr (((But.refl _ wr).drew).keep K9)) (by show Own _ _ _ (atP css (n + 1) (k * zs.length + j)); rw [hatj]; exact O9.base_le (by omega))
                    go_simp
                    refine hR.mono ?_
                    rintro e w3 ⟨bb, rfl, hB3, hT3, hF3⟩
                    dsimp only
                    refine hK _ _ ?_
                    clear hK K hy hR
                    refine wpAnyIn_ready (rs := [7]) (by kernel_rfl) (by simp) ?_
                    refine AllReadyIn.cons rfl (fun K hK => ?_) ?_
                    · go_simp
                      refine hK _ _ ?_
                      clear hK K
                      refine wpAnyIn_done (by kernel_rfl) ?_ _
                      gi_wp2
                      gi_meet
                      case rel => exact ⟨bb, rfl, ((hBr.drew).keep K9).trans hB3, hT3, hF3⟩
                    exact AllReadyIn.nil
                  exact AllReadyIn.nil
                exact AllReadyIn.nil
              exact AllReadyIn.nil
            exact AllReadyIn.nil
          refine AllReadyIn.cons rfl (fun K hK => ?_) ?_
          · go_simp
            refine ⟨trivial, (callsIn_wide.2 (clone_any _ _ ah (hRd.keep K0) (by omega))).mono ?_⟩
            rintro e w12 ⟨v12, rfl, o12, k12⟩
            have hk12 := K0.size
            have O12 := o12.base_le (base' := wr.heap.size) (by rw [hdz] at hk12; omega)
            have K12 := K0.trans k12
            clear o12 k12 hk12
            obtain ⟨a12, c12, rfl, -⟩ := O12.rd
            dsimp only
            refine hK _ _ ?_
            clear hK K
            refine wpAnyIn_ready (rs := [0, 4]) (by kernel_rfl) (by simp) ?_
            refine AllReadyIn.cons rfl (fun K hK => ?_) ?_
            · have dy13 := (K12.cell (b := W.heap.size) (o := 0) (by rw [hdz]; omega)).trans dyd
              go_simp
              refine hK _ _ ?_
              clear hK K dy13
              refine wpAnyIn_ready (rs := [4]) (by kernel_rfl) (by simp) ?_
              refine AllReadyIn.cons rfl (fun K hK => ?_) ?_
              · go_simp
                have T14 := (Boxed.new (w12) 2 (.int .i64 x)).cell
                have tl14 : (w12).heap.size < ((w12).alloc (.cells #[.int .i64 x] 2)).heap.size := by simp
                have K14 := K12.alloc (.cells #[.int .i64 x] 2)
                have O14 := O12.keep ((Keep.refl (w12)).alloc (.cells #[.int .i64 x] 2))
                refine hK _ _ ?_
                clear hK K
                refine wpAnyIn_ready (rs := [5]) (by kernel_rfl) (by simp) ?_
                refine AllReadyIn.cons rfl (fun K hK => ?_) ?_
                · refine stepIn_append_own rfl (.tmp 32) (.tmp 34) 27 rfl wr.heap.size 2 t0 (.int .i64 0) 1 8 Try.underlying27 t1 t2 t3 t4 rfl (by decide) _ _ _ rfl O14 ⟨_, 0, none⟩ 1 1 [.int .i64 x] rfl rfl (one_new T14) (by simp [Value.oneCell']) (by unfold maxLen; omega) (by omega) (by have := K14.size; rw [hdz] at this; omega) ?_
                  intro v15 w15 ho15 hg15
                  have O15 : Own w15 wr.heap.size v15 (ah ++ [x]) := own_hit ho15
                  have K15 : Keep wr.drew w15 := K14.grown hg15 (fun k hk => by rw [hdz]; exact O14.ge k hk)
                  obtain ⟨g15, c15, rfl⟩ := ownsRow_succ ho15
                  clear ho15 hg15
                  refine hK _ _ ?_
                  clear hK K
                  refine wpAnyIn_ready (rs := [6]) (by kernel_rfl) (by simp) ?_
                  refine AllReadyIn.cons rfl (fun K hK => ?_) ?_
                  · obtain ⟨fn, tmps, assign, body, hy, hR⟩ := hY (m - 1) (k * zs.length + j) (.slice (some ⟨g15, 0, none⟩) (ah.length + 1) c15) w15 hltj (hJ _ _ _ hJr (((But.refl _ wr).drew).keep K15)) (by show Own _ _ _ (atP css (n + 1) (k * zs.length + j)); rw [hatj]; exact O15.base_le (by omega))
                    go_simp
                    refine hR.mono ?_
                    rintro e w3 ⟨bb, rfl, hB3, hT3, hF3⟩
                    dsimp only
                    refine hK _ _ ?_
                    clear hK K hy hR
                    refine wpAnyIn_ready (rs := [7]) (by kernel_rfl) (by simp) ?_
                    refine AllReadyIn.cons rfl (fun K hK => ?_) ?_
                    · go_simp
                      refine hK _ _ ?_
                      clear hK K
                      refine wpAnyIn_done (by kernel_rfl) ?_ _
                      gi_wp2
                      gi_meet
                      case rel => exact ⟨bb, rfl, ((hBr.drew).keep K15).trans hB3, hT3, hF3⟩
                    exact AllReadyIn.nil
                  exact AllReadyIn.nil
                exact AllReadyIn.nil
              exact AllReadyIn.nil
            refine AllReadyIn.cons rfl (fun K hK => ?_) ?_
            · go_simp
              have T18 := (Boxed.new (w12) 2 (.int .i64 x)).cell
              have tl18 : (w12).heap.size < ((w12).alloc (.cells #[.int .i64 x] 2)).heap.size := by simp
              have K18 := K12.alloc (.cells #[.int .i64 x] 2)
              have O18 := O12.keep ((Keep.refl (w12)).alloc (.cells #[.int .i64 x] 2))
              refine hK _ _ ?_
              clear hK K
              refine wpAnyIn_ready (rs := [0, 5]) (by kernel_rfl) (by simp) ?_
              refine AllReadyIn.cons rfl (fun K hK => ?_) ?_
              · have dy19 := (K18.cell (b := W.heap.size) (o := 0) (by rw [hdz]; omega)).trans dyd
                go_simp
                refine hK _ _ ?_
                clear hK K dy19
                refine wpAnyIn_ready (rs := [5]) (by kernel_rfl) (by simp) ?_
                refine AllReadyIn.cons rfl (fun K hK => ?_) ?_
                · refine stepIn_append_own rfl (.tmp 32) (.tmp 34) 27 rfl wr.heap.size 2 t0 (.int .i64 0) 1 8 Try.underlying27 t1 t2 t3 t4 rfl (by decide) _ _ _ rfl O18 ⟨_, 0, none⟩ 1 1 [.int .i64 x] rfl rfl (one_new T18) (by simp [Value.oneCell']) (by unfold maxLen; omega) (by omega) (by have := K18.size; rw [hdz] at this; omega) ?_
                  intro v20 w20 ho20 hg20
                  have O20 : Own w20 wr.heap.size v20 (ah ++ [x]) := own_hit ho20
                  have K20 : Keep wr.drew w20 := K18.grown hg20 (fun k hk => by rw [hdz]; exact O18.ge k hk)
                  obtain ⟨g20, c20, rfl⟩ := ownsRow_succ ho20
                  clear ho20 hg20
                  refine hK _ _ ?_
                  clear hK K
                  refine wpAnyIn_ready (rs := [6]) (by kernel_rfl) (by simp) ?_
                  refine AllReadyIn.cons rfl (fun K hK => ?_) ?_
                  · obtain ⟨fn, tmps, assign, body, hy, hR⟩ := hY (m - 1) (k * zs.length + j) (.slice (some ⟨g20, 0, none⟩) (ah.length + 1) c20) w20 hltj (hJ _ _ _ hJr (((But.refl _ wr).drew).keep K20)) (by show Own _ _ _ (atP css (n + 1) (k * zs.length + j)); rw [hatj]; exact O20.base_le (by omega))
                    go_simp
                    refine hR.mono ?_
                    rintro e w3 ⟨bb, rfl, hB3, hT3, hF3⟩
                    dsimp only
                    refine hK _ _ ?_
                    clear hK K hy hR
                    refine wpAnyIn_ready (rs := [7]) (by kernel_rfl) (by simp) ?_
                    refine AllReadyIn.cons rfl (fun K hK => ?_) ?_
                    · go_simp
                      refine hK _ _ ?_
                      clear hK K
                      refine wpAnyIn_done (by kernel_rfl) ?_ _
                      gi_wp2
                      gi_meet
                      case rel => exact ⟨bb, rfl, ((hBr.drew).keep K20).trans hB3, hT3, hF3⟩
                    exact AllReadyIn.nil
                  exact AllReadyIn.nil
                exact AllReadyIn.nil
              refine AllReadyIn.cons rfl (fun K hK => ?_) ?_
              · refine stepIn_append_own rfl (.tmp 32) (.tmp 34) 27 rfl wr.heap.size 2 t0 (.int .i64 0) 1 8 Try.underlying27 t1 t2 t3 t4 rfl (by decide) _ _ _ rfl O18 ⟨_, 0, none⟩ 1 1 [.int .i64 x] rfl rfl (one_new T18) (by simp [Value.oneCell']) (by unfold maxLen; omega) (by omega) (by have := K18.size; rw [hdz] at this; omega) ?_
                intro v23 w23 ho23 hg23
                have O23 : Own w23 wr.heap.size v23 (ah ++ [x]) := own_hit ho23
                have K23 : Keep wr.drew w23 := K18.grown hg23 (fun k hk => by rw [hdz]; exact O18.ge k hk)
                obtain ⟨g23, c23, rfl⟩ := ownsRow_succ ho23
                clear ho23 hg23
                refine hK _ _ ?_
                clear hK K
                refine wpAnyIn_ready (rs := [0]) (by kernel_rfl) (by simp) ?_
                refine AllReadyIn.cons rfl (fun K hK => ?_) ?_
                · have dy24 := (K23.cell (b := W.heap.size) (o := 0) (by rw [hdz]; omega)).trans dyd
                  go_simp
                  refine hK _ _ ?_
                  clear hK K dy24
                  refine wpAnyIn_ready (rs := [6]) (by kernel_rfl) (by simp) ?_
                  refine AllReadyIn.cons rfl (fun K hK => ?_) ?_
                  · obtain ⟨fn, tmps, assign, body, hy, hR⟩ := hY (m - 1) (k * zs.length + j) (.slice (some ⟨g23, 0, none⟩) (ah.length + 1) c23) w23 hltj (hJ _ _ _ hJr (((But.refl _ wr).drew).keep K23)) (by show Own _ _ _ (atP css (n + 1) (k * zs.length + j)); rw [hatj]; exact O23.base_le (by omega))
                    go_simp
                    refine hR.mono ?_
                    rintro e w3 ⟨bb, rfl, hB3, hT3, hF3⟩
                    dsimp only
                    refine hK _ _ ?_
                    clear hK K hy hR
                    refine wpAnyIn_ready (rs := [7]) (by kernel_rfl) (by simp) ?_
                    refine AllReadyIn.cons rfl (fun K hK => ?_) ?_
                    · go_simp
                      refine hK _ _ ?_
                      clear hK K
                      refine wpAnyIn_done (by kernel_rfl) ?_ _
                      gi_wp2
                      gi_meet
                      case rel => exact ⟨bb, rfl, ((hBr.drew).keep K23).trans hB3, hT3, hF3⟩
                    exact AllReadyIn.nil
                  exact AllReadyIn.nil
                exact AllReadyIn.nil
              exact AllReadyIn.nil
            exact AllReadyIn.nil
          refine AllReadyIn.cons rfl (fun K hK => ?_) ?_
          · go_simp
            have T27 := (Boxed.new (wr.drew) 2 (.int .i64 x)).cell
            have tl27 : (wr.drew).heap.size < ((wr.drew).alloc (.cells #[.int .i64 x] 2)).heap.size := by simp
            have K27 := K0.alloc (.cells #[.int .i64 x] 2)
            refine hK _ _ ?_
            clear hK K
            refine wpAnyIn_ready (rs := [0, 2]) (by kernel_rfl) (by simp) ?_
            refine AllReadyIn.cons rfl (fun K hK => ?_) ?_
            · have dy28 := (K27.cell (b := W.heap.size) (o := 0) (by rw [hdz]; omega)).trans dyd
              have dx28 : ((wr).alloc (.cells #[.int .i64 x] 2)).cell? ⟨W.heap.size, 0, none⟩ = some (.func (.yield l) #[] #[]) := dy28
              go_simp
              refine hK _ _ ?_
              clear hK K dy28
              refine wpAnyIn_ready (rs := [2]) (by kernel_rfl) (by simp) ?_
              refine AllReadyIn.cons rfl (fun K hK => ?_) ?_
              · go_simp
                refine ⟨trivial, (callsIn_wide.2 (clone_any _ _ ah (hRd.keep K27) (by omega))).mono ?_⟩
                rintro e w29 ⟨v29, rfl, o29, k29⟩
                have hk29 := K27.size
                have O29 := o29.base_le (base' := wr.heap.size) (by rw [hdz] at hk29; omega)
                have K29 := K27.trans k29
                have T29 := (k29.cell tl27).trans T27
                have tl29 := Nat.lt_of_lt_of_le tl27 k29.size
                clear o29 k29 hk29
                obtain ⟨a29, c29, rfl, -⟩ := O29.rd
                dsimp only
                refine hK _ _ ?_
                clear hK K
                refine wpAnyIn_ready (rs := [5]) (by kernel_rfl) (by simp) ?_
                refine AllReadyIn.cons rfl (fun K hK => ?_) ?_
                · refine stepIn_append_own rfl (.tmp 32) (.tmp 34) 27 rfl wr.heap.size 2 t0 (.int .i64 0) 1 8 Try.underlying27 t1 t2 t3 t4 rfl (by decide) _ _ _ rfl O29 ⟨_, 0, none⟩ 1 1 [.int .i64 x] rfl rfl (one_new T29) (by simp [Value.oneCell']) (by unfold maxLen; omega) (by omega) (by have := K29.size; rw [hdz] at this; omega) ?_
                  intro v30 w30 ho30 hg30
                  have O30 : Own w30 wr.heap.size v30 (ah ++ [x]) := own_hit ho30
                  have K30 : Keep wr.drew w30 := K29.grown hg30 (fun k hk => by rw [hdz]; exact O29.ge k hk)
                  obtain ⟨g30, c30, rfl⟩ := ownsRow_succ ho30
                  clear ho30 hg30
                  refine hK _ _ ?_
                  clear hK K
                  refine wpAnyIn_ready (rs := [6]) (by kernel_rfl) (by simp) ?_
                  refine AllReadyIn.cons rfl (fun K hK => ?_) ?_
                  · obtain ⟨fn, tmps, assign, body, hy, hR⟩ := hY (m - 1) (k * zs.length + j) (.slice (some ⟨g30, 0, none⟩) (ah.length + 1) c30) w30 hltj (hJ _ _ _ hJr (((But.refl _ wr).drew).keep K30)) (by show Own _ _ _ (atP css (n + 1) (k * zs.length + j)); rw [hatj]; exact O30.base_le (by omega))
                    go_simp
                    refine hR.mono ?_
                    rintro e w3 ⟨bb, rfl, hB3, hT3, hF3⟩
                    dsimp only
                    refine hK _ _ ?_
                    clear hK K hy hR
                    refine wpAnyIn_ready (rs := [7]) (by kernel_rfl) (by simp) ?_
                    refine AllReadyIn.cons rfl (fun K hK => ?_) ?_
                    · go_simp
                      refine hK _ _ ?_
                      clear hK K
                      refine wpAnyIn_done (by kernel_rfl) ?_ _
                      gi_wp2
                      gi_meet
                      case rel => exact ⟨bb, rfl, ((hBr.drew).keep K30).trans hB3, hT3, hF3⟩
                    exact AllReadyIn.nil
                  exact AllReadyIn.nil
                exact AllReadyIn.nil
              exact AllReadyIn.nil
            refine AllReadyIn.cons rfl (fun K hK => ?_) ?_
            · go_simp
              refine ⟨trivial, (callsIn_wide.2 (clone_any _ _ ah (hRd.keep K27) (by omega))).mono ?_⟩
              rintro e w33 ⟨v33, rfl, o33, k33⟩
              have hk33 := K27.size
              have O33 := o33.base_le (base' := wr.heap.size) (by rw [hdz] at hk33; omega)
              have K33 := K27.trans k33
              have T33 := (k33.cell tl27).trans T27
              have tl33 := Nat.lt_of_lt_of_le tl27 k33.size
              clear o33 k33 hk33
              obtain ⟨a33, c33, rfl, -⟩ := O33.rd
              dsimp only
              refine hK _ _ ?_
              clear hK K
              refine wpAnyIn_ready (rs := [0, 5]) (by kernel_rfl) (by simp) ?_
              refine AllReadyIn.cons rfl (fun K hK => ?_) ?_
              · have dy34 := (K33.cell (b := W.heap.size) (o := 0) (by rw [hdz]; omega)).trans dyd
                go_simp
                refine hK _ _ ?_
                clear hK K dy34
                refine wpAnyIn_ready (rs := [5]) (by kernel_rfl) (by simp) ?_
                refine AllReadyIn.cons rfl (fun K hK => ?_) ?_
                · refine stepIn_append_own rfl (.tmp 32) (.tmp 34) 27 rfl wr.heap.size 2 t0 (.int .i64 0) 1 8 Try.underlying27 t1 t2 t3 t4 rfl (by decide) _ _ _ rfl O33 ⟨_, 0, none⟩ 1 1 [.int .i64 x] rfl rfl (one_new T33) (by simp [Value.oneCell']) (by unfold maxLen; omega) (by omega) (by have := K33.size; rw [hdz] at this; omega) ?_
                  intro v35 w35 ho35 hg35
                  have O35 : Own w35 wr.heap.size v35 (ah ++ [x]) := own_hit ho35
                  have K35 : Keep wr.drew w35 := K33.grown hg35 (fun k hk => by rw [hdz]; exact O33.ge k hk)
                  obtain ⟨g35, c35, rfl⟩ := ownsRow_succ ho35
                  clear ho35 hg35
                  refine hK _ _ ?_
                  clear hK K
                  refine wpAnyIn_ready (rs := [6]) (by kernel_rfl) (by simp) ?_
                  refine AllReadyIn.cons rfl (fun K hK => ?_) ?_
                  · obtain ⟨fn, tmps, assign, body, hy, hR⟩ := hY (m - 1) (k * zs.length + j) (.slice (some ⟨g35, 0, none⟩) (ah.length + 1) c35) w35 hltj (hJ _ _ _ hJr (((But.refl _ wr).drew).keep K35)) (by show Own _ _ _ (atP css (n + 1) (k * zs.length + j)); rw [hatj]; exact O35.base_le (by omega))
                    go_simp
                    refine hR.mono ?_
                    rintro e w3 ⟨bb, rfl, hB3, hT3, hF3⟩
                    dsimp only
                    refine hK _ _ ?_
                    clear hK K hy hR
                    refine wpAnyIn_ready (rs := [7]) (by kernel_rfl) (by simp) ?_
                    refine AllReadyIn.cons rfl (fun K hK => ?_) ?_
                    · go_simp
                      refine hK _ _ ?_
                      clear hK K
                      refine wpAnyIn_done (by kernel_rfl) ?_ _
                      gi_wp2
                      gi_meet
                      case rel => exact ⟨bb, rfl, ((hBr.drew).keep K35).trans hB3, hT3, hF3⟩
                    exact AllReadyIn.nil
                  exact AllReadyIn.nil
                exact AllReadyIn.nil
              refine AllReadyIn.cons rfl (fun K hK => ?_) ?_
              · refine stepIn_append_own rfl (.tmp 32) (.tmp 34) 27 rfl wr.heap.size 2 t0 (.int .i64 0) 1 8 Try.underlying27 t1 t2 t3 t4 rfl (by decide) _ _ _ rfl O33 ⟨_, 0, none⟩ 1 1 [.int .i64 x] rfl rfl (one_new T33) (by simp [Value.oneCell']) (by unfold maxLen; omega) (by omega) (by have := K33.size; rw [hdz] at this; omega) ?_
                intro v38 w38 ho38 hg38
                have O38 : Own w38 wr.heap.size v38 (ah ++ [x]) := own_hit ho38
                have K38 : Keep wr.drew w38 := K33.grown hg38 (fun k hk => by rw [hdz]; exact O33.ge k hk)
                obtain ⟨g38, c38, rfl⟩ := ownsRow_succ ho38
                clear ho38 hg38
                refine hK _ _ ?_
                clear hK K
                refine wpAnyIn_ready (rs := [0]) (by kernel_rfl) (by simp) ?_
                refine AllReadyIn.cons rfl (fun K hK => ?_) ?_
                · have dy39 := (K38.cell (b := W.heap.size) (o := 0) (by rw [hdz]; omega)).trans dyd
                  go_simp
                  refine hK _ _ ?_
                  clear hK K dy39
                  refine wpAnyIn_ready (rs := [6]) (by kernel_rfl) (by simp) ?_
                  refine AllReadyIn.cons rfl (fun K hK => ?_) ?_
                  · obtain ⟨fn, tmps, assign, body, hy, hR⟩ := hY (m - 1) (k * zs.length + j) (.slice (some ⟨g38, 0, none⟩) (ah.length + 1) c38) w38 hltj (hJ _ _ _ hJr (((But.refl _ wr).drew).keep K38)) (by show Own _ _ _ (atP css (n + 1) (k * zs.length + j)); rw [hatj]; exact O38.base_le (by omega))
                    go_simp
                    refine hR.mono ?_
                    rintro e w3 ⟨bb, rfl, hB3, hT3, hF3⟩
                    dsimp only
                    refine hK _ _ ?_
                    clear hK K hy hR
                    refine wpAnyIn_ready (rs := [7]) (by kernel_rfl) (by simp) ?_
                    refine AllReadyIn.cons rfl (fun K hK => ?_) ?_
                    · go_simp
                      refine hK _ _ ?_
                      clear hK K
                      refine wpAnyIn_done (by kernel_rfl) ?_ _
                      gi_wp2
                      gi_meet
                      case rel => exact ⟨bb, rfl, ((hBr.drew).keep K38).trans hB3, hT3, hF3⟩
                    exact AllReadyIn.nil
                  exact AllReadyIn.nil
                exact AllReadyIn.nil
              exact AllReadyIn.nil
            exact AllReadyIn.nil
          exact AllReadyIn.nil
        case rest =>
          obtain ⟨bb, rfl, hB5, hT5, hF5⟩ := hcut
          cases bb
          · have hF6 := hF5 rfl
            clear hF5 hT5
            gi_wp2
            exact ⟨hB5, rfl, _, hltj, hF6⟩
          · have hT6 := hT5 rfl
            clear hF5 hT5
            gi_wp2
            go_roundw
            case rel => exact ⟨j + 1, by omega, by go_num, hT6, hB5⟩
            case measure => simp [intOf]; omega
      · obtain rfl : j = zs.length := by omega
        gi_wp2
        exact ⟨hBr, by rw [hm1]; exact hJr, hBk.trans (hBr.mono (fun _ _ h => .inl h))⟩
  case done =>
    rintro W4 ⟨h1, h2⟩ hD
    gi_wp2
    refine ⟨by simp, .inl ⟨_, _, rfl, run_takeDeferred hD, ?_⟩⟩
    exact ⟨_, results_none rfl _ _ _, ⟨_, rfl⟩, .inl (by rw [srcN_succ]; exact hJ _ _ _ h1 ((But.refl (NC W.heap.size W4) W4).put ⟨by omega, _, hD, rfl⟩ _))⟩
  case stop =>
    rintro c k W4 hk ⟨rfl, j, hj, h2⟩ hD
    gi_wp2
    refine ⟨by simp, .inl ⟨_, _, rfl, run_takeDeferred hD, ?_⟩⟩
    exact ⟨_, results_none rfl _ _ _, ⟨_, rfl⟩, .inr ⟨j, hj, hJx _ _ _ h2 ((But.refl (NC W.heap.size W4) W4).put ⟨by omega, _, hD, rfl⟩ _)⟩⟩
end Go.Proofs.Ytgolhjmbloiakaa
