/- Contract of the program's SourceAt. -/
import Derived.Test.YtdgalmimkhoanaaCntI
import Derived.Test.YtdgalmimkhoanaaMB
namespace Go.Proofs.Ytdgalmimkhoanaa
open Go.ChangeShapes Go.WideShapes Go.ChangeAt Go.RowKit Go.Shelf

/-- A result that lies in a box of one cell. -/
theorem results_box {P : Program} {fn : Func} {p : Tmp} {ty e : TypeId} (h : fn.results = #[.cell p ty]) (hu : P.underlying ty = some (.slice e)) (tmps : Array Value) (w : World) (g : Nat) (v : Value) (hp : tmps.getD p undef = .pointer (some ⟨g, 0, none⟩)) (hc : w.cell? ⟨g, 0, none⟩ = some v) :
    (results fn tmps).run P w = .ok v w := by
  have hp' : tmps[p]?.getD undef = .pointer (some ⟨g, 0, none⟩) := by simpa using hp
  have hagg : (isAgg ty).run P w = .ok false w := by
    unfold isAgg
    rw [Sem.run_bind, run_underlying hu w]
    rfl
  simp only [results, h]
  simp [Sem.run_bind, Result.andThen, asAddr, hp', loadVar, load, hagg]
  simp [Sem.run, hc]
/-- Which source comes k-th, and which numbers none has. -/
theorem at_hit {dss : List (List Dd)} {n : Int} {k : Nat} (hk : k < srcN (chcL (eventsB dss)) (chcL (eventsB dss)).length) (e : (k : Int) = n) : atB dss n = atP (chcL (eventsB dss)) (chcL (eventsB dss)).length k := by
  rw [atP_all]
  cases hb : workB dss
  · have e0 : eventsB dss = [] := by rw [eventsB, hb]; rfl
    have e1 : chcL (eventsB dss) = [] := by rw [e0]; rfl
    have e2 : cntB dss = -1 := by rw [cntB, hb]; rfl
    rw [e1]
    unfold atB
    rw [if_neg (by omega)]
    rfl
  · have e2 : cntB dss = (srcN (chcL (eventsB dss)) (chcL (eventsB dss)).length : Nat) := by rw [srcN_int, cntB, if_pos hb]
    unfold atB
    rw [if_pos (by omega), e]
theorem at_none {dss : List (List Dd)} {n : Int} (h : ∀ k : Nat, k < srcN (chcL (eventsB dss)) (chcL (eventsB dss)).length → (k : Int) ≠ n) : atB dss n = [] := by
  unfold atB
  rw [if_neg]
  rintro ⟨h1, h2⟩
  cases hb : workB dss
  · have e2 : cntB dss = -1 := by rw [cntB, hb]; rfl
    omega
  · have e2 : cntB dss = (srcN (chcL (eventsB dss)) (chcL (eventsB dss)).length : Nat) := by rw [srcN_int, cntB, if_pos hb]
    obtain ⟨k, hk⟩ := Int.eq_ofNat_of_zero_le h1
    exact h k (by omega) hk.symm
set_option maxRecDepth 100000 in
set_option maxHeartbeats 2000000 in
theorem implSourceAt_own (w : World) (v : Value) (dss : List (List Dd)) (n : Int) (h : RdW w v dss) (hx : dss.length ≤ 1048576) (hm : ∀ i, i < dss.length → (dss.getD i []).length ≤ 1048576) :
    Calls Try.prog 10 #[v, .int .i64 n] w fun e w' => ∃ v', e = .returned v' ∧ Own w' w.heap.size v' (atB dss n) ∧ Keep w w' := by
  have h12 : (eventsB dss).length ≤ 12 := by have := eventsB_len9 dss; omega
  obtain ⟨cl1, cl2⟩ := chc_len h12
  have cl3 := chc_twelve h12
  have ct := (cnt_top cl1 cl2 _ (Nat.le_refl _)).2
  rw [← srcN_int] at ct
  have HH := fun (k : Nat) hk e => Lib.hid (at_hit (dss := dss) (n := n) (k := k) hk e)
  have HN := fun h => Lib.hid (at_none (dss := dss) (n := n) h)
  have hdw : Fence.wide.depth = none := rfl
  have hsem := @Oper.semAt_some
  have bA := ((Boxed.new w 2 (.int .i64 n)).alloc (.cells #[.slice none 0 0] 27)).alloc (.cells #[.int .i64 0] 2)
  have bB := (Boxed.new (w.alloc (.cells #[.int .i64 n] 2)) 27 (.slice none 0 0)).alloc (.cells #[.int .i64 0] 2)
  have bC := Boxed.new ((w.alloc (.cells #[.int .i64 n] 2)).alloc (.cells #[.slice none 0 0] 27)) 2 (.int .i64 0)
  have k1 : Keep w (((w.alloc (.cells #[.int .i64 n] 2)).alloc (.cells #[.slice none 0 0] 27)).alloc (.cells #[.int .i64 0] 2)) := (((Keep.refl w).alloc _).alloc _).alloc _
  have hz1 : (((w.alloc (.cells #[.int .i64 n] 2)).alloc (.cells #[.slice none 0 0] 27)).alloc (.cells #[.int .i64 0] 2)).heap.size = w.heap.size + 3 := by simp only [heap_size]
  simp only [heap_size] at bB bC
  refine (callsIn_wide (n := 0)).1 (callsIn_of_wp_marks Try.func10 rfl trivial ?_ rfl)
  simp only [Try.ntmps10, List.size_toArray, List.length_cons, List.length_nil, Nat.reduceAdd, Nat.reduceSub, Array.replicate_succ, Array.replicate_zero, List.push_toArray, List.append_toArray, List.nil_append, List.cons_append]
  gi_wp2_with fail
  generalize ((w.alloc (.cells #[.int .i64 n] 2)).alloc (.cells #[.slice none 0 0] 27)).alloc (.cells #[.int .i64 0] 2) = w1 at *
  refine ⟨trivial, (callsIn_wide.2 (implEventsOf_any _ _ _ (h.keep k1) hx hm)).mono ?_⟩
  rintro e w2 ⟨v2, rfl, a2, k2⟩
  gi_wp2_with fail
  refine ⟨trivial, (callsIn_wide.2 (choicesOf_any _ _ _ a2.rd h12)).mono ?_⟩
  rintro e w3 ⟨v3, rfl, rp, k3⟩
  have cA := boxed_keep (boxed_keep bA k2) k3
  have cB := boxed_keep (boxed_keep bB k2) k3
  have cC := boxed_keep (boxed_keep bC k2) k3
  have K3 := (k1.trans k2).trans k3
  have s2 := k2.size
  have s3 := k3.size
  generalize chcL (eventsB dss) = css at *
  obtain ⟨ac, cc, hv3, -, -⟩ := rp.2
  subst hv3
  clear k1 k2 k3 bA bB bC a2 h hx hm h12
  gi_wp2_with fail
  refine ⟨trivial, (callsIn_wide.2 (sources_any _ _ _ _)).mono ?_⟩
  rintro e w4 ⟨rfl, rfl⟩
  have bc := (Boxed.new w3 62 (.slice ac css.length cc)).cell
  have dA := cA.alloc (.cells #[.slice ac css.length cc] 62)
  have dB := cB.alloc (.cells #[.slice ac css.length cc] 62)
  have dC := cC.alloc (.cells #[.slice ac css.length cc] 62)
  have K4 := K3.alloc (.cells #[.slice ac css.length cc] 62)
  have rp4 := rp.but (Nat.le_refl _) ((But.refl (fun _ => False) w3).alloc (.cells #[.slice ac css.length cc] 62)) (fun _ _ _ h => h)
  have hz4 := heap_size w3 (.cells #[.slice ac css.length cc] 62)
  generalize w3.alloc (.cells #[.slice ac css.length cc] 62) = w4 at *
  have hseq := sources_seq css w2.heap.size w3.heap.size cl3 css.length cl1 w4 w3.heap.size _ rp4 bc (by omega) (by omega)
  clear cA cB cC K3 bc rp rp4
  gi_wp2
  refine wp_rangeM (gf := 64) (lb := #[.pointer (some ⟨w3.heap.size, 0, none⟩)]) rfl (enters_of Try.func64 (by kernel_rfl) rfl) rfl hseq (But.refl _ _) ?pr (fun b => b = w.heap.size + 1 ∨ b = w.heap.size + 2) ?hC
    (fun k A => Boxed A w.heap.size 2 (.int .i64 n) ∧ Boxed A (w.heap.size + 1) 27 (.slice none 0 0) ∧ Boxed A (w.heap.size + 2) 2 (.int .i64 k) ∧ Keep w A ∧ ∀ j : Nat, j < k → (j : Int) ≠ n)
    (fun c k A => c = .ret ∧ (k : Int) = n ∧ ∃ v', Boxed A (w.heap.size + 1) 27 v' ∧ Own A (w4.heap.size + 2) v' (atP css css.length k) ∧ Keep w A) ?hI ?hIx (lieS_but css css.length) ⟨dA, dB, dC, K4, fun j hj => absurd hj (Nat.not_lt_zero _)⟩
    (fun v' => { tmps := #[v, .int .i64 n, undef, .pointer (some ⟨w.heap.size, 0, none⟩), .pointer (some ⟨w.heap.size + 1, 0, none⟩), .pointer (some ⟨w.heap.size + 2, 0, none⟩), v', v, v2, .slice ac css.length cc, .func (.func 64) #[] #[.pointer (some ⟨w3.heap.size, 0, none⟩)], v', undef, undef, undef, undef, undef, undef, undef], defers := [] }) ?assign ?body ?done ?stop
  case pr => rintro b' (⟨_, h⟩ | rfl) <;> omega
  case hC =>
    intro b' hb
    refine ⟨by omega, ?_⟩
    rintro (⟨h1, h2⟩ | h) <;> omega
  case hI =>
    rintro k A B ⟨h1, h2, h3, h4, h5⟩ hB
    have nl : ∀ b, b < w4.heap.size → ¬ NC w4.heap.size A b := fun b h1 h2 => by have := h2.1; omega
    exact ⟨boxed_but h1 hB (nl _ (by omega)), boxed_but h2 hB (nl _ (by omega)), boxed_but h3 hB (nl _ (by omega)), keep_but h4 hB (fun b hb => by have := hb.1; omega), h5⟩
  case hIx =>
    rintro c k A B ⟨h1, h2, v', h3, h4, h5⟩ hB
    exact ⟨h1, h2, v', boxed_but h3 hB (fun h => by have := h.1; omega), h4.turn hB, keep_but h5 hB (fun b hb => by have := hb.1; omega)⟩
  case assign =>
    intro m v' W K hK
    gi_wp2
    exact hK
  case body =>
    rintro m k v' W hk ⟨h1, h2, h3, h4, h5⟩ hv
    have hv' : Own W (w4.heap.size + 2) v' (atP css css.length k) := hv
    clear hv
    obtain ⟨av, cv, rfl, -⟩ := hv'.rd
    have c1 := h1.cell
    have c2 := h2.cell
    have f2 := h2.frozen
    have c3 := h3.cell
    have f3 := h3.frozen
    have i1 : (0 : Int) ≤ (k : Int) := Int.natCast_nonneg _
    have i2 : (k : Int) < 8916100448256 := by omega
    by_cases he : (k : Int) = n
    · have hbe : ((k : Int) == n) = true := by simp [he]
      have HK := Lib.hid he
      clear he
      gi_wp2
      have bu := (But.refl (fun b => b = w.heap.size + 1 ∨ b = w.heap.size + 2) W).setCell (.inl rfl) 0 (.slice av (atP css css.length k).length cv)
      exact ⟨bu, rfl, HK.out, _, h2.set _, hv'.but bu (fun b h1 _ h2 => by omega), keep_but h4 bu (fun b hb => by omega)⟩
    · have hbe : ((k : Int) == n) = false := by simp [he]
      have HK := Lib.hid he
      clear he
      gi_wp2
      have bu := (But.refl (fun b => b = w.heap.size + 1 ∨ b = w.heap.size + 2) W).setCell (.inr rfl) 0 (.int .i64 ((k : Int) + 1))
      refine ⟨bu, boxed_but h1 bu (by omega), boxed_but h2 ((But.refl (fun b => b = w.heap.size + 2) W).setCell rfl 0 _) (by omega), by have := h3.set (.int .i64 ((k : Int) + 1)); simpa using this, keep_but h4 bu (fun b hb => by omega), fun j hj => ?_⟩
      by_cases e : j = k
      · subst e; exact HK.out
      · exact h5 j (by omega)
  case done =>
    rintro W ⟨h1, h2, h3, h4, h5⟩ hD
    have HE := HN h5
    have c2 := (h2.alloc (.cells #[] 2)).cell
    have f2 := (h2.alloc (.cells #[] 2)).frozen
    have HZ := Lib.hid hz4
    clear hz4 HN HH
    gi_wp2
    have hz := HZ.out
    have hlt := (Array.getElem?_eq_some_iff.1 hD).1
    have hD' : ((W.alloc (.cells #[] 2)).setCell ⟨w.heap.size + 1, 0, none⟩ (.slice (some ⟨W.heap.size, 0, none⟩) 0 0)).heap[w4.heap.size]? = some (.deferred (some [])) :=
      (Below.heap_setCell _ _ _ _ (by simp; omega)).trans ((Below.heap_alloc _ _ _ hlt).trans hD)
    have bu := ((But.refl (fun b => b = w.heap.size + 1 ∨ b = w4.heap.size) (W.alloc (.cells #[] 2))).setCell (.inl rfl) 0 (.slice (some ⟨W.heap.size, 0, none⟩) 0 0)).put (.inr rfl) (.deferred none)
    refine ⟨by simp, .inl ⟨_, _, rfl, run_takeDeferred hD', ?_⟩⟩
    exact ⟨_, results_box rfl Try.underlying27 _ _ (w.heap.size + 1) _ rfl (boxed_but ((h2.alloc _).set _) ((But.refl (fun b => b = w4.heap.size) _).put rfl _) (by omega)).cell, _, rfl,
      by rw [HE.out]; exact ((own_emptyI W).but bu (fun b h1 _ h2 => by omega)).base_le h4.size, keep_but (h4.alloc _) bu (fun b hb => by omega)⟩
  case stop =>
    rintro c k W hk ⟨rfl, h2, v', h3, h4, h5⟩ hD
    have HE := HH k hk h2
    have HZ := Lib.hid hz4
    clear hz4 HN HH
    gi_wp2
    have hz := HZ.out
    have bu := (But.refl (fun b => b = w4.heap.size) W).put rfl (.deferred none)
    refine ⟨by simp, .inl ⟨_, _, rfl, run_takeDeferred hD, ?_⟩⟩
    exact ⟨_, results_box rfl Try.underlying27 _ _ (w.heap.size + 1) _ rfl (boxed_but h3 bu (by omega)).cell, _, rfl,
      by rw [HE.out]; exact (h4.but bu (fun b h1 _ h2 => by omega)).base_le (by omega), keep_but h5 bu (fun b hb => by omega)⟩
theorem implSourceAt_any (w : World) (v : Value) (dss : List (List Dd)) (n : Int) (h : RdW w v dss) (hx : dss.length ≤ 1048576) (hm : ∀ i, i < dss.length → (dss.getD i []).length ≤ 1048576) :
    Calls Try.prog 10 #[v, .int .i64 n] w fun e w' => ∃ v', e = .returned v' ∧ Row w' w.heap.size v' (atB dss n) ∧ Keep w w' :=
  (implSourceAt_own w v dss n h hx hm).mono (by
    rintro e w' ⟨v', h1, h2, h3⟩
    exact ⟨v', h1, h2.row, h3⟩)
end Go.Proofs.Ytdgalmimkhoanaa
