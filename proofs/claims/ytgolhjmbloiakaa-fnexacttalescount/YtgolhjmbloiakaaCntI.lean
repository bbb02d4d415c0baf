/- Contract of the program's SourcesCount. -/
import Derived.Test.YtgolhjmbloiakaaSeqI
import Derived.Test.YtgolhjmbloiakaaMB
import Derived.Test.YtgolhjmbloiakaaMA
import Derived.Test.YtgolhjmbloiakaaMC
namespace Go.Proofs.Ytgolhjmbloiakaa
open Go.ChangeShapes Go.WideShapes Go.ChangeAt Go.RowKit Go.Shelf

theorem chc_twelve {es : List Ev} (h : es.length ≤ 12) : ∀ i, ((chcL es).getD i []).length ≤ 12 := by
  intro i
  by_cases hi : i < (chcL es).length
  · exact (chc_len h).2 i hi
  · rw [List.getD_eq_getElem?_getD, List.getElem?_eq_none (by omega)]
    simp
set_option maxRecDepth 100000 in
set_option maxHeartbeats 2000000 in
theorem implSourcesCount_any (w : World) (v : Value) (dss : List (List Dd)) (h : RdW w v dss) (hx : dss.length ≤ 1048576) (hm : ∀ i, i < dss.length → (dss.getD i []).length ≤ 1048576) :
    Calls Try.prog 46 #[v] w fun e w' => e = .returned (.int .i64 (cntB dss)) ∧ Keep w w' := by
  have h12 : (eventsB dss).length ≤ 12 := by have := eventsB_len9 dss; omega
  obtain ⟨cl1, cl2⟩ := chc_len h12
  have cl3 := chc_twelve h12
  cases hb : workB dss
  · have HE : Hid (cntB dss = -1) := Lib.hid (by rw [cntB, hb]; rfl)
    have C := implWorkOk_any w v dss h hx hm
    rw [hb] at C
    go_enter Try.func46, Try.ntmps46
    go_wp2_with fail
    refine C.mono ?_
    rintro e w1 ⟨rfl, k1⟩
    go_wp2
    go_ret
    exact ⟨by rw [HE.out]; rfl, k1⟩
  have HE : Hid (cntB dss = (srcN (chcL (eventsB dss)) (chcL (eventsB dss)).length : Nat)) := Lib.hid (by rw [srcN_int, cntB, if_pos hb])
  have ct := (cnt_top cl1 cl2 _ (Nat.le_refl _)).2
  rw [← srcN_int] at ct
  have C := implWorkOk_any w v dss h hx hm
  rw [hb] at C
  have hdw : Fence.wide.depth = none := rfl
  have hsem := @Oper.semAt_some
  refine (callsIn_wide (n := 0)).1 (callsIn_of_wp_marks Try.func46 rfl trivial ?_ rfl)
  simp only [Try.ntmps46, List.size_toArray, List.length_cons, List.length_nil, Nat.reduceAdd, Nat.reduceSub, Array.replicate_succ, Array.replicate_zero, List.push_toArray, List.append_toArray, List.nil_append, List.cons_append]
  gi_wp2_with fail
  refine ⟨trivial, (callsIn_wide.2 C).mono ?_⟩
  rintro e w1 ⟨rfl, k1⟩
  have b1 := Boxed.new w1 2 (.int .i64 0)
  have k1' : Keep w (w1.alloc (.cells #[.int .i64 0] 2)) := k1.alloc _
  gi_wp2_with fail
  refine ⟨trivial, (callsIn_wide.2 (implEventsOf_any _ _ _ (h.keep k1') hx hm)).mono ?_⟩
  rintro e w2 ⟨v2, rfl, a2, k2⟩
  gi_wp2_with fail
  refine ⟨trivial, (callsIn_wide.2 (choicesOf_any _ _ _ a2.rd h12)).mono ?_⟩
  rintro e w3 ⟨v3, rfl, rp, k3⟩
  have b3 := boxed_keep (boxed_keep b1 k2) k3
  have K3 := (k1'.trans k2).trans k3
  have s2 := k2.size
  rw [heap_size] at s2
  have s3 := k3.size
  have hw1 := k1.size
  generalize chcL (eventsB dss) = css at *
  obtain ⟨ac, cc, hv3, -, -⟩ := rp.2
  subst hv3
  clear k1 k1' k2 k3 b1 a2 C h hx hm h12
  gi_wp2_with fail
  refine ⟨trivial, (callsIn_wide.2 (sources_any _ _ _ _)).mono ?_⟩
  rintro e w4 ⟨rfl, rfl⟩
  have bc := (Boxed.new w3 68 (.slice ac css.length cc)).cell
  have b4 := b3.alloc (.cells #[.slice ac css.length cc] 68)
  have K4 := K3.alloc (.cells #[.slice ac css.length cc] 68)
  have rp4 := rp.but (Nat.le_refl _) ((But.refl (fun _ => False) w3).alloc (.cells #[.slice ac css.length cc] 68)) (fun _ _ _ h => h)
  have hz4 := heap_size w3 (.cells #[.slice ac css.length cc] 68)
  generalize w3.alloc (.cells #[.slice ac css.length cc] 68) = w4 at *
  have hseq := sources_seq css w2.heap.size w3.heap.size cl3 css.length cl1 w4 w3.heap.size _ rp4 bc (by omega) (by omega)
  gi_wp2
  refine wp_rangeM (gf := 115) (lb := #[.pointer (some ⟨w3.heap.size, 0, none⟩)]) rfl (enters_of Try.func115 (by kernel_rfl) rfl) rfl hseq (But.refl _ _) ?pr (fun b => b = w1.heap.size) ?hC
    (fun k A => Boxed A w1.heap.size 2 (.int .i64 k) ∧ Keep w A) (fun _ _ _ => False) ?hI ?hIx (lieS_but css css.length) ⟨b4, K4⟩
    (fun v' => { tmps := #[v, undef, .int .i64 0, .pointer (some ⟨w1.heap.size, 0, none⟩), v, .bool true, .bool false, v, v2, .slice ac css.length cc, .func (.func 115) #[] #[.pointer (some ⟨w3.heap.size, 0, none⟩)], v', undef, undef, undef], defers := [] }) ?assign ?body ?done ?stop
  case pr => rintro b' (⟨_, h⟩ | rfl) <;> omega
  case hC =>
    rintro b' rfl
    refine ⟨by omega, ?_⟩
    rintro (⟨h1, h2⟩ | h) <;> omega
  case hI =>
    rintro k A B ⟨h1, h2⟩ hB
    exact ⟨boxed_but h1 hB (fun h => by have := h.1; omega), keep_but h2 hB (fun b hb => by have := hb.1; omega)⟩
  case hIx => intro c k A B h _; exact h
  case assign =>
    intro m v' W K hK
    gi_wp2
    simpa using hK
  case body =>
    rintro m k v' W hk ⟨h1, h2⟩ _
    have c1 := h1.cell
    have c2 := h1.frozen
    have i1 : (0 : Int) ≤ (k : Int) := Int.natCast_nonneg _
    have i2 : (k : Int) < 8916100448256 := by omega
    gi_wp2
    exact ⟨(But.refl (fun b => b = w1.heap.size) W).setCell rfl _ _, by have := h1.set (.int .i64 ((k : Int) + 1)); simpa using this, keep_but h2 ((But.refl (fun b => b = w1.heap.size) W).setCell rfl _ _) (fun b hb => by omega)⟩
  case done =>
    rintro W ⟨h1, h2⟩ hD
    have c1 := h1.cell
    gi_wp2
    refine ⟨by simp, .inl ⟨_, _, rfl, run_takeDeferred hD, ?_⟩⟩
    exact ⟨_, results_tmp rfl _ _ _, by rw [HE.out]; rfl, keep_but h2 ((But.refl (fun b => b = w4.heap.size) W).put rfl _) (fun b hb => by omega)⟩
  case stop => rintro c k W _ h _; exact h.elim
end Go.Proofs.Ytgolhjmbloiakaa
