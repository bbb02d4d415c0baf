/- Gathered texts. -/
import Derived.Test.YtgakfkjjkobpiaaGreatMD
import Derived.Maps.AppendAt
import Derived.RegionTactic
set_option maxRecDepth 100000
set_option maxHeartbeats 8000000
namespace Go.Proofs.YtgakfkjjkobpiaaGreat
open Go.ChangeShapes Go.WideShapes Go.ChangeAt Go.RowKit
def sumN (f : Nat → Nat) : Nat → Nat
  | 0 => 0
  | m + 1 => sumN f m + f m
theorem sum_same {f g : Nat → Nat} : ∀ m : Nat, (∀ c, c < m → f c = g c) → sumN f m = sumN g m
  | 0, _ => rfl
  | m + 1, h => by rw [sumN, sumN, sum_same m (fun c hc => h c (by omega)), h m (by omega)]
theorem sum_less {f g : Nat → Nat} {c : Nat} (h1 : f c + 1 ≤ g c) (h2 : ∀ c', c' ≠ c → f c' = g c') : ∀ m : Nat, c < m → sumN f m + 1 ≤ sumN g m
  | 0, h => by omega
  | m + 1, h => by
    rw [sumN, sumN]
    by_cases e : c = m
    · subst e
      rw [sum_same c (fun c' hc => h2 c' (by omega))]
      omega
    · have := sum_less h1 h2 m (by omega)
      rw [h2 m (fun h => e h.symm)]
      omega
def leftM (dss : List (List Dd)) (b : Bd) (c : Nat) : Nat := 2 * ((dss.getD c []).length - nxN b c) + (b.nts.getD c []).length
def mesM (dss : List (List Dd)) (b : Bd) : Nat := sumN (leftM dss b) dss.length
def LN (dss : List (List Dd)) (b : Bd) : Prop := b.nxt.length = dss.length ∧ b.nts.length = dss.length
theorem getD_setL {α : Type} (l : List α) (z x : α) (i j : Nat) (hi : i < l.length) : (l.set i x).getD j z = if i = j then x else l.getD j z := by
  rw [List.getD_eq_getElem?_getD, List.getElem?_set]
  by_cases e : i = j
  · subst e; rw [if_pos rfl, if_pos hi, if_pos rfl]; rfl
  · rw [if_neg e, if_neg e, List.getD_eq_getElem?_getD]
theorem deed_nts (dss : List (List Dd)) (es : List Ev) (b : Bd) (c k : Nat) : (deedM dss es b c k).nxt = b.nxt ∧ ((deedM dss es b c k).nts = b.nts ∨ ∃ x, (deedM dss es b c k).nts = b.nts.set c (b.nts.getD c [] ++ [x])) := by
  unfold deedM
  split
  · exact ⟨rfl, .inl rfl⟩
  · split
    · exact ⟨rfl, .inl rfl⟩
    · split
      · exact ⟨rfl, .inl rfl⟩
      · split
        · exact ⟨rfl, .inr ⟨_, rfl⟩⟩
        · exact ⟨rfl, .inl rfl⟩
theorem nx_one {dss : List (List Dd)} {es : List Ev} {b : Bd} (hL : LN dss b) (h0 : ∀ c, 0 ≤ b.nxt.getD c 0) {c : Nat} (hc : c < dss.length) : (∀ c', nxN (oneM dss es b c) c' = if c = c' then nxN b c + 1 else nxN b c') ∧ ∀ c', 0 ≤ (oneM dss es b c).nxt.getD c' 0 := by
  have e : ∀ c', (oneM dss es b c).nxt.getD c' 0 = if c = c' then b.nxt.getD c 0 + 1 else b.nxt.getD c' 0 := fun c' => by
    show (b.nxt.set c (b.nxt.getD c 0 + 1)).getD c' 0 = _
    rw [getD_setL _ _ _ _ _ (by rw [hL.1]; exact hc)]
  constructor
  · intro c'
    unfold nxN
    rw [e]
    split
    · have := h0 c; omega
    · rfl
  · intro c'
    rw [e]
    split
    · have := h0 c; omega
    · exact h0 c'
theorem mes_one {dss : List (List Dd)} {es : List Ev} {b : Bd} (hL : LN dss b) (h0 : ∀ c, 0 ≤ b.nxt.getD c 0) {c : Nat} (hc : c < dss.length) (hk : nxN b c < (dss.getD c []).length) : mesM dss (oneM dss es b c) + 1 ≤ mesM dss b ∧ LN dss (oneM dss es b c) ∧ ∀ c', 0 ≤ (oneM dss es b c).nxt.getD c' 0 := by
  obtain ⟨hn, h0'⟩ := nx_one (es := es) hL h0 hc
  obtain ⟨_, hd⟩ := deed_nts dss es b c (nxN b c)
  have hnts : (∀ c', c' ≠ c → (oneM dss es b c).nts.getD c' [] = b.nts.getD c' []) ∧ ((oneM dss es b c).nts.getD c []).length ≤ (b.nts.getD c []).length + 1 ∧ (oneM dss es b c).nts.length = b.nts.length := by
    have e : (oneM dss es b c).nts = (deedM dss es b c (nxN b c)).nts := rfl
    rw [e]
    rcases hd with hd | ⟨x, hd⟩
    · rw [hd]; exact ⟨fun _ _ => rfl, by omega, rfl⟩
    · rw [hd]
      refine ⟨fun c' h => ?_, ?_, by rw [List.length_set]⟩
      · rw [getD_setL _ _ _ _ _ (by rw [hL.2]; exact hc), if_neg (fun h2 => h h2.symm)]
      · rw [getD_setL _ _ _ _ _ (by rw [hL.2]; exact hc), if_pos rfl, List.length_append]; simp
  refine ⟨sum_less (c := c) ?_ (fun c' h => ?_) _ hc, ⟨?_, ?_⟩, h0'⟩
  · unfold leftM
    rw [hn, if_pos rfl]
    have := hnts.2.1
    omega
  · unfold leftM
    rw [hn, if_neg (fun h2 => h h2.symm), hnts.1 c' h]
  · show (b.nxt.set c _).length = _
    rw [List.length_set]; exact hL.1
  · rw [hnts.2.2]; exact hL.2
theorem mes_go {dss : List (List Dd)} {es : List Ev} (g : Int) {c : Nat} (hc : c < dss.length) : ∀ (m : Nat) (b : Bd), LN dss b → (∀ c, 0 ≤ b.nxt.getD c 0) → 1 ≤ m → nxN b c < (dss.getD c []).length → (dss.getD c []).length ≤ nxN b c + m →
    mesM dss (goM dss es g c m b) + 1 ≤ mesM dss b ∧ LN dss (goM dss es g c m b) ∧ ∀ c', 0 ≤ (goM dss es g c m b).nxt.getD c' 0
  | 0, _, _, _, h, _, _ => by omega
  | m + 1, b, hL, h0, _, hk, hm => by
    have h1 := mes_one (es := es) hL h0 hc hk
    have hn := (nx_one (es := es) hL h0 hc).1 c
    rw [if_pos rfl] at hn
    rw [goM]
    split
    · exact h1
    · rename_i hs
      have hs1 : ¬ nxN (oneM dss es b c) c = (dss.getD c []).length := fun h => hs (.inr (.inl h))
      have h2 := mes_go (es := es) g hc m (oneM dss es b c) h1.2.1 h1.2.2 (by omega) (by omega) (by omega)
      exact ⟨by omega, h2.2⟩
theorem mes_flush {dss : List (List Dd)} {b : Bd} (hL : LN dss b) (h0 : ∀ c, 0 ≤ b.nxt.getD c 0) {c : Nat} (hc : c < dss.length) (hne : b.nts.getD c [] ≠ []) : mesM dss (flushM b c) + 1 ≤ mesM dss b ∧ LN dss (flushM b c) ∧ ∀ c', 0 ≤ (flushM b c).nxt.getD c' 0 := by
  unfold flushM
  cases hq : b.nts.getD c [] with
  | nil => exact absurd hq hne
  | cons x r =>
    have e : ∀ c', (b.nts.set c r).getD c' [] = if c = c' then r else b.nts.getD c' [] := fun c' => getD_setL _ _ _ _ _ (by rw [hL.2]; exact hc)
    refine ⟨sum_less (c := c) ?_ (fun c' h => ?_) _ hc, ⟨hL.1, ?_⟩, h0⟩
    · show 2 * ((dss.getD c []).length - nxN b c) + ((b.nts.set c r).getD c []).length + 1 ≤ 2 * ((dss.getD c []).length - nxN b c) + (b.nts.getD c []).length
      rw [e, if_pos rfl, hq]
      simp only [List.length_cons]
      omega
    · show 2 * ((dss.getD c' []).length - nxN b c') + ((b.nts.set c r).getD c' []).length = 2 * ((dss.getD c' []).length - nxN b c') + (b.nts.getD c' []).length
      rw [e, if_neg (fun h2 => h h2.symm)]
    · show (b.nts.set c r).length = _
      rw [List.length_set]; exact hL.2
theorem mes_step {dss : List (List Dd)} (hb : workB dss = true) {es : List Ev} {b : Bd} (hL : LN dss b) (h0 : ∀ c, 0 ≤ b.nxt.getD c 0) {s : Int} (hs : isB (possM dss b) s = true) : mesM dss (stepM dss es b s) + 1 ≤ mesM dss b ∧ LN dss (stepM dss es b s) ∧ ∀ c', 0 ≤ (stepM dss es b s).nxt.getD c' 0 := by
  have hl3 : dss.length ≤ 3 := by
    simp only [workB, Bool.and_eq_true, decide_eq_true_eq] at hb
    exact hb.1.1.1.1.2
  have hm := isB_mem hs
  unfold possM at hm
  rw [List.mem_append, List.mem_map, List.mem_map] at hm
  rcases hm with ⟨c, hc, e⟩ | ⟨c, hc, e⟩
  · rw [List.mem_filter, List.mem_range] at hc
    obtain ⟨hc, hcan⟩ := hc
    unfold canM at hcan
    simp only [Bool.and_eq_true, decide_eq_true_eq] at hcan
    unfold stepM
    rw [if_neg (by omega), show s.toNat = c by omega]
    exact mes_go _ hc _ b hL h0 (by omega) hcan.1 (by omega)
  · rw [List.mem_filter, List.mem_range] at hc
    obtain ⟨hc, hne⟩ := hc
    unfold stepM
    rw [if_pos (by omega), show (s - 10).toNat = c by omega]
    refine mes_flush hL h0 hc (fun h => ?_)
    rw [h] at hne
    simp at hne
theorem sum_len (dss : List (List Dd)) : sumN (fun c => (dss.getD c []).length) dss.length = lenW dss := by
  have h : ∀ (l : List (List Dd)) (m : Nat), m ≤ l.length → sumN (fun c => (l.getD c []).length) m = lenW (l.take m) := by
    intro l m
    induction m with
    | zero => intro _; simp [sumN, lenW]
    | succ m ih =>
      intro hm
      rw [sumN, ih (by omega), List.take_add_one, List.getElem?_eq_getElem (by omega), List.getD_eq_getElem?_getD, List.getElem?_eq_getElem (by omega)]
      simp only [Option.toList_some, Option.getD_some]
      have : ∀ (x : List (List Dd)) (d : List Dd), lenW (x ++ [d]) = lenW x + d.length := by
        intro x d
        induction x with
        | nil => simp [lenW]
        | cons y x ih => rw [List.cons_append, lenW, ih, lenW]; omega
      rw [this]
  have := h dss dss.length (Nat.le_refl _)
  rw [List.take_length] at this
  exact this
theorem mes_new {dss : List (List Dd)} (hb : workB dss = true) : mesM dss (newM dss) ≤ 24 ∧ LN dss (newM dss) ∧ ∀ c', 0 ≤ (newM dss).nxt.getD c' 0 := by
  have h12 : lenW dss ≤ 12 := by
    simp only [workB, Bool.and_eq_true, decide_eq_true_eq] at hb
    exact hb.1.1.2
  have h0 : ∀ c', (newM dss).nxt.getD c' 0 = 0 := fun c' => by
    show (List.replicate dss.length (0 : Int)).getD c' 0 = 0
    rw [List.getD_eq_getElem?_getD, List.getElem?_replicate]
    split <;> rfl
  refine ⟨?_, ⟨by show (List.replicate _ _).length = _; simp, by show (List.replicate _ _).length = _; simp⟩, fun c' => by rw [h0]; omega⟩
  have e : ∀ m : Nat, sumN (leftM dss (newM dss)) m = 2 * sumN (fun c => (dss.getD c []).length) m := by
    intro m
    induction m with
    | zero => rfl
    | succ m ih =>
      rw [sumN, sumN, ih]
      have : leftM dss (newM dss) m = 2 * (dss.getD m []).length := by
        unfold leftM nxN
        rw [h0]
        have : (newM dss).nts.getD m [] = [] := by
          show (List.replicate dss.length ([] : List Nt)).getD m [] = []
          rw [List.getD_eq_getElem?_getD, List.getElem?_replicate]
          split <;> rfl
        rw [this]
        simp
      rw [this]
      omega
  unfold mesM
  rw [e, sum_len]
  omega
theorem ev_vals {dss : List (List Dd)} (hb : workB dss = true) {j : Nat} (hj : j < (eventsB dss).length) : (0 ≤ vlN dss j ∧ vlN dss j ≤ 9) ∧ 0 ≤ plN dss j ∧ plN dss j ≤ 2 := by
  by_cases h3 : j < 3
  · have e := (evs_good (dss := dss) (by simp only [workB, Bool.and_eq_true, decide_eq_true_eq] at hb; intro i hi; have := List.all_eq_true.1 hb.1.1.1.2 _ (List.getElem_mem hi); rw [List.getD_eq_getElem?_getD, List.getElem?_eq_getElem hi]; exact this) dss.length (Nat.le_refl _)).1
    obtain ⟨t, ht⟩ := e
    have e1 : eventsB dss = evBeg ++ t := by rw [eventsB, if_pos hb, ht]
    unfold vlN plN
    rw [e1, List.getD_eq_getElem?_getD, List.getElem?_append_left (by simp [evBeg]; omega)]
    have : j = 0 ∨ j = 1 ∨ j = 2 := by omega
    rcases this with rfl | rfl | rfl <;> simp [evBeg]
  · obtain ⟨c, k, i, E⟩ := ev_dec hb (by omega) hj
    have hd := okC_of hb E.hc k E.hk
    unfold vlN plN
    rw [E.at hb]
    simp only
    unfold vlI
    have hd' := hd
    unfold dAt at hd' ⊢
    simp only [okD, deedB, decide_eq_true_eq] at hd'
    split <;> omega
theorem ev_nine (dss : List (List Dd)) : (eventsB dss).length ≤ 9 := by
  unfold eventsB
  split
  · rename_i h
    simp only [workB, Bool.and_eq_true, decide_eq_true_eq] at h
    obtain ⟨⟨⟨⟨_, h2⟩, _⟩, h4⟩, _⟩ := h
    have := evsW_len (fun i hi => all_get [] h2 i hi) dss.length (Nat.le_refl _)
    omega
  · simp
theorem nodup_len {lo n : Nat} : ∀ {l : List Nat}, l.Nodup → (∀ x ∈ l, lo ≤ x ∧ x < n) → l.length ≤ n - lo := fun {l} hn h => by
  have hs : ∀ x ∈ l, x ∈ List.range' lo (n - lo) := fun x hx => by
    have := h x hx
    rw [List.mem_range'_1]; omega
  have : l.length ≤ (List.range' lo (n - lo)).length := by
    clear h
    generalize List.range' lo (n - lo) = r at hs
    induction l generalizing r with
    | nil => simp
    | cons x t ih =>
      rw [List.nodup_cons] at hn
      have hx := hs x (by simp)
      have := ih hn.2 (r.erase x) (fun y hy => (List.mem_erase_of_ne (fun e => hn.1 (by rw [← e]; exact hy))).2 (hs y (by simp [hy])))
      rw [List.length_erase_of_mem hx] at this
      have : 0 < r.length := List.length_pos_of_mem hx
      simp only [List.length_cons]
      omega
  simpa using this
theorem allB_map {α : Type} (l : List α) (f : α → Int) {lo hi : Int} {most : Nat} (h : ∀ x ∈ l, lo ≤ f x ∧ f x ≤ hi) (hm : l.length ≤ most) : allB (l.map f) lo hi most = true := by
  unfold allB
  rw [Bool.and_eq_true, List.all_eq_true, decide_eq_true_eq, List.length_map]
  refine ⟨fun y hy => ?_, hm⟩
  obtain ⟨x, hx, rfl⟩ := List.mem_map.1 hy
  have := h x hx
  simp [this]
theorem mi_board {dss : List (List Dd)} (hb : workB dss = true) {b : Bd} {a : Ab} {τ : Nat → Nat} {T : Nat} {z : Int} (M : MI dss b a τ T z) : boardB dss b = true := by
  have h9 := ev_nine dss
  have R := M.rep
  have I := M.inv
  have hlen3 : 3 ≤ (eventsB dss).length := by
    have := I.lt 2 (I.beg 2 (by omega)).1
    exact this
  have rowlt : ∀ p x, x ∈ a.R p → x < (eventsB dss).length := fun p x hx => I.lt x ((I.rows p x).1 hx).1.1
  have notelt : ∀ c x, x ∈ a.N c → 3 ≤ x ∧ x < (eventsB dss).length := fun c x hx => by
    have hx' : x ∈ (stA dss a τ).N (c : Int) := by rw [st_N]; exact hx
    have := I.note (c : Int) x hx'
    exact ⟨this.2.1, I.lt x this.1⟩
  have hlast : ∀ p, p < 3 → lastA a p < (eventsB dss).length := fun p hp => by
    unfold lastA
    cases hl : (a.R p).getLast? with
    | none => show p < _; omega
    | some x => exact rowlt p x (List.mem_of_getLast? hl)
  have hF : ∀ r, r < (eventsB dss).length → ((eventsB dss).getD r zE).2.2.1 = true → exA dss a r = true → a.F r < (eventsB dss).length := fun r h1 h2 h3 => I.lt _ (I.src r ⟨h1, h3⟩ h2).1
  have hx12 : (eventsB dss).length ≤ 12 := by omega
  have rl : (idxB rdE (eventsB dss)).length ≤ 12 := by
    unfold idxB
    rw [if_pos hx12]
    have := idxK_len rdE (eventsB dss) (eventsB dss).length
    omega
  have rdin : ∀ r ∈ idxB rdE (eventsB dss), (0 ≤ r ∧ r < ((eventsB dss).length : Int)) ∧ ((eventsB dss).getD r.toNat zE).2.2.1 = true := fun r hr => by
    unfold idxB at hr
    rw [if_pos hx12] at hr
    exact ⟨idxK_lt _ _ _ _ hr, idxK_mem _ _ _ _ hr⟩
  unfold boardB
  rw [Bool.and_eq_true, Bool.and_eq_true, Bool.and_eq_true]
  refine ⟨?_, ?_, ?_, ?_⟩
  · unfold shapeB
    rw [hb, R.plc, R.lst, R.rws, R.nts, R.nxt]
    simp
  · unfold fillB
    rw [R.sn, R.fr, R.plc, R.lst, List.length_map, List.length_map]
    simp only [decide_true, Bool.true_and, Bool.and_eq_true]
    refine ⟨allB_map _ _ (fun p hp => (ev_vals hb (hlast p (List.mem_range.1 hp))).1) (by simp), allB_map _ _ (fun p hp => by have := hlast p (List.mem_range.1 hp); omega) (by simp), allB_map _ _ (fun r hr => ?_) rl, allB_map _ _ (fun r hr => ?_) rl⟩
    · obtain ⟨h1, h2⟩ := rdin r hr
      by_cases hE : exA dss a r.toNat = true
      · rw [if_pos hE]
        have := (ev_vals hb (hF r.toNat (by omega) h2 hE)).1
        omega
      · rw [if_neg hE]; omega
    · obtain ⟨h1, h2⟩ := rdin r hr
      by_cases hE : exA dss a r.toNat = true
      · rw [if_pos hE]
        have := hF r.toNat (by omega) h2 hE
        omega
      · rw [if_neg hE]; omega
  · unfold rowsBd
    rw [List.all_eq_true]
    intro p hp
    rw [R.rws, map_at _ _ (List.mem_range.1 hp)]
    refine allB_map _ _ (fun x hx => by have := rowlt p x hx; exact ⟨Int.natCast_nonneg _, by show (x : Int) ≤ _; omega⟩) ?_
    have := nodup_len (lo := 0) (I.rnod p) (fun x hx => ⟨Nat.zero_le _, rowlt p x hx⟩)
    have e : (stA dss a τ).R p = a.R p := rfl
    rw [e] at this
    omega
  · rw [List.all_eq_true]
    intro c hc
    have hc := List.mem_range.1 hc
    unfold ckB
    rw [(nx_at R hc).1, R.nts, map_at _ _ hc, List.length_map]
    have h1 := M.nxl c hc
    have hnd : (a.N c).Nodup := by
      have := I.nord (c : Int)
      rw [st_N] at this
      exact this.imp (fun h => Nat.ne_of_lt h)
    have h2 := nodup_len hnd (notelt c)
    simp only [Bool.and_eq_true, decide_eq_true_eq]
    refine ⟨⟨by omega, by omega⟩, by omega, ?_⟩
    unfold ntsB
    rw [List.all_eq_true]
    intro y hy
    obtain ⟨x, hx, rfl⟩ := List.mem_map.1 hy
    have hn := notelt c x hx
    have := ev_vals hb hn.2
    unfold ntB ntE
    simp only [Bool.and_eq_true, decide_eq_true_eq]
    omega
theorem run_app (dss : List (List Dd)) (es : List Ev) : ∀ (l r : List Int) (b : Bd), runM dss es b (l ++ r) = runM dss es (runM dss es b l) r
  | [], r, b => rfl
  | s :: l, r, b => by rw [List.cons_append, runM, runM]; exact run_app dss es l r _
def Run (dss : List (List Dd)) (b : Bd) : Prop := ∃ a τ T z, MI dss b a τ T z ∧ BD dss a
theorem Run.new {dss : List (List Dd)} (hb : workB dss = true) : Run dss (newM dss) := ⟨_, _, _, _, new_sim hb⟩
theorem Run.step {dss : List (List Dd)} (hb : workB dss = true) {b : Bd} (h : Run dss b) {s : Int} (hs : isB (possM dss b) s = true) : Run dss (stepM dss (eventsB dss) b s) := by
  obtain ⟨a, τ, T, z, M, B⟩ := h
  obtain ⟨a', τ', z', M', B'⟩ := step_sim hb M B hs
  exact ⟨a', τ', _, z', M', B'⟩
theorem Run.board {dss : List (List Dd)} (hb : workB dss = true) {b : Bd} (h : Run dss b) : boardB dss b = true := by
  obtain ⟨a, τ, T, z, M, _⟩ := h
  exact mi_board hb M
def lenG {α : Type} : List (List α) → Nat
  | [] => 0
  | d :: r => d.length + lenG r
theorem lenG_app {α : Type} : ∀ (l r : List (List α)), lenG (l ++ r) = lenG l + lenG r
  | [], r => by simp [lenG]
  | d :: l, r => by rw [List.cons_append, lenG, lenG, lenG_app l r]; omega
theorem lenG_take {α : Type} (dss : List (List α)) (k : Nat) (h : k < dss.length) : lenG (dss.take (k + 1)) = lenG (dss.take k) + (dss.getD k []).length := by
  rw [List.take_add_one, List.getElem?_eq_getElem h, lenG_app, List.getD_eq_getElem?_getD, List.getElem?_eq_getElem h]
  simp [lenG]
def SumBd (dss : List (List Dd)) (b : Bd) : Prop := lenW dss ≤ 1048576 ∧ lenG b.nts ≤ 1048576 ∧ lenG b.rws ≤ 1048576
theorem rd_cells {w : World} {b off : Nat} {zs : List Int} (hc : ∀ i, i < zs.length → w.cell? ⟨b, off + i, none⟩ = some (.int .i64 (zs.getD i 0))) :
    ∀ j u, (zs.map (Value.int .i64))[j]? = some u → w.cell? ((⟨b, off, none⟩ : Addr).add j) = some u := by
  intro j u hj
  rw [List.getElem?_map] at hj
  have hjl : j < zs.length := by
    apply Classical.byContradiction
    intro hno
    rw [List.getElem?_eq_none (by omega)] at hj
    cases hj
  have e1 : (⟨b, off, none⟩ : Addr).add j = ⟨b, off + j, none⟩ := by unfold Addr.add; split <;> simp_all
  rw [e1, hc j hjl, List.getD_eq_getElem?_getD]
  rw [List.getElem?_eq_getElem hjl] at hj ⊢
  simpa using hj
theorem ints_one (zs : List Int) : ∀ u ∈ zs.map (Value.int .i64), u.oneCell' = true := by
  intro u hu
  obtain ⟨y, _, rfl⟩ := List.mem_map.1 hu
  rfl
theorem step_append_at {P : Program} {w : World} {ops : Array Oper} {o : Oper} {a : Act} {K : Act → World → Prop} {Q : Exit → Act → World → Prop} {E : Prop} (hgd : o.guard = none) (s x : Operand) (t : TypeId)
    (ho : o.op = .call { callee := .builtin .append, args := #[s, x], argTypes := #[t, t] })
    (base : Nat) (e : TypeId) (i : TypeInfo) (z : Value) (size bytes : Nat) (ht : P.underlying t = some (.slice e)) (hi : P.info? e = some i) (hz : i.zero = some z)
    (hsize : i.size = size) (hby : i.bytes = bytes) (hzs : z.cells.size = size) (hsz : 0 < size)
    (v : Value) (n : Nat) (xs : List Value) (hs : a.eval s = v) (hown : w.ownsRow base e size v n xs)
    (ad : Addr) (m c : Nat) (news : List Value) (hx : a.eval x = .slice (some ad) m c) (hl : news.length = m * size) (hnews : ∀ j u, news[j]? = some u → w.cell? (ad.add j) = some u) (h1 : ∀ u ∈ news, u.oneCell' = true)
    (h63 : n + m ≤ maxLen) (hbytes : (n + m) * bytes ≤ 140737488355328) (hbase : base ≤ w.heap.size)
    (h : ∀ v' w', w'.ownsRow base e size v' (n + m) (xs ++ news) → w.grownBy w' v.ownBlock → (v'.ownBlock = v.ownBlock ∨ v'.ownBlock = some w.heap.size) → K (a.put o.dst v') w') :
    if Region.wanted o (yielded ops a.tmps) = true then Oper.wp P o a w K Q else E := by
  have hw : Region.wanted o (yielded ops a.tmps) = true := by simp [Region.wanted, hgd]
  rw [if_pos hw]
  obtain ⟨v', w', hr, h2, h3, h4, h5⟩ := run_append_own_at (P := P) w base t o.type e i z size bytes ht hi hz hsize hby hzs hsz v n xs hown ad m c news hl hnews h1 h63 hbytes hbase
  unfold Oper.wp execOp
  simp only [ho, resolve, invoke, builtin, Sem.run_bind, Sem.run_pure, Result.andThen_ok, List.map_toArray, List.map_cons, List.map_nil, hs, hx, hr]
  exact h v' w' h2 h3 h5
theorem Own.lit {w : World} {base : Nat} {v : Value} {zs : List Int} (h : Own w base v zs) {k : Nat} (hk : k < zs.length) : ∃ g cap, v = .slice (some ⟨g, 0, none⟩) zs.length cap ∧ g < w.heap.size ∧ (∀ i, i < zs.length → w.cell? ⟨g, i, none⟩ = some (.int .i64 (zs.getD i 0))) ∧ ∀ i, w.frozen? ⟨g, i, none⟩ = false := by
  have h' := h
  have hlt := World.ownsRow.lt h
  rcases h.2 with ⟨_, hn⟩ | ⟨g, cap, cur, rfl, _⟩
  · omega
  · refine ⟨g, cap, rfl, (hlt g rfl).2, fun i hi => ?_, fun i => World.ownsRow.frozenAt h' i⟩
    rw [World.ownsRow.cellAt h' i (by simpa using hi), List.getElem?_map, List.getElem?_eq_getElem hi, List.getD_eq_getElem?_getD, List.getElem?_eq_getElem hi]
    rfl
def evT (es : List Ev) (c k i : Nat) : Bool := ((es.getD i zE).1 == (c : Int)) && ((es.getD i zE).2.1 == (k : Int))
theorem evM_hit {es : List Ev} {c k i : Nat} (h3 : 3 ≤ i) (hi : i < es.length) (hn : ∀ j, 3 ≤ j → j < i → evT es c k j = false) (h : evT es c k i = true) : evM es c k = (i : Int) := by
  unfold evM
  have e : (List.range es.length).find? (fun i => decide (3 ≤ i) && ((es.getD i zE).1 == (c : Int)) && ((es.getD i zE).2.1 == (k : Int))) = some i := by
    rw [List.find?_eq_some_iff_getElem]
    refine ⟨?_, i, by simpa using hi, by simp, fun j hj => ?_⟩
    · unfold evT at h
      rw [Bool.and_assoc, h]; simp [h3]
    · simp only [List.getElem_range]
      by_cases h3 : 3 ≤ j
      · have := hn j h3 hj
        unfold evT at this
        rw [Bool.and_assoc, this]; simp
      · simp [h3]
  rw [e]
theorem evM_none {es : List Ev} {c k : Nat} (hn : ∀ j, 3 ≤ j → j < es.length → evT es c k j = false) : evM es c k = -1 := by
  unfold evM
  have e : (List.range es.length).find? (fun i => decide (3 ≤ i) && ((es.getD i zE).1 == (c : Int)) && ((es.getD i zE).2.1 == (k : Int))) = none := by
    rw [List.find?_eq_none]
    intro j hj
    by_cases h3 : 3 ≤ j
    · have := hn j h3 (List.mem_range.1 hj)
      unfold evT at this
      rw [Bool.and_assoc, this]; simp
    · simp [h3]
  rw [e]
theorem evM_in (es : List Ev) (c k : Nat) (h : es.length ≤ 12) : -1 ≤ evM es c k ∧ evM es c k ≤ 12 := by
  unfold evM
  split
  · rename_i i e
    have := List.mem_range.1 (List.mem_of_find?_eq_some e)
    omega
  · omega
def setK (rs : List Int) (ev v : Int) (l : List Int) : Nat → List Int
  | 0 => l
  | k + 1 => if decide (rs.getD k 0 = ev) = true then (setK rs ev v l k).set k v else setK rs ev v l k
theorem setK_len (rs : List Int) (ev v : Int) (l : List Int) : ∀ k : Nat, (setK rs ev v l k).length = l.length
  | 0 => rfl
  | k + 1 => by rw [setK]; split <;> simp [setK_len rs ev v l k]
theorem setK_get {rs : List Int} {ev v : Int} {l : List Int} : ∀ (k j : Nat), j < l.length → (setK rs ev v l k)[j]? = if j < k ∧ rs.getD j 0 = ev then some v else l[j]?
  | 0, j, h => by simp [setK]
  | k + 1, j, h => by
    have ih := setK_get (rs := rs) (ev := ev) (v := v) k j h
    rw [setK]
    by_cases e : rs.getD k 0 = ev
    · rw [if_pos (decide_eq_true e), List.getElem?_set, setK_len]
      by_cases ej : k = j
      · subst ej
        rw [if_pos rfl, if_pos h, if_pos ⟨by omega, e⟩]
      · rw [if_neg ej, ih]
        by_cases h1 : j < k ∧ rs.getD j 0 = ev
        · rw [if_pos h1, if_pos ⟨by omega, h1.2⟩]
        · rw [if_neg h1, if_neg (fun h2 => h1 ⟨by omega, h2.2⟩)]
    · rw [if_neg (by simpa using e), ih]
      by_cases h1 : j < k ∧ rs.getD j 0 = ev
      · rw [if_pos h1, if_pos ⟨by omega, h1.2⟩]
      · rw [if_neg h1, if_neg (fun h2 => ?_)]
        by_cases ej : j = k
        · subst ej; exact e h2.2
        · exact h1 ⟨by omega, h2.2⟩
theorem setK_same {rs : List Int} {ev v : Int} {l : List Int} (h : l.length = rs.length) : setK rs ev v l rs.length = setR rs ev v l := by
  apply List.ext_getElem?
  intro j
  unfold setR
  by_cases hj : j < l.length
  · rw [setK_get _ _ hj, List.getElem?_zipWith]
    rw [List.getElem?_eq_getElem hj, List.getElem?_eq_getElem (show j < rs.length by omega)]
    have e : rs.getD j 0 = rs[j]'(by omega) := by rw [List.getD_eq_getElem?_getD, List.getElem?_eq_getElem (show j < rs.length by omega)]; rfl
    simp only [e]
    by_cases h1 : rs[j]'(by omega) = ev
    · rw [if_pos ⟨by omega, h1⟩]; simp [h1]
    · rw [if_neg (fun h2 => h1 h2.2)]; simp [h1]
  · rw [List.getElem?_eq_none (by rw [setK_len]; omega), List.getElem?_eq_none (by rw [List.length_zipWith]; omega)]
def canK (dss : List (List Dd)) (b : Bd) (k : Nat) : List Int := ((List.range k).filter (canM dss b)).map (fun c : Nat => (c : Int))
theorem canK_hit {dss : List (List Dd)} {b : Bd} {k : Nat} (h : canM dss b k = true) : canK dss b (k + 1) = canK dss b k ++ [(k : Int)] := by
  unfold canK
  rw [List.range_succ, List.filter_append, List.map_append]
  simp [h]
theorem canK_miss {dss : List (List Dd)} {b : Bd} {k : Nat} (h : canM dss b k = false) : canK dss b (k + 1) = canK dss b k := by
  unfold canK
  rw [List.range_succ, List.filter_append, List.map_append]
  simp [h]
def ntK (b : Bd) (k : Nat) : List Int := ((List.range k).filter (fun c => !(b.nts.getD c []).isEmpty)).map (fun c : Nat => 10 + (c : Int))
theorem ntK_hit {b : Bd} {k : Nat} (h : 0 < (b.nts.getD k []).length) : ntK b (k + 1) = ntK b k ++ [10 + (k : Int)] := by
  have : (b.nts.getD k []).isEmpty = false := by
    cases e : b.nts.getD k [] with
    | nil => rw [e] at h; simp at h
    | cons x l => rfl
  unfold ntK
  rw [List.range_succ, List.filter_append, List.map_append]
  simp only [List.filter_cons, this, Bool.not_false, if_true, List.filter_nil, List.map_cons, List.map_nil]
theorem ntK_miss {b : Bd} {k : Nat} (h : ¬ 0 < (b.nts.getD k []).length) : ntK b (k + 1) = ntK b k := by
  have : (b.nts.getD k []).isEmpty = true := by
    cases e : b.nts.getD k [] with
    | nil => rfl
    | cons x l => rw [e] at h; simp at h
  unfold ntK
  rw [List.range_succ, List.filter_append, List.map_append]
  simp only [List.filter_cons, this, Bool.not_true, Bool.false_eq_true, if_false, List.filter_nil, List.map_nil, List.append_nil]
theorem poss_same (dss : List (List Dd)) (b : Bd) : canK dss b dss.length ++ ntK b dss.length = possM dss b := rfl
theorem canK_len (dss : List (List Dd)) (b : Bd) (k : Nat) : (canK dss b k).length ≤ k := by
  unfold canK
  rw [List.length_map]
  exact Nat.le_trans (List.length_filter_le _ _) (by simp)
theorem ntK_len (b : Bd) (k : Nat) : (ntK b k).length ≤ k := by
  unfold ntK
  rw [List.length_map]
  exact Nat.le_trans (List.length_filter_le _ _) (by simp)
structure Shp (dss : List (List Dd)) (b : Bd) (n : Nat) : Prop where
  work : workB dss = true
  plc : b.plc.length = 3
  lst : b.lst.length = 3
  rws : b.rws.length = 3
  nts : b.nts.length = dss.length
  nxt : b.nxt.length = dss.length
  sn : b.sn.length = (idxB rdE (eventsB dss)).length
  fr : b.fr.length = (idxB rdE (eventsB dss)).length
  rl : ∀ p, (b.rws.getD p []).length ≤ n
  nl : ∀ c, (b.nts.getD c []).length ≤ n
theorem Shp.mono {dss : List (List Dd)} {b : Bd} {n m : Nat} (h : Shp dss b n) (hm : n ≤ m) : Shp dss b m :=
  ⟨h.work, h.plc, h.lst, h.rws, h.nts, h.nxt, h.sn, h.fr, fun p => Nat.le_trans (h.rl p) hm, fun c => Nat.le_trans (h.nl c) hm⟩
theorem set_len_le {α : Type} {l : List (List α)} {n : Nat} (h : ∀ i, (l.getD i []).length ≤ n) (k : Nat) (z : List α) (hz : z.length ≤ n) : ∀ i, ((l.set k z).getD i []).length ≤ n := fun i => by
  rw [List.getD_eq_getElem?_getD, List.getElem?_set]
  by_cases e : k = i
  · rw [if_pos e]
    by_cases hk : k < l.length
    · rw [if_pos hk]; exact hz
    · rw [if_neg hk]; simp
  · rw [if_neg e, ← List.getD_eq_getElem?_getD]; exact h i
theorem setR_len {rs : List Int} {ev v : Int} {l : List Int} (h : l.length = rs.length) : (setR rs ev v l).length = rs.length := by unfold setR; rw [List.length_zipWith]; omega
theorem Shp.see {dss : List (List Dd)} {b : Bd} {n : Nat} (h : Shp dss b n) (ev v f : Int) : Shp dss (seeM (idxB rdE (eventsB dss)) b ev v f) n :=
  ⟨h.work, h.plc, h.lst, h.rws, h.nts, h.nxt, setR_len h.sn, setR_len h.fr, h.rl, h.nl⟩
theorem Shp.ink {dss : List (List Dd)} {b : Bd} {n : Nat} (h : Shp dss b n) (p : Nat) (v ev : Int) : Shp dss (inkM b p v ev) (n + 1) :=
  ⟨h.work, by simp [inkM, h.plc], by simp [inkM, h.lst], by simp [inkM, h.rws], h.nts, h.nxt, h.sn, h.fr,
    set_len_le (fun i => Nat.le_succ_of_le (h.rl i)) p _ (by have := h.rl p; rw [List.length_append, List.length_singleton]; omega), fun c => Nat.le_succ_of_le (h.nl c)⟩
theorem Shp.note {dss : List (List Dd)} {b : Bd} {n : Nat} (h : Shp dss b n) (c : Nat) (x : Nt) : Shp dss { b with nts := b.nts.set c (b.nts.getD c [] ++ [x]) } (n + 1) :=
  ⟨h.work, h.plc, h.lst, h.rws, by simp [h.nts], h.nxt, h.sn, h.fr, fun p => Nat.le_succ_of_le (h.rl p),
    set_len_le (fun i => Nat.le_succ_of_le (h.nl i)) c _ (by have := h.nl c; rw [List.length_append, List.length_singleton]; omega)⟩
theorem Shp.less {dss : List (List Dd)} {b : Bd} {n : Nat} (h : Shp dss b n) (c : Nat) (l : List Nt) (hl : l.length ≤ n) : Shp dss { b with nts := b.nts.set c l } n :=
  ⟨h.work, h.plc, h.lst, h.rws, by simp [h.nts], h.nxt, h.sn, h.fr, h.rl, set_len_le h.nl c _ hl⟩
theorem Shp.deed {dss : List (List Dd)} {b : Bd} {n : Nat} (h : Shp dss b n) (c k : Nat) : Shp dss (deedM dss (eventsB dss) b c k) (n + 1) := by
  unfold deedM
  split
  · exact (h.see _ _ _).mono (Nat.le_succ n)
  · split
    · exact (h.see _ _ _).ink _ _ _
    · split
      · exact h.ink _ _ _
      · split
        · exact h.note c _
        · exact h.mono (Nat.le_succ n)
theorem Shp.next {dss : List (List Dd)} {b : Bd} {n : Nat} (h : Shp dss b n) (c : Nat) (x : Int) : Shp dss { b with nxt := b.nxt.set c x } n :=
  ⟨h.work, h.plc, h.lst, h.rws, h.nts, by simp [h.nxt], h.sn, h.fr, h.rl, h.nl⟩
theorem deed_nxt (dss : List (List Dd)) (es : List Ev) (b : Bd) (c k : Nat) : (deedM dss es b c k).nxt = b.nxt := by
  unfold deedM
  split
  · rfl
  · split
    · rfl
    · split
      · rfl
      · split <;> rfl
theorem Shp.one {dss : List (List Dd)} {b : Bd} {n : Nat} (h : Shp dss b n) (c : Nat) : Shp dss (oneM dss (eventsB dss) b c) (n + 1) := by
  have := (h.deed c (nxN b c)).next c (b.nxt.getD c 0 + 1)
  rw [deed_nxt] at this
  exact this
theorem Shp.of {dss : List (List Dd)} {b : Bd} (h : boardB dss b = true) : Shp dss b 20 := by
  simp only [boardB, shapeB, fillB, rowsBd, Bool.and_eq_true, decide_eq_true_eq] at h
  obtain ⟨⟨hw, h1, h2, h3, h4, h5⟩, ⟨h6, h7, -⟩, h8, h9⟩ := h
  refine ⟨hw, h1, h2, h3, h4, h5, h6, h7, fun p => ?_, fun c => ?_⟩
  · by_cases hp : p < 3
    · have := List.all_eq_true.1 h8 p (List.mem_range.2 hp)
      simp only [allB, Bool.and_eq_true, decide_eq_true_eq] at this
      exact this.2
    · rw [List.getD_eq_getElem?_getD, List.getElem?_eq_none (by omega)]; simp
  · by_cases hc : c < dss.length
    · have := List.all_eq_true.1 h9 c (List.mem_range.2 hc)
      simp only [ckB, Bool.and_eq_true, decide_eq_true_eq] at this
      omega
    · rw [List.getD_eq_getElem?_getD, List.getElem?_eq_none (by omega)]; simp
theorem board_clerk {dss : List (List Dd)} {b : Bd} (h : boardB dss b = true) {c : Nat} (hc : c < dss.length) : 0 ≤ b.nxt.getD c 0 ∧ b.nxt.getD c 0 ≤ ((dss.getD c []).length : Int) := by
  simp only [boardB, Bool.and_eq_true] at h
  have := List.all_eq_true.1 h.2.2.2 c (List.mem_range.2 hc)
  simp only [ckB, Bool.and_eq_true, decide_eq_true_eq] at this
  exact this.1
def RdS (w : World) (v : Value) (ws : List (List UInt8)) : Prop :=
  ∃ (a : Option Addr) (cap : Nat), v = .slice a ws.length cap ∧
    (ws = [] ∨ ∃ b off, a = some ⟨b, off, none⟩ ∧ b < w.heap.size ∧ ∀ i, i < ws.length → w.cell? ⟨b, off + i, none⟩ = some (strV (ws.getD i [])))
theorem RdS.keep {w w' : World} {v : Value} {ws : List (List UInt8)} (h : RdS w v ws) (k : Keep w w') : RdS w' v ws := by
  obtain ⟨a, cap, hv, h⟩ := h
  refine ⟨a, cap, hv, ?_⟩
  rcases h with h | ⟨b, off, ha, hb, hc⟩
  · exact .inl h
  · exact .inr ⟨b, off, ha, Nat.lt_of_lt_of_le hb k.size, fun i hi => (k.cell hb).trans (hc i hi)⟩
def OwnS (w : World) (base : Nat) (v : Value) (ws : List (List UInt8)) : Prop := w.ownsRow base 9 1 v ws.length (ws.map strV)
theorem OwnS.keep {w w' : World} {base : Nat} {v : Value} {ws : List (List UInt8)} (h : OwnS w base v ws) (k : Keep w w') : OwnS w' base v ws :=
  World.ownsRow.kept h k.grownBy (by cases v.ownBlock <;> simp)
theorem OwnS.rd {w : World} {base : Nat} {v : Value} {ws : List (List UInt8)} (h : OwnS w base v ws) : RdS w v ws := by
  have hlt := World.ownsRow.lt h
  rcases h.2 with ⟨rfl, hn⟩ | ⟨g, cap, cur, rfl, hb, hg, rest⟩
  · have : ws = [] := List.eq_nil_of_length_eq_zero hn
    subst this
    exact ⟨none, 0, rfl, .inl rfl⟩
  · refine ⟨some ⟨g, 0, none⟩, cap, rfl, .inr ⟨g, 0, rfl, (hlt g rfl).2, fun i hi => ?_⟩⟩
    have hc := World.ownsRow.cellAt h i (by simpa using hi)
    rw [Nat.zero_add, hc, List.getElem?_map, List.getElem?_eq_getElem hi, List.getD_eq_getElem?_getD, List.getElem?_eq_getElem hi]
    rfl
theorem OwnS.ge {w : World} {base : Nat} {v : Value} {ws : List (List UInt8)} (h : OwnS w base v ws) : ∀ k, v.ownBlock = some k → base ≤ k := fun k hk => (World.ownsRow.lt h k hk).1
def LowB (b : Bd) : Prop := (∀ c, (b.nts.getD c []).length ≤ 7) ∧ ∀ p, (b.rws.getD p []).length ≤ 15
theorem mi_low {dss : List (List Dd)} {b : Bd} {a : Ab} {τ : Nat → Nat} {T : Nat} {z : Int} (M : MI dss b a τ T z) : (∀ c, (b.nts.getD c []).length ≤ 6) ∧ ∀ p, (b.rws.getD p []).length ≤ 9 := by
  have h9 := ev_nine dss
  have R := M.rep
  have I := M.inv
  refine ⟨fun c => ?_, fun p => ?_⟩
  · by_cases hc : c < dss.length
    · rw [R.nts, map_at _ _ hc, List.length_map]
      have hnd : (a.N c).Nodup := by
        have := I.nord (c : Int)
        rw [st_N] at this
        exact this.imp (fun h => Nat.ne_of_lt h)
      have := nodup_len (lo := 3) (n := (eventsB dss).length) hnd (fun x hx => by
        have hx' : x ∈ (stA dss a τ).N (c : Int) := by rw [st_N]; exact hx
        have := I.note (c : Int) x hx'
        exact ⟨this.2.1, I.lt x this.1⟩)
      omega
    · rw [List.getD_eq_getElem?_getD, List.getElem?_eq_none (by rw [R.nts, List.length_map, List.length_range]; omega)]; simp
  · by_cases hp : p < 3
    · rw [R.rws, map_at _ _ hp, List.length_map]
      have := nodup_len (lo := 0) (n := (eventsB dss).length) (I.rnod p) (fun x hx => ⟨Nat.zero_le _, I.lt x ((I.rows p x).1 hx).1.1⟩)
      have e : (stA dss a τ).R p = a.R p := rfl
      rw [e] at this
      omega
    · rw [List.getD_eq_getElem?_getD, List.getElem?_eq_none (by rw [R.rws, List.length_map, List.length_range]; omega)]; simp
theorem Run.low {dss : List (List Dd)} {b : Bd} (h : Run dss b) : (∀ c, (b.nts.getD c []).length ≤ 6) ∧ ∀ p, (b.rws.getD p []).length ≤ 9 := by
  obtain ⟨a, τ, T, z, M, -⟩ := h
  exact mi_low M
theorem low_of {b : Bd} (h : (∀ c, (b.nts.getD c []).length ≤ 6) ∧ ∀ p, (b.rws.getD p []).length ≤ 9) : LowB b := ⟨fun c => by have := h.1 c; omega, fun p => by have := h.2 p; omega⟩
end Go.Proofs.YtgakfkjjkobpiaaGreat
