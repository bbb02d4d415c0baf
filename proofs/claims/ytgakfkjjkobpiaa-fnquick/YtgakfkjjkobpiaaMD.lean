/- Gathered texts. -/
import Derived.Test.YtgakfkjjkobpiaaMC
set_option maxRecDepth 100000
set_option maxHeartbeats 8000000
namespace Go.Proofs.Ytgakfkjjkobpiaa
open Go.RowKit
theorem vl_at {dss : List (List Dd)} (hb : workB dss = true) {j c k i : Nat} (E : EvIs dss j c k i) : plN dss j = (dAt dss c k).2.1 ∧ vlN dss j = vlI (dAt dss c k) i := by
  unfold plN vlN
  rw [E.at hb]
  exact ⟨rfl, rfl⟩
theorem vlI_w {d : Dd} {i : Nat} (h : rdI d i = false) : vlI d i = d.2.2.1 := by unfold vlI; rw [h]; rfl
theorem ex_w {dss : List (List Dd)} (hb : workB dss = true) (a : Ab) {c : Nat} (hc : c < dss.length) (hk : a.nx c < (dss.getD c []).length) (h2 : (dAt dss c (a.nx c)).1 = 2) {j : Nat} (hj : j < (eventsB dss).length) (hr : ((eventsB dss).getD j zE).2.2.1 = true) :
    exA dss (bumpA a c) j = exA dss a j := by
  have this := X_one hb a hc hk (by omega) (by omega) j
  have hne : j ≠ offN dss c (a.nx c) := by
    intro e
    have E := ev_first hc hk (by omega : (dAt dss c (a.nx c)).1 ≠ 4)
    rw [e, E.at hb] at hr
    rw [show rdI (dAt dss c (a.nx c)) 0 = false from rdI_two h2 0] at hr
    cases hr
  cases q2 : exA dss a j with
  | true => exact (this.2 (.inl ⟨hj, q2⟩)).2
  | false =>
    cases q : exA dss (bumpA a c) j with
    | false => rfl
    | true =>
      rcases this.1 ⟨hj, q⟩ with h | h
      · rw [q2] at h; cases h.2
      · exact absurd h hne
theorem whole_no {d : Dd} (h : d.1 ≠ 3) (hg : d.2.2.2 = 0) : wholeD d = false := by
  unfold wholeD
  rw [beq_eq_false_iff_ne.2 h, hg]
  rfl
abbrev noteA (dss : List (List Dd)) (a : Ab) (c : Nat) : Ab := { bumpA a c with N := fun c' => if c' = c then a.N c' ++ [offN dss c (a.nx c)] else a.N c' }
abbrev inkA (dss : List (List Dd)) (a : Ab) (c p : Nat) : Ab := { bumpA a c with R := fun q => if q = p then a.R q ++ [offN dss c (a.nx c)] else a.R q }
theorem oneM_note {dss : List (List Dd)} (hb : workB dss = true) {b : Bd} {a : Ab} {τ : Nat → Nat} {T : Nat} {z : Int} (M : MI dss b a τ T z) {c : Nat} (hc : c < dss.length) (hk : a.nx c < (dss.getD c []).length) (h2 : (dAt dss c (a.nx c)).1 = 2) (hg : gAt dss c (a.nx c) = 0) :
    MI dss (oneM dss (eventsB dss) b c) (noteA dss a c) τ T z := by
  have h4 : (dAt dss c (a.nx c)).1 ≠ 4 := by omega
  have h3 : (dAt dss c (a.nx c)).1 ≠ 3 := by omega
  have E := ev_first hc hk h4
  obtain ⟨s1, s2, s3, s4⟩ := sys_at hb E
  have hN := nxt_first hb a τ hc hk h4
  have hrd : (sysW dss).rd (offN dss c (a.nx c)) = false := by rw [s3]; exact rdI_two h2 0
  have I := M.inv.doNote hN hrd
  have hx := eventsB_12 dss
  have hd : deedM dss (eventsB dss) b c (nxN b c) = { b with nts := b.nts.set c (b.nts.getD c [] ++ [((dAt dss c (a.nx c)).2.1, (dAt dss c (a.nx c)).2.2.1, (offN dss c (a.nx c) : Int))]) } := by
    rw [(nx_at M.rep hc).2]
    unfold deedM
    rw [if_neg (by omega), if_neg (by omega), if_neg (by omega), if_pos h2, evM_at hb hc hk h4]
  have hst : stA dss { bumpA a c with N := fun c' => if c' = c then a.N c' ++ [offN dss c (a.nx c)] else a.N c' } τ = (stA dss a τ).doNote (sysW dss) (offN dss c (a.nx c)) := by
    unfold stA AbsSt.doNote
    congr 1
    · funext j
      apply propext
      exact X_one hb a hc hk h4 h3 j
    · funext c'
      rw [s1]
      show (if 0 ≤ c' then (if c'.toNat = c then a.N c'.toNat ++ [offN dss c (a.nx c)] else a.N c'.toNat) else []) = if c' = (c : Int) then (if 0 ≤ c' then a.N c'.toNat else []) ++ [offN dss c (a.nx c)] else (if 0 ≤ c' then a.N c'.toNat else [])
      by_cases h0 : 0 ≤ c'
      · rw [if_pos h0]
        by_cases e : c' = (c : Int)
        · subst e; simp
        · rw [if_neg (by omega), if_neg e, if_pos h0]
      · rw [if_neg h0, if_neg (by omega), if_neg h0]
  unfold oneM
  rw [hd]
  refine ⟨⟨rep_nxt M.rep hc, ?_, M.rep.rws, M.rep.lst, M.rep.plc, ?_, ?_⟩, by rw [hst]; exact I, nxl_bump M.nxl hk, ?_⟩
  · show b.nts.set c _ = _
    rw [nts_at M.rep hc, M.rep.nts, map_set]
    refine List.map_congr_left (fun i _ => ?_)
    show _ = (if i = c then a.N i ++ [offN dss c (a.nx c)] else a.N i).map (ntE dss)
    split
    · rename_i e
      subst e
      rw [List.map_append]
      congr 1
      show _ = [ntE dss _]
      unfold ntE
      rw [(vl_at hb E).1, (vl_at hb E).2, vlI_w (rdI_two h2 0)]
    · rfl
  · show b.fr = _
    rw [M.rep.fr]
    refine List.map_congr_left (fun r hr => ?_)
    obtain ⟨j, rfl, hj, hjr⟩ := rs_in hx hr
    rw [Int.toNat_natCast]
    show _ = if exA dss (bumpA a c) j = true then _ else _
    rw [ex_w hb a hc hk h2 hj hjr]
    rfl
  · show b.sn = _
    rw [M.rep.sn]
    refine List.map_congr_left (fun r hr => ?_)
    obtain ⟨j, rfl, hj, hjr⟩ := rs_in hx hr
    rw [Int.toNat_natCast]
    show _ = if exA dss (bumpA a c) j = true then _ else _
    rw [ex_w hb a hc hk h2 hj hjr]
    rfl
  · intro c' x hxm
    have old := nt_bump M (c := c) (fun _ => ⟨h4, whole_no h3 hg⟩)
    change x ∈ (if c' = c then a.N c' ++ [offN dss c (a.nx c)] else a.N c') at hxm
    by_cases e : c' = c
    · rw [if_pos e, List.mem_append] at hxm
      rcases hxm with hxm | hxm
      · exact old c' x hxm
      · have ex : x = offN dss c (a.nx c) := by simpa using hxm
        subst e
        refine ⟨hc, a.nx c', by rw [ex]; exact E, ?_, h2, hg, fun k' h1 h2' => ?_⟩
        · show a.nx c' < (bumpA a c').nx c'
          rw [nx_bump, if_pos rfl]; omega
        · change k' < (bumpA a c').nx c' at h2'
          rw [nx_bump, if_pos rfl] at h2'; omega
    · rw [if_neg e] at hxm
      exact old c' x hxm
theorem oneM_ink_t {dss : List (List Dd)} (hb : workB dss = true) {b : Bd} {a : Ab} {τ : Nat → Nat} {T : Nat} {z : Int} (M : MI dss b a τ T z) (hT : 1 ≤ T) {c : Nat} (hc : c < dss.length) (hk : a.nx c < (dss.getD c []).length) (h2 : (dAt dss c (a.nx c)).1 = 2) (hg : gAt dss c (a.nx c) ≠ 0)
    (hz : clsD dss c (a.nx c) = z) (hN0 : a.N c = []) :
    MI dss (oneM dss (eventsB dss) b c) (inkA dss a c (dAt dss c (a.nx c)).2.1.toNat) (fun i => if i = offN dss c (a.nx c) then T else τ i) T z := by
  have h4 : (dAt dss c (a.nx c)).1 ≠ 4 := by omega
  have h3 : (dAt dss c (a.nx c)).1 ≠ 3 := by omega
  have E := ev_first hc hk h4
  obtain ⟨s1, s2, s3, s4⟩ := sys_at hb E
  obtain ⟨p, hp, ep⟩ := place_d hb hc hk
  have hN := nxt_first hb a τ hc hk h4
  have hrd : (sysW dss).rd (offN dss c (a.nx c)) = false := by rw [s3]; exact rdI_two h2 0
  have hpl : (sysW dss).pl (offN dss c (a.nx c)) = p := by rw [s2, ep, Int.toNat_natCast]
  have I := M.inv.doInk hT hN hrd (by rw [s4]; exact hz) (by rw [s1, st_N]; exact hN0)
  have hx := eventsB_12 dss
  have hg0 : 0 < gAt dss c (a.nx c) := by have := (g_in (okC_of hb hc) hk).1; omega
  have hd : deedM dss (eventsB dss) b c (nxN b c) = inkM b p (dAt dss c (a.nx c)).2.2.1 (offN dss c (a.nx c) : Int) := by
    rw [(nx_at M.rep hc).2]
    unfold deedM
    rw [if_neg (by omega), if_neg (by omega), if_pos ⟨h2, hg0⟩, evM_at hb hc hk h4, ep, Int.toNat_natCast]
  rw [ep, Int.toNat_natCast]
  have hst : stA dss { bumpA a c with R := fun q => if q = p then a.R q ++ [offN dss c (a.nx c)] else a.R q } (fun i => if i = offN dss c (a.nx c) then T else τ i) = (stA dss a τ).doInk (sysW dss) T (offN dss c (a.nx c)) := by
    unfold stA AbsSt.doInk
    rw [hpl]
    congr 1
    funext j
    apply propext
    exact X_one hb a hc hk h4 h3 j
  have hla : ∀ q, lastA { bumpA a c with R := fun q => if q = p then a.R q ++ [offN dss c (a.nx c)] else a.R q } q = if q = p then offN dss c (a.nx c) else lastA a q := by
    intro q
    unfold lastA
    show ((if q = p then a.R q ++ [offN dss c (a.nx c)] else a.R q).getLast?).getD q = _
    split
    · simp
    · rfl
  unfold oneM
  rw [hd]
  refine ⟨⟨rep_nxt M.rep hc, M.rep.nts, ?_, ?_, ?_, ?_, ?_⟩, by rw [hst]; exact I, nxl_bump M.nxl hk, nt_bump M (fun h => absurd hN0 h)⟩
  · show b.rws.set p (b.rws.getD p [] ++ [(offN dss c (a.nx c) : Int)]) = _
    rw [(lst_at M.rep hp).2.2, M.rep.rws, map_set]
    refine List.map_congr_left (fun q _ => ?_)
    show _ = (if q = p then a.R q ++ [offN dss c (a.nx c)] else a.R q).map Int.ofNat
    split
    · rename_i e; subst e; rw [List.map_append]; rfl
    · rfl
  · show b.lst.set p (offN dss c (a.nx c) : Int) = _
    rw [M.rep.lst, map_set]
    refine List.map_congr_left (fun q _ => ?_)
    rw [hla]
    split <;> rfl
  · show b.plc.set p (dAt dss c (a.nx c)).2.2.1 = _
    rw [M.rep.plc, map_set]
    refine List.map_congr_left (fun q _ => ?_)
    rw [hla]
    split
    · rw [(vl_at hb E).2, vlI_w (rdI_two h2 0)]
    · rfl
  · show b.fr = _
    rw [M.rep.fr]
    refine List.map_congr_left (fun r hr => ?_)
    obtain ⟨j, rfl, hj, hjr⟩ := rs_in hx hr
    rw [Int.toNat_natCast]
    show _ = if exA dss (bumpA a c) j = true then _ else _
    rw [ex_w hb a hc hk h2 hj hjr]
    rfl
  · show b.sn = _
    rw [M.rep.sn]
    refine List.map_congr_left (fun r hr => ?_)
    obtain ⟨j, rfl, hj, hjr⟩ := rs_in hx hr
    rw [Int.toNat_natCast]
    show _ = if exA dss (bumpA a c) j = true then _ else _
    rw [ex_w hb a hc hk h2 hj hjr]
    rfl
theorem oneM_ink {dss : List (List Dd)} (hb : workB dss = true) {b : Bd} {a : Ab} {τ : Nat → Nat} {T : Nat} {z : Int} (M : MI dss b a τ T z) (hT : 1 ≤ T) {c : Nat} (hc : c < dss.length) (hk : a.nx c < (dss.getD c []).length) (h2 : (dAt dss c (a.nx c)).1 = 2) (hg : gAt dss c (a.nx c) ≠ 0)
    (hz : clsD dss c (a.nx c) = z) (hN0 : a.N c = []) :
    ∃ τ', MI dss (oneM dss (eventsB dss) b c) (inkA dss a c (dAt dss c (a.nx c)).2.1.toNat) τ' T z := ⟨_, oneM_ink_t hb M hT hc hk h2 hg hz hN0⟩
abbrev swapA (dss : List (List Dd)) (a : Ab) (c p : Nat) : Ab := { bumpA a c with F := fun i => if i = offN dss c (a.nx c) then lastA a p else a.F i, R := fun q => if q = p then a.R q ++ [offN dss c (a.nx c) + 1] else a.R q }
abbrev flushA (a : Ab) (c p x : Nat) (rest : List Nat) : Ab := { a with N := fun c' => if c' = c then rest else a.N c', R := fun q => if q = p then a.R q ++ [x] else a.R q }
theorem oneM_swap_t {dss : List (List Dd)} (hb : workB dss = true) {b : Bd} {a : Ab} {τ : Nat → Nat} {T : Nat} {z : Int} (M : MI dss b a τ T z) (hT : 1 ≤ T) {c : Nat} (hc : c < dss.length) (hk : a.nx c < (dss.getD c []).length) (h3 : (dAt dss c (a.nx c)).1 = 3)
    (hz : clsD dss c (a.nx c) = z) (hN0 : a.N c = []) :
    MI dss (oneM dss (eventsB dss) b c) (swapA dss a c (dAt dss c (a.nx c)).2.1.toNat) (fun i => if i = offN dss c (a.nx c) + 1 then T else if i = offN dss c (a.nx c) then T else τ i) T z := by
  have h4 : (dAt dss c (a.nx c)).1 ≠ 4 := by omega
  have E := ev_first hc hk h4
  have E2 := ev_second hc hk h3
  obtain ⟨s1, s2, s3, s4⟩ := sys_at hb E
  obtain ⟨r1, r2, r3, r4⟩ := sys_at hb E2
  obtain ⟨p, hp, ep⟩ := place_d hb hc hk
  have hN := nxt_first hb a τ hc hk h4
  have hrd : (sysW dss).rd (offN dss c (a.nx c)) = true := by rw [s3]; exact rdI_first (by omega)
  have hrd2 : (sysW dss).rd (offN dss c (a.nx c) + 1) = false := by rw [r3]; exact rdI_second _
  have hpl : (sysW dss).pl (offN dss c (a.nx c)) = p := by rw [s2, ep, Int.toNat_natCast]
  have hpl2 : (sysW dss).pl (offN dss c (a.nx c) + 1) = p := by rw [r2, ep, Int.toNat_natCast]
  have hlast := last_some M.inv hp
  have I1 := M.inv.doRead hT hN hrd (by rw [s4]; exact hz) (fun x hx => by rw [s1, st_N, hN0] at hx; cases hx) (f := lastA a p) (by
    rw [s1, hpl]
    unfold AbsSt.L
    rw [st_N, hN0]
    show (a.R p ++ [].filter _).getLast? = _
    rw [List.filter_nil, List.append_nil]
    exact hlast)
  have hN2 : Nxt (sysW dss) ((stA dss a τ).doRead T (offN dss c (a.nx c)) (lastA a p)) (offN dss c (a.nx c) + 1) := by
    have hl := E2.lt hb
    refine ⟨hl.1, hl.2, ?_, ?_, ?_⟩
    · rintro (⟨_, h⟩ | h)
      · rw [ex_at hb E2, decide_eq_true_eq] at h; omega
      · omega
    · intro i h3' hi hck
      by_cases e : i = offN dss c (a.nx c)
      · exact .inr e
      · exact .inl (hN.all i h3' (by omega) (by rw [hck, r1, s1]))
    · rintro i (h | h) h3' hck
      · have := hN.last i h h3' (by rw [hck, r1, s1]); omega
      · omega
  have I := I1.doInk hT hN2 hrd2 (by rw [r4]; exact hz) (by rw [r1]; show (stA dss a τ).N (c : Int) = []; rw [st_N]; exact hN0)
  have hx := eventsB_12 dss
  obtain ⟨l1, l2, l3⟩ := lst_at M.rep hp
  have hd : deedM dss (eventsB dss) b c (nxN b c) = inkM (seeM (idxB rdE (eventsB dss)) b (offN dss c (a.nx c) : Int) (vlN dss (lastA a p)) (lastA a p : Int)) p (dAt dss c (a.nx c)).2.2.1 ((offN dss c (a.nx c) : Int) + 1) := by
    rw [(nx_at M.rep hc).2]
    unfold deedM
    rw [if_neg (by omega), if_pos h3, evM_at hb hc hk h4, ep, Int.toNat_natCast, l1, l2]
  rw [ep, Int.toNat_natCast]
  have hst : stA dss { bumpA a c with F := fun i => if i = offN dss c (a.nx c) then lastA a p else a.F i, R := fun q => if q = p then a.R q ++ [offN dss c (a.nx c) + 1] else a.R q } (fun i => if i = offN dss c (a.nx c) + 1 then T else if i = offN dss c (a.nx c) then T else τ i) =
      ((stA dss a τ).doRead T (offN dss c (a.nx c)) (lastA a p)).doInk (sysW dss) T (offN dss c (a.nx c) + 1) := by
    unfold stA AbsSt.doInk AbsSt.doRead
    rw [hpl2]
    congr 1
    funext j
    apply propext
    exact X_two hb a hc hk h3 j
  have hexr : ∀ j, j < (eventsB dss).length → ((eventsB dss).getD j zE).2.2.1 = true → exA dss (bumpA a c) j = (decide (j = offN dss c (a.nx c)) || exA dss a j) := by
    intro j hj hjr
    have this := X_two hb a hc hk h3 j
    have hne : j ≠ offN dss c (a.nx c) + 1 := by
      intro e
      rw [e, E2.at hb, show rdI (dAt dss c (a.nx c)) 1 = false from rdI_second _] at hjr
      cases hjr
    cases q : exA dss (bumpA a c) j with
    | true =>
      rcases this.1 ⟨hj, q⟩ with (h | h) | h
      · rw [h.2]; simp
      · simp [h]
      · exact absurd h hne
    | false =>
      have n1 : ¬ j = offN dss c (a.nx c) := fun e => by have := (this.2 (.inl (.inr e))).2; rw [q] at this; cases this
      have n2 : exA dss a j = false := by
        cases q2 : exA dss a j with
        | false => rfl
        | true => have := (this.2 (.inl (.inl ⟨hj, q2⟩))).2; rw [q] at this; cases this
      simp [n1, n2]
  have hla : ∀ q, lastA { bumpA a c with F := fun i => if i = offN dss c (a.nx c) then lastA a p else a.F i, R := fun q => if q = p then a.R q ++ [offN dss c (a.nx c) + 1] else a.R q } q = if q = p then offN dss c (a.nx c) + 1 else lastA a q := by
    intro q
    unfold lastA
    show ((if q = p then a.R q ++ [offN dss c (a.nx c) + 1] else a.R q).getLast?).getD q = _
    split
    · simp
    · rfl
  unfold oneM
  rw [hd]
  refine ⟨⟨rep_nxt M.rep hc, M.rep.nts, ?_, ?_, ?_, ?_, ?_⟩, by rw [hst]; exact I, nxl_bump M.nxl hk, nt_bump M (fun h => absurd hN0 h)⟩
  · show b.rws.set p (b.rws.getD p [] ++ [(offN dss c (a.nx c) : Int) + 1]) = _
    rw [l3, M.rep.rws, map_set]
    refine List.map_congr_left (fun q _ => ?_)
    show _ = (if q = p then a.R q ++ [offN dss c (a.nx c) + 1] else a.R q).map Int.ofNat
    split
    · rename_i e; subst e; rw [List.map_append]; rfl
    · rfl
  · show b.lst.set p ((offN dss c (a.nx c) : Int) + 1) = _
    rw [M.rep.lst, map_set]
    refine List.map_congr_left (fun q _ => ?_)
    rw [hla]
    split <;> rfl
  · show b.plc.set p (dAt dss c (a.nx c)).2.2.1 = _
    rw [M.rep.plc, map_set]
    refine List.map_congr_left (fun q _ => ?_)
    rw [hla]
    split
    · rw [(vl_at hb E2).2, vlI_w (rdI_second _)]
    · rfl
  · show setR (idxB rdE (eventsB dss)) _ _ b.fr = _
    rw [M.rep.fr, set_self]
    refine List.map_congr_left (fun r hr => ?_)
    obtain ⟨j, rfl, hj, hjr⟩ := rs_in hx hr
    rw [Int.toNat_natCast]
    show _ = if exA dss (bumpA a c) j = true then ((if j = offN dss c (a.nx c) then lastA a p else a.F j : Nat) : Int) else -1
    rw [hexr j hj hjr]
    by_cases e : j = offN dss c (a.nx c)
    · simp [e]
    · simp [e, show ¬ ((j : Int) = (offN dss c (a.nx c) : Int)) by omega]
  · show setR (idxB rdE (eventsB dss)) _ _ b.sn = _
    rw [M.rep.sn, set_self]
    refine List.map_congr_left (fun r hr => ?_)
    obtain ⟨j, rfl, hj, hjr⟩ := rs_in hx hr
    rw [Int.toNat_natCast]
    show _ = if exA dss (bumpA a c) j = true then vlN dss (if j = offN dss c (a.nx c) then lastA a p else a.F j) else -1
    rw [hexr j hj hjr]
    by_cases e : j = offN dss c (a.nx c)
    · simp [e]
    · simp [e, show ¬ ((j : Int) = (offN dss c (a.nx c) : Int)) by omega]
theorem oneM_swap {dss : List (List Dd)} (hb : workB dss = true) {b : Bd} {a : Ab} {τ : Nat → Nat} {T : Nat} {z : Int} (M : MI dss b a τ T z) (hT : 1 ≤ T) {c : Nat} (hc : c < dss.length) (hk : a.nx c < (dss.getD c []).length) (h3 : (dAt dss c (a.nx c)).1 = 3)
    (hz : clsD dss c (a.nx c) = z) (hN0 : a.N c = []) :
    ∃ τ', MI dss (oneM dss (eventsB dss) b c) (swapA dss a c (dAt dss c (a.nx c)).2.1.toNat) τ' T z := ⟨_, oneM_swap_t hb M hT hc hk h3 hz hN0⟩
theorem flush_sim_t {dss : List (List Dd)} (hb : workB dss = true) {b : Bd} {a : Ab} {τ : Nat → Nat} {T : Nat} {z : Int} (M : MI dss b a τ T z) {c : Nat} (hc : c < dss.length) {x : Nat} {rest : List Nat} (hN : a.N c = x :: rest) :
    MI dss (flushM b c) (flushA a c ((sysW dss).pl x) x rest) (fun i => if i = x then T + 1 else τ i) (T + 1) ((sysW dss).cs x) := by
  obtain ⟨_, k, E, h1, h2, h3, h5⟩ := M.nt c x (by rw [hN]; simp)
  obtain ⟨s1, s2, s3, s4⟩ := sys_at hb E
  obtain ⟨p, hp, ep⟩ := place_d hb E.hc E.hk
  have hpl : (sysW dss).pl x = p := by rw [s2, ep, Int.toNat_natCast]
  have hst0 : (stA dss a τ).N (c : Int) = x :: rest := by rw [st_N]; exact hN
  have I0 := M.inv.tick ((sysW dss).cs x) (fun i hi h3' e => by
    obtain ⟨c', k', i', E'⟩ := ev_dec hb h3' hi.1.1
    rw [(sys_at hb E').2.2.2, s4] at e
    have hc' := (cls_iff (okC_of hb E'.hc) (okC_of hb E.hc) E'.hk E.hk E'.kind E.kind).1 e
    obtain ⟨rfl, hq⟩ := hc'
    have hkk : k' = k := by
      rcases hq with hq | hq
      · exact hq
      · exact absurd (hq.2.trans h3) hq.1
    subst hkk
    have e1 := (ev_only E' (by omega)).1
    have e2 := (ev_only E (by omega)).1
    have exx : i = x := by omega
    subst exx
    exact hi.2 (by rw [s1, hst0]; simp))
  have I := I0.doFlush (by omega) hst0 rfl
  have hx := eventsB_12 dss
  have hfl : flushM b c = inkM { b with nts := b.nts.set c (rest.map (ntE dss)) } p (vlN dss x) (x : Int) := by
    unfold flushM
    rw [nts_at M.rep hc, hN, List.map_cons]
    show inkM _ (plN dss x).toNat (vlN dss x) (x : Int) = _
    rw [(vl_at hb E).1, ep, Int.toNat_natCast]
  rw [hpl]
  have hst : stA dss { a with N := fun c' => if c' = c then rest else a.N c', R := fun q => if q = p then a.R q ++ [x] else a.R q } (fun i => if i = x then T + 1 else τ i) = (stA dss a τ).doFlush (sysW dss) (T + 1) (c : Int) x rest := by
    unfold stA AbsSt.doFlush
    rw [hpl]
    congr 1
    funext c'
    show (if 0 ≤ c' then (if c'.toNat = c then rest else a.N c'.toNat) else []) = if c' = (c : Int) then rest else (if 0 ≤ c' then a.N c'.toNat else [])
    by_cases h0 : 0 ≤ c'
    · rw [if_pos h0]
      by_cases e : c' = (c : Int)
      · subst e; simp
      · rw [if_neg (by omega), if_neg e, if_pos h0]
    · rw [if_neg h0, if_neg (by omega), if_neg h0]
  have hla : ∀ q, lastA { a with N := fun c' => if c' = c then rest else a.N c', R := fun q => if q = p then a.R q ++ [x] else a.R q } q = if q = p then x else lastA a q := by
    intro q
    unfold lastA
    show ((if q = p then a.R q ++ [x] else a.R q).getLast?).getD q = _
    split
    · simp
    · rfl
  rw [hfl]
  refine ⟨⟨M.rep.nxt, ?_, ?_, ?_, ?_, M.rep.fr, M.rep.sn⟩, by rw [hst]; exact I, M.nxl, ?_⟩
  · show b.nts.set c _ = _
    rw [M.rep.nts, map_set]
    refine List.map_congr_left (fun i _ => ?_)
    show _ = (if i = c then rest else a.N i).map (ntE dss)
    split <;> rfl
  · show b.rws.set p (b.rws.getD p [] ++ [(x : Int)]) = _
    rw [(lst_at M.rep hp).2.2, M.rep.rws, map_set]
    refine List.map_congr_left (fun q _ => ?_)
    show _ = (if q = p then a.R q ++ [x] else a.R q).map Int.ofNat
    split
    · rename_i e; subst e; rw [List.map_append]; rfl
    · rfl
  · show b.lst.set p (x : Int) = _
    rw [M.rep.lst, map_set]
    refine List.map_congr_left (fun q _ => ?_)
    rw [hla]
    split <;> rfl
  · show b.plc.set p (vlN dss x) = _
    rw [M.rep.plc, map_set]
    refine List.map_congr_left (fun q _ => ?_)
    rw [hla]
    split <;> rfl
  · intro c' y hy
    refine M.nt c' y ?_
    change y ∈ (if c' = c then rest else a.N c') at hy
    split at hy
    · rename_i e; subst e; rw [hN]; exact List.mem_cons_of_mem _ hy
    · exact hy
theorem flush_sim {dss : List (List Dd)} (hb : workB dss = true) {b : Bd} {a : Ab} {τ : Nat → Nat} {T : Nat} {z : Int} (M : MI dss b a τ T z) {c : Nat} (hc : c < dss.length) {x : Nat} {rest : List Nat} (hN : a.N c = x :: rest) :
    ∃ τ', MI dss (flushM b c) (flushA a c ((sysW dss).pl x) x rest) τ' (T + 1) ((sysW dss).cs x) := ⟨_, flush_sim_t hb M hc hN⟩
def rwP (es : List Ev) (rows : List Int) (i k : Nat) : Bool := decide (i < k) && (plE es (rows.getD i 0) == plE es (rows.getD k 0))
def rwIn (es : List Ev) (rows : List Int) (i : Nat) (st : List Int) : Nat → List Int
  | 0 => st
  | k + 1 => if rwP es rows i k = true then (rwIn es rows i st k).set (rows.getD i 0).toNat (gAdd ((rwIn es rows i st k).getD (rows.getD i 0).toNat 0) (rows.getD k 0)) else rwIn es rows i st k
def rwAll (es : List Ev) (rows : List Int) : Nat → List Int
  | 0 => List.replicate es.length 0
  | i + 1 => rwIn es rows i (rwAll es rows i) rows.length
def rwL (es : List Ev) (rows : List Int) : List Int := rwAll es rows rows.length
theorem rwIn_hit {es : List Ev} {rows : List Int} {i k : Nat} (st : List Int) (h : rwP es rows i k = true) : rwIn es rows i st (k + 1) = (rwIn es rows i st k).set (rows.getD i 0).toNat (gAdd ((rwIn es rows i st k).getD (rows.getD i 0).toNat 0) (rows.getD k 0)) := if_pos h
theorem rwIn_miss {es : List Ev} {rows : List Int} {i k : Nat} (st : List Int) (h : rwP es rows i k = false) : rwIn es rows i st (k + 1) = rwIn es rows i st k := if_neg (by simp [h])
theorem web_rwIn {es : List Ev} {rows : List Int} {n i : Nat} {st : List Int} (hr : ∀ j, j < rows.length → 0 ≤ rows.getD j 0 ∧ rows.getD j 0 < (n : Int)) (hi : i < rows.length) (hst : Web n st) : ∀ m : Nat, m ≤ rows.length →
    Web n (rwIn es rows i st m) ∧ ∀ a b : Nat, a < n → (line (rwIn es rows i st m) a b = true ↔ line st a b = true ∨ ∃ q, q < m ∧ rwP es rows i q = true ∧ rows.getD i 0 = (a : Int) ∧ rows.getD q 0 = (b : Int))
  | 0, _ => ⟨hst, fun a b _ => by simp [rwIn]⟩
  | m + 1, hm => by
    obtain ⟨h1, h2⟩ := web_rwIn (es := es) hr hi hst m (by omega)
    cases hp : rwP es rows i m with
    | false =>
      rw [rwIn_miss st hp]
      refine ⟨h1, fun a b ha => ?_⟩
      rw [h2 a b ha]
      constructor
      · rintro (h | ⟨q, hq, r⟩)
        · exact .inl h
        · exact .inr ⟨q, by omega, r⟩
      · rintro (h | ⟨q, hq, r⟩)
        · exact .inl h
        · by_cases e : q = m
          · subst e; rw [hp] at r; cases r.1
          · exact .inr ⟨q, by omega, r⟩
    | true =>
      obtain ⟨a0, ha0⟩ := Int.eq_ofNat_of_zero_le (hr i hi).1
      obtain ⟨b0, hb0⟩ := Int.eq_ofNat_of_zero_le (hr m (by omega)).1
      have ha : a0 < n := by have := (hr i hi).2; omega
      have hb : b0 < n := by have := (hr m (by omega)).2; omega
      have e0 : rwIn es rows i st (m + 1) = (rwIn es rows i st m).set a0 (gAdd ((rwIn es rows i st m).getD a0 0) (b0 : Int)) := by rw [rwIn_hit st hp, ha0, hb0, Int.toNat_natCast]
      rw [e0]
      have hadd := ok_add (h1.2.2 a0 ha) hb
      refine ⟨h1.set hadd.1, fun a b haa => ?_⟩
      have e1 := h2 a b haa
      unfold line at e1 ⊢
      rw [getD_set _ _ _ _ (by rw [h1.2.1]; exact ha)]
      by_cases e : a0 = a
      · subst e
        simp only [if_true]
        rw [hadd.2 b, Bool.or_eq_true, e1, decide_eq_true_eq]
        constructor
        · rintro ((h | ⟨q, hq, r1, r2, r3⟩) | h)
          · exact .inl h
          · exact .inr ⟨q, by omega, r1, r2, r3⟩
          · exact .inr ⟨m, by omega, hp, ha0, by rw [hb0, h]⟩
        · rintro (h | ⟨q, hq, r1, r2, r3⟩)
          · exact .inl (.inl h)
          · by_cases eq : q = m
            · subst eq
              right
              rw [hb0] at r3
              omega
            · exact .inl (.inr ⟨q, by omega, r1, r2, r3⟩)
      · simp only [e, if_false]
        rw [e1]
        constructor
        · rintro (h | ⟨q, hq, r1, r2, r3⟩)
          · exact .inl h
          · exact .inr ⟨q, by omega, r1, r2, r3⟩
        · rintro (h | ⟨q, hq, r1, r2, r3⟩)
          · exact .inl h
          · exfalso; rw [ha0] at r2; omega
theorem web_rwAll {es : List Ev} {rows : List Int} (hx : es.length ≤ 12) (hr : ∀ j, j < rows.length → 0 ≤ rows.getD j 0 ∧ rows.getD j 0 < (es.length : Int)) : ∀ m : Nat, m ≤ rows.length →
    Web es.length (rwAll es rows m) ∧ ∀ a b : Nat, a < es.length → (line (rwAll es rows m) a b = true ↔ ∃ i q, i < m ∧ q < rows.length ∧ rwP es rows i q = true ∧ rows.getD i 0 = (a : Int) ∧ rows.getD q 0 = (b : Int))
  | 0, _ => ⟨Web.zero hx, fun a b _ => by unfold rwAll; rw [line_zero]; simp⟩
  | m + 1, hm => by
    obtain ⟨h1, h2⟩ := web_rwAll hx hr m (by omega)
    obtain ⟨g1, g2⟩ := web_rwIn (es := es) hr (show m < rows.length by omega) h1 rows.length (Nat.le_refl _)
    refine ⟨g1, fun a b ha => ?_⟩
    show line (rwIn es rows m (rwAll es rows m) rows.length) a b = true ↔ _
    rw [g2 a b ha, h2 a b ha]
    constructor
    · rintro (⟨i, q, hi, r⟩ | ⟨q, hq, r⟩)
      · exact ⟨i, q, by omega, r⟩
      · exact ⟨m, q, by omega, hq, r⟩
    · rintro ⟨i, q, hi, hq, r⟩
      by_cases e : i = m
      · subst e; exact .inr ⟨q, hq, r⟩
      · exact .inl ⟨i, q, by omega, hq, r⟩
theorem getD_zip (f : Int → Int → Int) {n : Nat} {a b : List Int} (ha : a.length = n) (hb : b.length = n) {i : Nat} (hi : i < n) : (List.zipWith f a b).getD i 0 = f (a.getD i 0) (b.getD i 0) := by
  rw [List.getD_eq_getElem?_getD, List.getElem?_zipWith, List.getD_eq_getElem?_getD, List.getD_eq_getElem?_getD, List.getElem?_eq_getElem (show i < a.length by omega), List.getElem?_eq_getElem (show i < b.length by omega)]
  rfl
theorem web_mix (f : Int → Int → Int) (hf : ∀ {n : Nat} {s t : Int}, okB n s = true → okB n t = true → okB n (f s t) = true) {n : Nat} {a b : List Int} (ha : Web n a) (hb : Web n b) : Web n (List.zipWith f a b) := by
  refine ⟨ha.1, by rw [List.length_zipWith, ha.2.1, hb.2.1]; omega, fun i hi => ?_⟩
  rw [getD_zip f ha.2.1 hb.2.1 hi]
  exact hf (ha.2.2 i hi) (hb.2.2 i hi)
theorem mixL_web (f : Int → Int → Int) {n : Nat} {a b : List Int} (ha : Web n a) (hb : Web n b) : mixL f a b = List.zipWith f a b := by
  unfold mixL
  rw [if_pos (twoB_iff.2 ⟨by rw [ha.2.1, hb.2.1], ha.b, hb.b⟩)]
theorem web_join {n : Nat} {a b : List Int} (ha : Web n a) (hb : Web n b) : Web n (mixL orI a b) ∧ ∀ i j, i < n → line (mixL orI a b) i j = (line a i j || line b i j) := by
  rw [mixL_web _ ha hb]
  refine ⟨web_mix orI (fun h k => (ok_or h k).1) ha hb, fun i j hi => ?_⟩
  unfold line
  rw [getD_zip orI ha.2.1 hb.2.1 hi]
  exact (ok_or (ha.2.2 i hi) (hb.2.2 i hi)).2 j
def inL (a b : List Int) : Bool := decide (a.length = b.length) && (List.range a.length).all fun i => notI (a.getD i 0) (b.getD i 0) == 0
inductive Way (zs : List Int) : Nat → Nat → Prop
  | one {i j : Nat} (h : line zs i j = true) : Way zs i j
  | more {i k j : Nat} (h : Way zs i k) (g : line zs k j = true) : Way zs i j
theorem Way.trans {zs : List Int} {i k j : Nat} (h : Way zs i k) (g : Way zs k j) : Way zs i j := by
  induction g with
  | one g => exact .more h g
  | more _ g ih => exact .more ih g
theorem Way.lt {n : Nat} {zs : List Int} (hz : Web n zs) {i j : Nat} (hi : i < n) (h : Way zs i j) : j < n := by
  induction h with
  | one g => exact hz.lt hi g
  | more _ g ih => exact hz.lt ih g
theorem wayAll_sound {n : Nat} {zs : List Int} (hz : Web n zs) (m : Nat) (hm : m ≤ n) {i : Nat} (hi : i < n) {j : Nat} (h : line (wayAll zs m) i j = true) : Way zs i j := by
  induction m generalizing i j with
  | zero => exact .one h
  | succ m ih =>
    rw [line_wayAll hz m (by omega) hi, Bool.or_eq_true, Bool.and_eq_true] at h
    rcases h with h | ⟨h1, h2⟩
    · exact ih (by omega) hi h
    · exact (ih (by omega) hi h1).trans (ih (by omega) (by omega) h2)
theorem wayAll_mono {n : Nat} {zs : List Int} (hz : Web n zs) (m : Nat) (hm : m < n) {i : Nat} (hi : i < n) {j : Nat} (h : line (wayAll zs m) i j = true) : line (wayAll zs (m + 1)) i j = true := by
  rw [line_wayAll hz m hm hi, h]; rfl
theorem wayAll_meet {n : Nat} {zs : List Int} (hz : Web n zs) (m : Nat) (hm : m ≤ n) {i k j : Nat} (hi : i < n) (hk : k < m) (h1 : line (wayAll zs m) i k = true) (h2 : line (wayAll zs m) k j = true) : line (wayAll zs m) i j = true := by
  induction m generalizing i k j with
  | zero => omega
  | succ m ih =>
    have hmn : m < n := by omega
    have ihm := @ih (by omega)
    rw [line_wayAll hz m hmn hi, Bool.or_eq_true, Bool.and_eq_true] at h1
    rw [line_wayAll hz m hmn (show k < n by omega), Bool.or_eq_true, Bool.and_eq_true] at h2
    rw [line_wayAll hz m hmn hi, Bool.or_eq_true, Bool.and_eq_true]
    by_cases e : k = m
    · subst e
      have h1' : line (wayAll zs k) i k = true := by
        rcases h1 with h | h
        · exact h
        · exact h.1
      have h2' : line (wayAll zs k) k j = true := by
        rcases h2 with h | h
        · exact h
        · exact h.2
      exact .inr ⟨h1', h2'⟩
    · have hkm : k < m := by omega
      rcases h1 with h1 | ⟨h1, h1'⟩ <;> rcases h2 with h2 | ⟨h2, h2'⟩
      · exact .inl (ihm hi hkm h1 h2)
      · exact .inr ⟨ihm hi hkm h1 h2, h2'⟩
      · exact .inr ⟨h1, ihm hmn hkm h1' h2⟩
      · exact .inr ⟨h1, h2'⟩
theorem ways_eq {n : Nat} {zs : List Int} (hz : Web n zs) : waysL zs = wayAll zs n := by
  unfold waysL
  rw [if_pos hz.b, hz.2.1]
theorem wayAll_old {n : Nat} {zs : List Int} (hz : Web n zs) (m : Nat) (hm : m ≤ n) {i : Nat} (hi : i < n) {j : Nat} (h : line zs i j = true) : line (wayAll zs m) i j = true := by
  induction m with
  | zero => exact h
  | succ m ih => exact wayAll_mono hz m (by omega) hi (ih (by omega))
theorem ways_line {n : Nat} {zs : List Int} (hz : Web n zs) {i : Nat} (hi : i < n) {j : Nat} : line (waysL zs) i j = true ↔ Way zs i j := by
  rw [ways_eq hz]
  constructor
  · exact wayAll_sound hz n (Nat.le_refl _) hi
  · intro h
    induction h with
    | one g => exact wayAll_old hz n (Nat.le_refl _) hi g
    | more h g ih =>
      have hk := h.lt hz hi
      exact wayAll_meet hz n (Nat.le_refl _) hi hk ih (wayAll_old hz n (Nat.le_refl _) hk g)
def roundB (zs : List Int) : Bool := webB zs && (List.range zs.length).any fun i => line (waysL zs) i i
theorem round_iff {n : Nat} {zs : List Int} (hz : Web n zs) : roundB zs = true ↔ ∃ i, i < n ∧ Way zs i i := by
  unfold roundB
  rw [hz.b, Bool.true_and, List.any_eq_true, hz.2.1]
  constructor
  · rintro ⟨i, hi, h⟩; exact ⟨i, List.mem_range.1 hi, (ways_line hz (List.mem_range.1 hi)).1 h⟩
  · rintro ⟨i, hi, h⟩; exact ⟨i, List.mem_range.2 hi, (ways_line hz hi).2 h⟩
theorem nodup_sub_len {a b : List Int} (h : a.Nodup) (hs : ∀ x ∈ a, x ∈ b) : a.length ≤ b.length := by
  induction a generalizing b with
  | nil => simp
  | cons x a ih =>
    rw [List.nodup_cons] at h
    have hx := hs x (by simp)
    have := ih (b := b.erase x) h.2 (fun y hy => (List.mem_erase_of_ne (fun e => h.1 (by rw [← e]; exact hy))).2 (hs y (by simp [hy])))
    rw [List.length_erase_of_mem hx] at this
    have := List.length_pos_of_mem hx
    simp; omega
def leads (zs : List Int) (n i : Nat) : Nat := (List.range n).countP fun j => line (waysL zs) j i
theorem idxB_range {f : Ev → Bool} {es : List Ev} (hx : es.length ≤ 12) {i : Nat} (hi : i < (idxB f es).length) : 0 ≤ (idxB f es).getD i 0 ∧ (idxB f es).getD i 0 < (es.length : Int) := by
  have hm : (idxB f es).getD i 0 ∈ idxB f es := by
    rw [List.getD_eq_getElem?_getD, List.getElem?_eq_getElem hi]
    exact List.getElem_mem hi
  unfold idxB at hm ⊢
  rw [if_pos hx] at hm ⊢
  exact idxK_lt f es _ _ hm
theorem rises_nodup : ∀ l : List Int, l.Pairwise (· < ·) → l.Nodup := fun l h => h.imp (fun h e => by omega)
def taleB (dss : List (List Dd)) (f rows : List Int) : Bool := sourceB dss f && rowsB dss rows
def agK (n : Nat) (rs f row : List Int) : Nat → List Int
  | 0 => List.replicate n 0
  | k + 1 => (agK n rs f row k).set (rs.getD k 0).toNat (row.getD (f.getD k 0).toNat 0)
def agL (es : List Ev) (f rows : List Int) : List Int := agK es.length (idxB rdE es) f (rwL es rows) (idxB rdE es).length
theorem web_ag {n : Nat} {rs f row : List Int} (hn : n ≤ 12) (hd : rs.Nodup) (hrow : Web n row) : ∀ k : Nat, k ≤ rs.length → (∀ i, i < k → 0 ≤ rs.getD i 0 ∧ rs.getD i 0 < (n : Int)) → (∀ i, i < k → 0 ≤ f.getD i 0 ∧ f.getD i 0 < (n : Int)) →
    Web n (agK n rs f row k) ∧ ∀ a j : Nat, a < n → (line (agK n rs f row k) a j = true ↔ ∃ i, i < k ∧ rs.getD i 0 = (a : Int) ∧ line row (f.getD i 0).toNat j = true)
  | 0, _, _, _ => ⟨Web.zero hn, fun a j _ => by unfold agK; rw [line_zero]; simp⟩
  | k + 1, hk, hr, hf => by
    obtain ⟨h1, h2⟩ := web_ag hn hd hrow k (by omega) (fun i hi => hr i (by omega)) (fun i hi => hf i (by omega))
    obtain ⟨a0, ha0⟩ := Int.eq_ofNat_of_zero_le (hr k (by omega)).1
    obtain ⟨b0, hb0⟩ := Int.eq_ofNat_of_zero_le (hf k (by omega)).1
    have ha : a0 < n := by have := (hr k (by omega)).2; omega
    have hb : b0 < n := by have := (hf k (by omega)).2; omega
    have e0 : agK n rs f row (k + 1) = (agK n rs f row k).set a0 (row.getD b0 0) := by rw [agK, ha0, hb0, Int.toNat_natCast, Int.toNat_natCast]
    rw [e0]
    refine ⟨h1.set (hrow.2.2 b0 hb), fun a j haa => ?_⟩
    have e1 := h2 a j haa
    unfold line at e1 ⊢
    rw [getD_set _ _ _ _ (by rw [h1.2.1]; exact ha)]
    by_cases e : a0 = a
    · subst e
      simp only [if_true]
      constructor
      · intro h
        refine ⟨k, by omega, ha0, ?_⟩
        rw [hb0, Int.toNat_natCast]
        exact h
      · rintro ⟨i, hi, r1, r2⟩
        have : i = k := nodup_get hd (by omega) (by omega) (by rw [r1, ha0])
        subst this
        rw [hb0, Int.toNat_natCast] at r2
        exact r2
    · simp only [e, if_false]
      rw [e1]
      constructor
      · rintro ⟨i, hi, r⟩
        exact ⟨i, by omega, r⟩
      · rintro ⟨i, hi, r1, r2⟩
        by_cases ei : i = k
        · subst ei; rw [ha0] at r1; omega
        · exact ⟨i, by omega, r1, r2⟩
theorem idxK_has (f : Ev → Bool) (l : List Ev) {i : Nat} (hf : f (l.getD i zE) = true) : ∀ k : Nat, i < k → (i : Int) ∈ idxK f l k
  | 0, h => by omega
  | k + 1, h => by
    rw [idxK]
    by_cases e : i = k
    · subst e
      rw [if_pos hf]
      exact List.mem_append.2 (.inr (by simp))
    · have ih := idxK_has f l hf k (by omega)
      split
      · exact List.mem_append.2 (.inl ih)
      · exact ih
theorem tale_use {dss : List (List Dd)} {f rows : List Int} (h : taleB dss f rows = true) : workB dss = true ∧ srcB (chcL (eventsB dss)) f = true ∧ rowsL (eventsB dss) rows = true := by
  unfold taleB sourceB rowsB at h
  simp only [Bool.and_eq_true] at h
  exact ⟨h.1.1, h.1.2, h.2.2⟩
theorem behP_lt {es : List Ev} {i j : Nat} (h : behP es i j = true) : i < j := by
  apply Classical.byContradiction
  intro hn
  rw [behP_up (by omega)] at h
  cases h
theorem up_way {n : Nat} {zs : List Int} (hz : Web n zs) (μ : Nat → Nat) (h : ∀ i j, i < n → j < n → line zs i j = true → μ i < μ j) {i j : Nat} (hi : i < n) (hw : Way zs i j) : μ i < μ j := by
  induction hw with
  | one g => exact h _ _ hi (hz.lt hi g) g
  | more g l ih => exact Nat.lt_trans ih (h _ _ (g.lt hz hi) (hz.lt (g.lt hz hi) l) l)
theorem up_round {n : Nat} {zs : List Int} (hz : Web n zs) (μ : Nat → Nat) (h : ∀ i j, i < n → j < n → line zs i j = true → μ i < μ j) : roundB zs = false := by
  cases hr : roundB zs with
  | false => rfl
  | true =>
    obtain ⟨i, hi, hw⟩ := (round_iff hz).1 hr
    exact absurd (up_way hz μ h hi hw) (Nat.lt_irrefl _)
def pwL (es : List Ev) (f rows : List Int) : List Int := mixL orI (mixL orI (plcL es) (fwL es f)) (mixL orI (rwL es rows) (agL es f rows))
def owP (es : List Ev) (i k : Nat) : Bool := decide (3 ≤ i) && decide (3 ≤ k) && ((es.getD i zE).1 == (es.getD k zE).1)
def owL (es : List Ev) (f : List Int) : List Int := offAll (owP es) es.length (fwL es f) es.length
def swL (dss : List (List Dd)) (es : List Ev) (f rows : List Int) : List Int := mixL orI (mixL orI (kepL dss es) (owL es f)) (mixL orI (rwL es rows) (agL es f rows))
def xwL (es : List Ev) (f rows : List Int) : List Int := mixL orI (mixL orI (behL es) (fwL es f)) (mixL orI (rwL es rows) (agL es f rows))
theorem rd_in {es : List Ev} (hx : es.length ≤ 12) {i : Nat} (hi : i < (idxB rdE es).length) : 0 ≤ (idxB rdE es).getD i 0 ∧ (idxB rdE es).getD i 0 < (es.length : Int) := idxB_range hx hi
theorem rd_nodup {es : List Ev} (hx : es.length ≤ 12) : (idxB rdE es).Nodup := by
  unfold idxB
  rw [if_pos hx]
  exact rises_nodup _ (idxK_rises rdE es _)
structure Webs (es : List Ev) (f rows : List Int) : Prop where
  fw : Web es.length (fwL es f)
  rw' : Web es.length (rwL es rows)
  ag : Web es.length (agL es f rows)
  fwl : ∀ a j : Nat, a < es.length → (line (fwL es f) a j = true ↔ ∃ i, i < (idxB rdE es).length ∧ f.getD i 0 = (a : Int) ∧ (idxB rdE es).getD i 0 = (j : Int))
  rwl : ∀ a b : Nat, a < es.length → (line (rwL es rows) a b = true ↔ ∃ i q, i < rows.length ∧ q < rows.length ∧ rwP es rows i q = true ∧ rows.getD i 0 = (a : Int) ∧ rows.getD q 0 = (b : Int))
  agl : ∀ a j : Nat, a < es.length → (line (agL es f rows) a j = true ↔ ∃ i, i < (idxB rdE es).length ∧ (idxB rdE es).getD i 0 = (a : Int) ∧ line (rwL es rows) (f.getD i 0).toNat j = true)
theorem webs_of {es : List Ev} {f rows : List Int} (hx : es.length ≤ 12) (hs : srcB (chcL es) f = true) (hr : rowsL es rows = true) : Webs es f rows := by
  obtain ⟨sl, su⟩ := src_use hx hs
  obtain ⟨rn, _, ru⟩ := rows_use hx hr
  have w1 := web_rwAll hx ru rows.length (Nat.le_refl _)
  have w2 := fw_line (n := es.length) (rs := idxB rdE es) (f := f) hx (idxB rdE es).length (fun i hi => rd_in hx hi) (fun i hi => (su i hi).1)
  have w3 := web_ag (n := es.length) (rs := idxB rdE es) (f := f) (row := rwL es rows) hx (rd_nodup hx) w1.1 (idxB rdE es).length (Nat.le_refl _) (fun i hi => rd_in hx hi) (fun i hi => (su i hi).1)
  exact ⟨w2.1, w1.1, w3.1, w2.2, w1.2, w3.2⟩
theorem web_four {n : Nat} {a b c d : List Int} (ha : Web n a) (hb : Web n b) (hc : Web n c) (hd : Web n d) : Web n (mixL orI (mixL orI a b) (mixL orI c d)) ∧
    ∀ i j, i < n → line (mixL orI (mixL orI a b) (mixL orI c d)) i j = (line a i j || line b i j || (line c i j || line d i j)) := by
  obtain ⟨h1, l1⟩ := web_join ha hb
  obtain ⟨h2, l2⟩ := web_join hc hd
  obtain ⟨h3, l3⟩ := web_join h1 h2
  exact ⟨h3, fun i j hi => by rw [l3 i j hi, l1 i j hi, l2 i j hi]⟩
theorem ow_line {es : List Ev} {f rows : List Int} (W : Webs es f rows) : Web es.length (owL es f) ∧ ∀ a j : Nat, a < es.length → line (owL es f) a j = (line (fwL es f) a j && !owP es a j) := by
  obtain ⟨h1, h2⟩ := web_offAll (p := owP es) W.fw es.length (Nat.le_refl _)
  refine ⟨h1, fun a j ha => ?_⟩
  unfold owL
  rw [h2 a j ha]
  cases hl : line (fwL es f) a j with
  | false => rfl
  | true =>
    have hj := W.fw.lt ha hl
    simp [ha, hj]
theorem place_ev {dss : List (List Dd)} (hb : workB dss = true) {j : Nat} (hj : j < (eventsB dss).length) : 0 ≤ ((eventsB dss).getD j zE).2.2.2.1 ∧ ((eventsB dss).getD j zE).2.2.2.1 ≤ 2 := by
  have e1 : eventsB dss = evsW dss dss.length := by rw [eventsB, if_pos hb]
  rw [e1] at hj ⊢
  exact place_in hb j hj
theorem beg_ev {dss : List (List Dd)} (hb : workB dss = true) : 3 ≤ (eventsB dss).length ∧ (eventsB dss).getD 0 zE = (-1, -1, false, 0, 0, 0) ∧ (eventsB dss).getD 1 zE = (-1, -1, false, 1, 0, 1) ∧ (eventsB dss).getD 2 zE = (-1, -1, false, 2, 0, 2) := by
  have e1 : eventsB dss = evsW dss dss.length := by rw [eventsB, if_pos hb]
  obtain ⟨t, ht⟩ := evs_pre dss 0 dss.length (Nat.zero_le _)
  have ht' : evsW dss dss.length = evBeg ++ t := ht
  rw [e1]
  refine ⟨by rw [ht']; simp [evBeg], beg_get ht'⟩
theorem beg_place {dss : List (List Dd)} (hb : workB dss = true) {i : Nat} (hi : i < 3) : ((eventsB dss).getD i zE).2.2.2.1 = (i : Int) ∧ ((eventsB dss).getD i zE).2.2.1 = false ∧ csE ((eventsB dss).getD i zE) = (i : Int) ∧ ((eventsB dss).getD i zE).1 = -1 := by
  obtain ⟨_, h0, h1, h2⟩ := beg_ev hb
  rcases (by omega : i = 0 ∨ i = 1 ∨ i = 2) with rfl | rfl | rfl
  · rw [h0]; exact ⟨rfl, rfl, rfl, rfl⟩
  · rw [h1]; exact ⟨rfl, rfl, rfl, rfl⟩
  · rw [h2]; exact ⟨rfl, rfl, rfl, rfl⟩
structure Told (dss : List (List Dd)) (f rows : List Int) : Prop where
  work : workB dss = true
  twelve : (eventsB dss).length ≤ 12
  webs : Webs (eventsB dss) f rows
  src : srcB (chcL (eventsB dss)) f = true
  rws : rowsL (eventsB dss) rows = true
  pw : Web (eventsB dss).length (pwL (eventsB dss) f rows)
  pwl : ∀ i j, i < (eventsB dss).length → line (pwL (eventsB dss) f rows) i j = (line (plcL (eventsB dss)) i j || line (fwL (eventsB dss) f) i j || (line (rwL (eventsB dss) rows) i j || line (agL (eventsB dss) f rows) i j))
  sw : Web (eventsB dss).length (swL dss (eventsB dss) f rows)
  swl : ∀ i j, i < (eventsB dss).length → line (swL dss (eventsB dss) f rows) i j = (line (kepL dss (eventsB dss)) i j || line (owL (eventsB dss) f) i j || (line (rwL (eventsB dss) rows) i j || line (agL (eventsB dss) f rows) i j))
  xw : Web (eventsB dss).length (xwL (eventsB dss) f rows)
  xwl : ∀ i j, i < (eventsB dss).length → line (xwL (eventsB dss) f rows) i j = (line (behL (eventsB dss)) i j || line (fwL (eventsB dss) f) i j || (line (rwL (eventsB dss) rows) i j || line (agL (eventsB dss) f rows) i j))
  cls : (clsB (eventsB dss)).length = (eventsB dss).length
theorem told_of {dss : List (List Dd)} {f rows : List Int} (h : taleB dss f rows = true) : Told dss f rows := by
  obtain ⟨hb, hs, hr⟩ := tale_use h
  have hx := eventsB_12 dss
  have W := webs_of hx hs hr
  have p := web_four (plc_line hx).1 W.fw W.rw' W.ag
  have s := web_four (kep_line (dss := dss) hx).1 (ow_line W).1 W.rw' W.ag
  have x := web_four (beh_line hx).1 W.fw W.rw' W.ag
  exact ⟨hb, hx, W, hs, hr, p.1, p.2, s.1, s.2, x.1, x.2, by unfold clsB; rw [if_pos hx, List.length_map]⟩
theorem cls_three {dss : List (List Dd)} (hb : workB dss = true) {c k : Nat} (hc : c < dss.length) (hk : k < (dss.getD c []).length) (h4 : (dAt dss c k).1 ≠ 4) : 3 ≤ clsD dss c k := by
  rcases cls_at (okC_of hb hc) hk h4 with ⟨_, e⟩ | ⟨_, j, _, _, _, e⟩
  · have := off_three dss c k; omega
  · have := off_three dss c j; omega
theorem one_sim {dss : List (List Dd)} (hb : workB dss = true) {b : Bd} {a : Ab} {τ : Nat → Nat} {T : Nat} {z : Int} (M : MI dss b a τ T z) (hT : 1 ≤ T) {c : Nat} (hc : c < dss.length) (hk : a.nx c < (dss.getD c []).length)
    (hz : (dAt dss c (a.nx c)).1 ≠ 4 → clsD dss c (a.nx c) = z) (hcan : ((dAt dss c (a.nx c)).1 ≤ 2 ∧ gAt dss c (a.nx c) = 0) ∨ a.N c = []) :
    ∃ a' τ', MI dss (oneM dss (eventsB dss) b c) a' τ' T z ∧ a'.nx = (bumpA a c).nx ∧ (gAt dss c (a.nx c) ≠ 0 → a'.N c = []) := by
  have hkd := okD_kindE (okC_of hb hc _ hk)
  rcases hkd with h | h | h | h
  · obtain ⟨f, τ', _, h1⟩ := oneM_read hb M hT hc hk h (hz (by omega)) (hcan.imp (fun h => h.2) id)
    exact ⟨_, τ', h1, rfl, fun hg => hcan.resolve_left (fun h => hg h.2)⟩
  · by_cases hg : gAt dss c (a.nx c) = 0
    · exact ⟨_, τ, oneM_note hb M hc hk h hg, rfl, fun h => absurd hg h⟩
    · have hN := hcan.resolve_left (fun h => hg h.2)
      obtain ⟨τ', h1⟩ := oneM_ink hb M hT hc hk h hg (hz (by omega)) hN
      exact ⟨_, τ', h1, rfl, fun _ => hN⟩
  · have hN := hcan.resolve_left (fun h => by omega)
    obtain ⟨τ', h1⟩ := oneM_swap hb M hT hc hk h (hz (by omega)) hN
    exact ⟨_, τ', h1, rfl, fun _ => hN⟩
  · have hN := hcan.resolve_left (fun h => by omega)
    exact ⟨bumpA a c, τ, oneM_wait hb M hc hk h hN, rfl, fun _ => hN⟩
def BD (dss : List (List Dd)) (a : Ab) : Prop := ∀ c, c < dss.length → 0 < a.nx c → a.nx c < (dss.getD c []).length → gAt dss c (a.nx c) ≠ 0 → gAt dss c (a.nx c - 1) ≠ gAt dss c (a.nx c)
theorem go_sim {dss : List (List Dd)} (hb : workB dss = true) {c : Nat} (hc : c < dss.length) (g : Int) {T : Nat} (hT : 1 ≤ T) {z : Int} : ∀ (m : Nat) (b : Bd) (a : Ab) (τ : Nat → Nat), MI dss b a τ T z → a.nx c < (dss.getD c []).length → (dss.getD c []).length ≤ a.nx c + m → gAt dss c (a.nx c) = g →
    ((dAt dss c (a.nx c)).1 ≠ 4 → clsD dss c (a.nx c) = z) → (((dAt dss c (a.nx c)).1 ≤ 2 ∧ gAt dss c (a.nx c) = 0) ∨ a.N c = []) →
    ∃ a' τ', MI dss (goM dss (eventsB dss) g c m b) a' τ' T z ∧ a.nx c < a'.nx c ∧ (∀ c', c' ≠ c → a'.nx c' = a.nx c') ∧ (a'.nx c < (dss.getD c []).length → gAt dss c (a'.nx c) ≠ 0 → gAt dss c (a'.nx c - 1) ≠ gAt dss c (a'.nx c))
  | 0, b, a, τ, M, hk, hm, _, _, _ => by omega
  | m + 1, b, a, τ, M, hk, hm, hg, hz, hcan => by
    obtain ⟨a1, τ1, M1, e1, e2⟩ := one_sim hb M hT hc hk hz hcan
    have hn1 : a1.nx c = a.nx c + 1 := by rw [e1, nx_bump, if_pos rfl]
    have ho1 : ∀ c', c' ≠ c → a1.nx c' = a.nx c' := fun c' h => by rw [e1, nx_bump, if_neg h]
    rw [goM, (nx_at M1.rep hc).2, hn1]
    by_cases hs : g = 0 ∨ a.nx c + 1 = (dss.getD c []).length ∨ gAt dss c (a.nx c + 1) ≠ g
    · rw [if_pos hs]
      refine ⟨a1, τ1, M1, by omega, ho1, ?_⟩
      rw [hn1]
      intro hl hg0
      rw [show a.nx c + 1 - 1 = a.nx c by omega, hg]
      rcases hs with hs | hs | hs
      · rw [hs]; exact fun e => hg0 e.symm
      · omega
      · exact fun e => hs e.symm
    · rw [if_neg hs]
      have hs0 : ¬ g = 0 := fun h => hs (.inl h)
      have hs1 : ¬ a.nx c + 1 = (dss.getD c []).length := fun h => hs (.inr (.inl h))
      have hs2 : gAt dss c (a.nx c + 1) = g := Classical.byContradiction (fun h => hs (.inr (.inr h)))
      have hl := M1.nxl c hc
      have hk1 : a.nx c + 1 < (dss.getD c []).length := by omega
      have hok := okC_of hb hc
      have n1 := num_grp hok hk (by rw [hg]; exact hs0)
      have n2 := num_grp hok hk1 (by rw [hs2]; exact hs0)
      have hcl : clsD dss c (a.nx c + 1) = clsD dss c (a.nx c) := (cls_iff hok hok hk1 hk n2.1 n1.1).2 ⟨rfl, .inr ⟨by rw [hs2]; exact hs0, by rw [hs2, hg]⟩⟩
      obtain ⟨a', τ', M', q1, q2, q3⟩ := go_sim hb hc g hT m (oneM dss (eventsB dss) b c) a1 τ1 M1 (by omega) (by omega) (by rw [hn1]; exact hs2) (by rw [hn1, hcl]; exact fun _ => hz n1.1) (.inr (e2 (by rw [hg]; exact hs0)))
      exact ⟨a', τ', M', by omega, fun c' h => by rw [q2 c' h, ho1 c' h], q3⟩
theorem cs_big {dss : List (List Dd)} (hb : workB dss = true) {a : Ab} {τ : Nat → Nat} {i : Nat} (hi : (stA dss a τ).D (sysW dss) i) (h3 : 3 ≤ i) : ∃ c k i', EvIs dss i c k i' ∧ k < a.nx c ∧ (sysW dss).cs i = clsD dss c k ∧ 3 ≤ clsD dss c k := by
  obtain ⟨c, k, i', E⟩ := ev_dec hb h3 hi.1.1
  have hX := hi.1.2
  rw [ex_at hb E, decide_eq_true_eq] at hX
  exact ⟨c, k, i', E, hX, (sys_at hb E).2.2.2, cls_three hb E.hc E.hk E.kind⟩
theorem step_sim {dss : List (List Dd)} (hb : workB dss = true) {b : Bd} {a : Ab} {τ : Nat → Nat} {T : Nat} {z : Int} (M : MI dss b a τ T z) (B : BD dss a) {s : Int} (hs : isB (possM dss b) s = true) :
    ∃ a' τ' z', MI dss (stepM dss (eventsB dss) b s) a' τ' (T + 1) z' ∧ BD dss a' := by
  have hm := isB_mem hs
  unfold possM at hm
  rw [List.mem_append, List.mem_map, List.mem_map] at hm
  rcases hm with ⟨c, hc, e⟩ | ⟨c, hc, e⟩
  · rw [List.mem_filter, List.mem_range] at hc
    obtain ⟨hc, hcan⟩ := hc
    have hl3 : dss.length ≤ 3 := by
      simp only [workB, Bool.and_eq_true, decide_eq_true_eq] at hb
      exact hb.1.1.1.1.2
    unfold canM at hcan
    rw [(nx_at M.rep hc).2, nts_at M.rep hc] at hcan
    simp only [Bool.and_eq_true, Bool.or_eq_true, decide_eq_true_eq, List.isEmpty_iff, List.map_eq_nil_iff] at hcan
    obtain ⟨hk, hcan⟩ := hcan
    have hok := okC_of hb hc
    have M1 : MI dss b a τ (T + 1) (if (dAt dss c (a.nx c)).1 = 4 then -1 else clsD dss c (a.nx c)) := by
      refine ⟨M.rep, M.inv.tick _ (fun i hi h3 e => ?_), M.nxl, M.nt⟩
      obtain ⟨c', k', i', E, hX, e1, e2⟩ := cs_big hb hi h3
      rw [e1] at e
      split at e
      · omega
      · rename_i h4
        obtain ⟨rfl, hq⟩ := (cls_iff (okC_of hb E.hc) hok E.hk hk E.kind h4).1 e
        rcases hq with hq | ⟨g1, g2⟩
        · omega
        · have h0 : gAt dss c' (a.nx c') ≠ 0 := by rw [← g2]; exact g1
          refine B c' hc (by omega) hk h0 ?_
          exact grp_between hb hc (j := k') (k := a.nx c' - 1) (l := a.nx c') (by omega) (by omega) hk h0 g2
    have hst : stepM dss (eventsB dss) b s = goM dss (eventsB dss) (gAt dss c (a.nx c)) c (dss.getD c []).length b := by
      unfold stepM
      rw [if_neg (by omega), show s.toNat = c by omega, (nx_at M.rep hc).2]
    rw [hst]
    obtain ⟨a', τ', M', q1, q2, q3⟩ := go_sim hb hc (gAt dss c (a.nx c)) (T := T + 1) (by omega) (dss.getD c []).length b a τ M1 hk (by omega) rfl (fun h => by rw [if_neg h]) hcan
    refine ⟨a', τ', _, M', fun c' hc' h0 hl hg => ?_⟩
    by_cases e : c' = c
    · subst e; exact q3 hl hg
    · rw [q2 c' e] at h0 hl hg ⊢
      exact B c' hc' h0 hl hg
  · rw [List.mem_filter, List.mem_range] at hc
    obtain ⟨hc, hne⟩ := hc
    rw [nts_at M.rep hc] at hne
    have hst : stepM dss (eventsB dss) b s = flushM b c := by
      unfold stepM
      rw [if_pos (by omega), show (s - 10).toNat = c by omega]
    rw [hst]
    cases hN : a.N c with
    | nil => rw [hN] at hne; simp at hne
    | cons x rest =>
      obtain ⟨τ', M'⟩ := flush_sim hb M hc hN
      exact ⟨_, τ', _, M', fun c' hc' => B c' hc'⟩
def newA : Ab := { nx := fun _ => 0, N := fun _ => [], R := fun p => if p < 3 then [p] else [], F := fun _ => 0 }
theorem new_sim {dss : List (List Dd)} (hb : workB dss = true) : MI dss (newM dss) newA (fun _ => 0) 0 (-1) ∧ BD dss newA := by
  have hX : ∀ j, (stA dss newA (fun _ => 0)).X j ↔ j < 3 := by
    intro j
    show (j < (eventsB dss).length ∧ exA dss newA j = true) ↔ _
    unfold exA newA
    simp
    have := (beg_ev hb).1
    omega
  have hN : ∀ c, (stA dss newA (fun _ => 0)).N c = [] := fun c => by show (if 0 ≤ c then [] else []) = []; split <;> rfl
  have hD : ∀ j, (stA dss newA (fun _ => 0)).D (sysW dss) j ↔ j < 3 := fun j => by
    unfold AbsSt.D
    rw [hX, hN]
    simp
  have hR : ∀ p, (stA dss newA (fun _ => 0)).R p = if p < 3 then [p] else [] := fun p => rfl
  have hbeg : ∀ j, j < 3 → (sysW dss).rd j = false ∧ (sysW dss).pl j = j ∧ (sysW dss).ck j = -1 ∧ (sysW dss).cs j = (j : Int) := by
    intro j hj
    obtain ⟨h1, h2, h3, h4⟩ := beg_place hb hj
    refine ⟨h2, ?_, h4, h3⟩
    show ((eventsB dss).getD j zE).2.2.2.1.toNat = j
    rw [h1, Int.toNat_natCast]
  have hno : ∀ j, (stA dss newA (fun _ => 0)).X j → ¬ 3 ≤ j := fun j h1 h2 => by have := (hX j).1 h1; omega
  refine ⟨⟨?_, ?_, fun c hc => Nat.zero_le _, fun c x hx => by cases hx⟩, fun c _ h => absurd h (Nat.lt_irrefl _)⟩
  · have hrep : ∀ (α : Type) (m : Nat) (x : α), List.replicate m x = (List.range m).map (fun _ => x) := by
      intro α m x
      rw [List.map_const', List.length_range]
    have hrep2 : ∀ (α β : Type) (l : List β) (x : α), List.replicate l.length x = l.map (fun _ => x) := by
      intro α β l x
      rw [List.map_const']
    obtain ⟨h3, b0, b1, b2⟩ := beg_ev hb
    refine ⟨hrep _ _ _, hrep _ _ _, rfl, rfl, ?_, ?_, ?_⟩
    · show [0, 0, 0] = (List.range 3).map (fun p => vlN dss (lastA newA p))
      have e0 : vlN dss 0 = 0 := by unfold vlN; rw [b0]
      have e1 : vlN dss 1 = 0 := by unfold vlN; rw [b1]
      have e2 : vlN dss 2 = 0 := by unfold vlN; rw [b2]
      have r3 : List.range 3 = [0, 1, 2] := rfl
      rw [r3]
      show [0, 0, 0] = [vlN dss 0, vlN dss 1, vlN dss 2]
      rw [e0, e1, e2]
    · show List.replicate _ (-1) = _
      rw [hrep2]
      refine List.map_congr_left (fun r hr => ?_)
      obtain ⟨j, rfl, hj, hjr⟩ := rs_in (eventsB_12 dss) hr
      have : ¬ exA dss newA j = true := by
        intro h
        have h3 := (hX j).1 ⟨hj, h⟩
        rw [(beg_place hb h3).2.1] at hjr
        cases hjr
      rw [Int.toNat_natCast, if_neg this]
    · show List.replicate _ (-1) = _
      rw [hrep2]
      refine List.map_congr_left (fun r hr => ?_)
      obtain ⟨j, rfl, hj, hjr⟩ := rs_in (eventsB_12 dss) hr
      have : ¬ exA dss newA j = true := by
        intro h
        have h3 := (hX j).1 ⟨hj, h⟩
        rw [(beg_place hb h3).2.1] at hjr
        cases hjr
      rw [Int.toNat_natCast, if_neg this]
  · constructor
    case beg => exact fun j hj => ⟨(hX j).2 hj, (hbeg j hj).1, (hbeg j hj).2.1, (hbeg j hj).2.2.1, rfl, (hbeg j hj).2.2.2⟩
    case lt => exact fun j hj => hj.1
    case down => exact fun i j hj h3 hij _ => absurd ((hX j).1 hj) (by omega)
    case note => exact fun c x hx => by rw [hN] at hx; cases hx
    case nord => exact fun c => by rw [hN]; simp
    case pend => exact fun c x j hx => by rw [hN] at hx; cases hx
    case rows =>
      intro p x
      rw [hR, hD]
      by_cases hp : p < 3
      · rw [if_pos hp]
        constructor
        · intro hx
          have e : x = p := by simpa using hx
          subst e
          exact ⟨hp, (hbeg x hp).1, (hbeg x hp).2.1⟩
        · rintro ⟨h1, h2, h3⟩
          rw [(hbeg x h1).2.1] at h3
          simp [h3]
      · rw [if_neg hp]
        constructor
        · intro hx; cases hx
        · rintro ⟨h1, h2, h3⟩
          rw [(hbeg x h1).2.1] at h3
          omega
    case rnod => exact fun p => by rw [hR]; split <;> simp
    case rord => exact fun p => by rw [hR]; split <;> simp
    case tle => exact fun j _ => Nat.le_refl _
    case tpos => exact fun j hj h3 => absurd h3 (hno j hj.1)
    case same => exact fun i j hi _ h3 => absurd h3 (hno i hi.1)
    case mate => exact fun i j hi _ h3 => absurd h3 (hno i hi.1)
    case now => exact fun i hi h3 => absurd h3 (hno i hi.1)
    case kept => exact fun i j hi _ h3 => absurd h3 (hno i hi.1)
    case src =>
      intro r hr hrd
      rw [(hbeg r ((hX r).1 hr)).1] at hrd
      cases hrd
    case agst =>
      intro r w p hr hrd
      rw [(hbeg r ((hX r).1 hr)).1] at hrd
      cases hrd
    case inL => exact fun i hi h3 => absurd h3 (hno i hi)
    case coh => exact fun i j hi _ h3 => absurd h3 (hno i hi)
    case cohw => exact fun i j hi _ h3 => absurd h3 (hno i hi)
theorem ev_vals {dss : List (List Dd)} (hb : workB dss = true) {j : Nat} (hj : j < (eventsB dss).length) : (0 ≤ vlN dss j ∧ vlN dss j ≤ 9) ∧ 0 ≤ plN dss j ∧ plN dss j ≤ 2 := by
  by_cases h3 : j < 3
  · have e := (evs_good (dss := dss) (by simp only [workB, Bool.and_eq_true, decide_eq_true_eq] at hb; intro i hi; have := List.all_eq_true.1 hb.1.1.1.2 _ (List.getElem_mem hi); rw [List.getD_eq_getElem?_getD, List.getElem?_eq_getElem hi]; exact this) dss.length (Nat.le_refl _)).1
    obtain ⟨t, ht⟩ := e
    have e1 : eventsB dss = evBeg ++ t := by rw [eventsB, if_pos hb, ht]
    unfold vlN plN
    rw [e1, List.getD_eq_getElem?_getD, List.getElem?_append_left (by simp [evBeg]; omega)]
    have : j = 0 ∨ j = 1 ∨ j = 2 := by omega
    rcases this with rfl | rfl | rfl <;> simp [evBeg]
  · obtain ⟨c, k, i, E⟩ := ev_dec hb (by omega) hj
    have hd := okC_of hb E.hc k E.hk
    unfold vlN plN
    rw [E.at hb]
    simp only
    unfold vlI
    have hd' := hd
    unfold dAt at hd' ⊢
    simp only [okD, deedB, decide_eq_true_eq] at hd'
    split <;> omega
theorem ev_nine (dss : List (List Dd)) : (eventsB dss).length ≤ 9 := by
  unfold eventsB
  split
  · rename_i h
    simp only [workB, Bool.and_eq_true, decide_eq_true_eq] at h
    obtain ⟨⟨⟨⟨_, h2⟩, _⟩, h4⟩, _⟩ := h
    have := evsW_len (fun i hi => all_get [] h2 i hi) dss.length (Nat.le_refl _)
    omega
  · simp
theorem nodup_len {lo n : Nat} : ∀ {l : List Nat}, l.Nodup → (∀ x ∈ l, lo ≤ x ∧ x < n) → l.length ≤ n - lo := fun {l} hn h => by
  have hs : ∀ x ∈ l, x ∈ List.range' lo (n - lo) := fun x hx => by
    have := h x hx
    rw [List.mem_range'_1]; omega
  have : l.length ≤ (List.range' lo (n - lo)).length := by
    clear h
    generalize List.range' lo (n - lo) = r at hs
    induction l generalizing r with
    | nil => simp
    | cons x t ih =>
      rw [List.nodup_cons] at hn
      have hx := hs x (by simp)
      have := ih hn.2 (r.erase x) (fun y hy => (List.mem_erase_of_ne (fun e => hn.1 (by rw [← e]; exact hy))).2 (hs y (by simp [hy])))
      rw [List.length_erase_of_mem hx] at this
      have : 0 < r.length := List.length_pos_of_mem hx
      simp only [List.length_cons]
      omega
  simpa using this
theorem allB_map {α : Type} (l : List α) (f : α → Int) {lo hi : Int} {most : Nat} (h : ∀ x ∈ l, lo ≤ f x ∧ f x ≤ hi) (hm : l.length ≤ most) : allB (l.map f) lo hi most = true := by
  unfold allB
  rw [Bool.and_eq_true, List.all_eq_true, decide_eq_true_eq, List.length_map]
  refine ⟨fun y hy => ?_, hm⟩
  obtain ⟨x, hx, rfl⟩ := List.mem_map.1 hy
  have := h x hx
  simp [this]
theorem mi_board {dss : List (List Dd)} (hb : workB dss = true) {b : Bd} {a : Ab} {τ : Nat → Nat} {T : Nat} {z : Int} (M : MI dss b a τ T z) : boardB dss b = true := by
  have h9 := ev_nine dss
  have R := M.rep
  have I := M.inv
  have hlen3 : 3 ≤ (eventsB dss).length := by
    have := I.lt 2 (I.beg 2 (by omega)).1
    exact this
  have rowlt : ∀ p x, x ∈ a.R p → x < (eventsB dss).length := fun p x hx => I.lt x ((I.rows p x).1 hx).1.1
  have notelt : ∀ c x, x ∈ a.N c → 3 ≤ x ∧ x < (eventsB dss).length := fun c x hx => by
    have hx' : x ∈ (stA dss a τ).N (c : Int) := by rw [st_N]; exact hx
    have := I.note (c : Int) x hx'
    exact ⟨this.2.1, I.lt x this.1⟩
  have hlast : ∀ p, p < 3 → lastA a p < (eventsB dss).length := fun p hp => by
    unfold lastA
    cases hl : (a.R p).getLast? with
    | none => show p < _; omega
    | some x => exact rowlt p x (List.mem_of_getLast? hl)
  have hF : ∀ r, r < (eventsB dss).length → ((eventsB dss).getD r zE).2.2.1 = true → exA dss a r = true → a.F r < (eventsB dss).length := fun r h1 h2 h3 => I.lt _ (I.src r ⟨h1, h3⟩ h2).1
  have hx12 : (eventsB dss).length ≤ 12 := by omega
  have rl : (idxB rdE (eventsB dss)).length ≤ 12 := by
    unfold idxB
    rw [if_pos hx12]
    have := idxK_len rdE (eventsB dss) (eventsB dss).length
    omega
  have rdin : ∀ r ∈ idxB rdE (eventsB dss), (0 ≤ r ∧ r < ((eventsB dss).length : Int)) ∧ ((eventsB dss).getD r.toNat zE).2.2.1 = true := fun r hr => by
    unfold idxB at hr
    rw [if_pos hx12] at hr
    exact ⟨idxK_lt _ _ _ _ hr, idxK_mem _ _ _ _ hr⟩
  unfold boardB
  rw [Bool.and_eq_true, Bool.and_eq_true, Bool.and_eq_true]
  refine ⟨?_, ?_, ?_, ?_⟩
  · unfold shapeB
    rw [hb, R.plc, R.lst, R.rws, R.nts, R.nxt]
    simp
  · unfold fillB
    rw [R.sn, R.fr, R.plc, R.lst, List.length_map, List.length_map]
    simp only [decide_true, Bool.true_and, Bool.and_eq_true]
    refine ⟨allB_map _ _ (fun p hp => (ev_vals hb (hlast p (List.mem_range.1 hp))).1) (by simp), allB_map _ _ (fun p hp => by have := hlast p (List.mem_range.1 hp); omega) (by simp), allB_map _ _ (fun r hr => ?_) rl, allB_map _ _ (fun r hr => ?_) rl⟩
    · obtain ⟨h1, h2⟩ := rdin r hr
      by_cases hE : exA dss a r.toNat = true
      · rw [if_pos hE]
        have := (ev_vals hb (hF r.toNat (by omega) h2 hE)).1
        omega
      · rw [if_neg hE]; omega
    · obtain ⟨h1, h2⟩ := rdin r hr
      by_cases hE : exA dss a r.toNat = true
      · rw [if_pos hE]
        have := hF r.toNat (by omega) h2 hE
        omega
      · rw [if_neg hE]; omega
  · unfold rowsBd
    rw [List.all_eq_true]
    intro p hp
    rw [R.rws, map_at _ _ (List.mem_range.1 hp)]
    refine allB_map _ _ (fun x hx => by have := rowlt p x hx; exact ⟨Int.natCast_nonneg _, by show (x : Int) ≤ _; omega⟩) ?_
    have := nodup_len (lo := 0) (I.rnod p) (fun x hx => ⟨Nat.zero_le _, rowlt p x hx⟩)
    have e : (stA dss a τ).R p = a.R p := rfl
    rw [e] at this
    omega
  · rw [List.all_eq_true]
    intro c hc
    have hc := List.mem_range.1 hc
    unfold ckB
    rw [(nx_at R hc).1, R.nts, map_at _ _ hc, List.length_map]
    have h1 := M.nxl c hc
    have hnd : (a.N c).Nodup := by
      have := I.nord (c : Int)
      rw [st_N] at this
      exact this.imp (fun h => Nat.ne_of_lt h)
    have h2 := nodup_len hnd (notelt c)
    simp only [Bool.and_eq_true, decide_eq_true_eq]
    refine ⟨⟨by omega, by omega⟩, by omega, ?_⟩
    unfold ntsB
    rw [List.all_eq_true]
    intro y hy
    obtain ⟨x, hx, rfl⟩ := List.mem_map.1 hy
    have hn := notelt c x hx
    have := ev_vals hb hn.2
    unfold ntB ntE
    simp only [Bool.and_eq_true, decide_eq_true_eq]
    omega
def sumN (f : Nat → Nat) : Nat → Nat
  | 0 => 0
  | m + 1 => sumN f m + f m
theorem sum_same {f g : Nat → Nat} : ∀ m : Nat, (∀ c, c < m → f c = g c) → sumN f m = sumN g m
  | 0, _ => rfl
  | m + 1, h => by rw [sumN, sumN, sum_same m (fun c hc => h c (by omega)), h m (by omega)]
theorem sum_less {f g : Nat → Nat} {c : Nat} (h1 : f c + 1 ≤ g c) (h2 : ∀ c', c' ≠ c → f c' = g c') : ∀ m : Nat, c < m → sumN f m + 1 ≤ sumN g m
  | 0, h => by omega
  | m + 1, h => by
    rw [sumN, sumN]
    by_cases e : c = m
    · subst e
      rw [sum_same c (fun c' hc => h2 c' (by omega))]
      omega
    · have := sum_less h1 h2 m (by omega)
      rw [h2 m (fun h => e h.symm)]
      omega
def leftM (dss : List (List Dd)) (b : Bd) (c : Nat) : Nat := 2 * ((dss.getD c []).length - nxN b c) + (b.nts.getD c []).length
def mesM (dss : List (List Dd)) (b : Bd) : Nat := sumN (leftM dss b) dss.length
def LN (dss : List (List Dd)) (b : Bd) : Prop := b.nxt.length = dss.length ∧ b.nts.length = dss.length
theorem getD_setL {α : Type} (l : List α) (z x : α) (i j : Nat) (hi : i < l.length) : (l.set i x).getD j z = if i = j then x else l.getD j z := by
  rw [List.getD_eq_getElem?_getD, List.getElem?_set]
  by_cases e : i = j
  · subst e; rw [if_pos rfl, if_pos hi, if_pos rfl]; rfl
  · rw [if_neg e, if_neg e, List.getD_eq_getElem?_getD]
theorem deed_nts (dss : List (List Dd)) (es : List Ev) (b : Bd) (c k : Nat) : (deedM dss es b c k).nxt = b.nxt ∧ ((deedM dss es b c k).nts = b.nts ∨ ∃ x, (deedM dss es b c k).nts = b.nts.set c (b.nts.getD c [] ++ [x])) := by
  unfold deedM
  split
  · exact ⟨rfl, .inl rfl⟩
  · split
    · exact ⟨rfl, .inl rfl⟩
    · split
      · exact ⟨rfl, .inl rfl⟩
      · split
        · exact ⟨rfl, .inr ⟨_, rfl⟩⟩
        · exact ⟨rfl, .inl rfl⟩
theorem nx_one {dss : List (List Dd)} {es : List Ev} {b : Bd} (hL : LN dss b) (h0 : ∀ c, 0 ≤ b.nxt.getD c 0) {c : Nat} (hc : c < dss.length) : (∀ c', nxN (oneM dss es b c) c' = if c = c' then nxN b c + 1 else nxN b c') ∧ ∀ c', 0 ≤ (oneM dss es b c).nxt.getD c' 0 := by
  have e : ∀ c', (oneM dss es b c).nxt.getD c' 0 = if c = c' then b.nxt.getD c 0 + 1 else b.nxt.getD c' 0 := fun c' => by
    show (b.nxt.set c (b.nxt.getD c 0 + 1)).getD c' 0 = _
    rw [getD_setL _ _ _ _ _ (by rw [hL.1]; exact hc)]
  constructor
  · intro c'
    unfold nxN
    rw [e]
    split
    · have := h0 c; omega
    · rfl
  · intro c'
    rw [e]
    split
    · have := h0 c; omega
    · exact h0 c'
theorem mes_one {dss : List (List Dd)} {es : List Ev} {b : Bd} (hL : LN dss b) (h0 : ∀ c, 0 ≤ b.nxt.getD c 0) {c : Nat} (hc : c < dss.length) (hk : nxN b c < (dss.getD c []).length) : mesM dss (oneM dss es b c) + 1 ≤ mesM dss b ∧ LN dss (oneM dss es b c) ∧ ∀ c', 0 ≤ (oneM dss es b c).nxt.getD c' 0 := by
  obtain ⟨hn, h0'⟩ := nx_one (es := es) hL h0 hc
  obtain ⟨_, hd⟩ := deed_nts dss es b c (nxN b c)
  have hnts : (∀ c', c' ≠ c → (oneM dss es b c).nts.getD c' [] = b.nts.getD c' []) ∧ ((oneM dss es b c).nts.getD c []).length ≤ (b.nts.getD c []).length + 1 ∧ (oneM dss es b c).nts.length = b.nts.length := by
    have e : (oneM dss es b c).nts = (deedM dss es b c (nxN b c)).nts := rfl
    rw [e]
    rcases hd with hd | ⟨x, hd⟩
    · rw [hd]; exact ⟨fun _ _ => rfl, by omega, rfl⟩
    · rw [hd]
      refine ⟨fun c' h => ?_, ?_, by rw [List.length_set]⟩
      · rw [getD_setL _ _ _ _ _ (by rw [hL.2]; exact hc), if_neg (fun h2 => h h2.symm)]
      · rw [getD_setL _ _ _ _ _ (by rw [hL.2]; exact hc), if_pos rfl, List.length_append]; simp
  refine ⟨sum_less (c := c) ?_ (fun c' h => ?_) _ hc, ⟨?_, ?_⟩, h0'⟩
  · unfold leftM
    rw [hn, if_pos rfl]
    have := hnts.2.1
    omega
  · unfold leftM
    rw [hn, if_neg (fun h2 => h h2.symm), hnts.1 c' h]
  · show (b.nxt.set c _).length = _
    rw [List.length_set]; exact hL.1
  · rw [hnts.2.2]; exact hL.2
theorem mes_go {dss : List (List Dd)} {es : List Ev} (g : Int) {c : Nat} (hc : c < dss.length) : ∀ (m : Nat) (b : Bd), LN dss b → (∀ c, 0 ≤ b.nxt.getD c 0) → 1 ≤ m → nxN b c < (dss.getD c []).length → (dss.getD c []).length ≤ nxN b c + m →
    mesM dss (goM dss es g c m b) + 1 ≤ mesM dss b ∧ LN dss (goM dss es g c m b) ∧ ∀ c', 0 ≤ (goM dss es g c m b).nxt.getD c' 0
  | 0, _, _, _, h, _, _ => by omega
  | m + 1, b, hL, h0, _, hk, hm => by
    have h1 := mes_one (es := es) hL h0 hc hk
    have hn := (nx_one (es := es) hL h0 hc).1 c
    rw [if_pos rfl] at hn
    rw [goM]
    split
    · exact h1
    · rename_i hs
      have hs1 : ¬ nxN (oneM dss es b c) c = (dss.getD c []).length := fun h => hs (.inr (.inl h))
      have h2 := mes_go (es := es) g hc m (oneM dss es b c) h1.2.1 h1.2.2 (by omega) (by omega) (by omega)
      exact ⟨by omega, h2.2⟩
theorem mes_flush {dss : List (List Dd)} {b : Bd} (hL : LN dss b) (h0 : ∀ c, 0 ≤ b.nxt.getD c 0) {c : Nat} (hc : c < dss.length) (hne : b.nts.getD c [] ≠ []) : mesM dss (flushM b c) + 1 ≤ mesM dss b ∧ LN dss (flushM b c) ∧ ∀ c', 0 ≤ (flushM b c).nxt.getD c' 0 := by
  unfold flushM
  cases hq : b.nts.getD c [] with
  | nil => exact absurd hq hne
  | cons x r =>
    have e : ∀ c', (b.nts.set c r).getD c' [] = if c = c' then r else b.nts.getD c' [] := fun c' => getD_setL _ _ _ _ _ (by rw [hL.2]; exact hc)
    refine ⟨sum_less (c := c) ?_ (fun c' h => ?_) _ hc, ⟨hL.1, ?_⟩, h0⟩
    · show 2 * ((dss.getD c []).length - nxN b c) + ((b.nts.set c r).getD c []).length + 1 ≤ 2 * ((dss.getD c []).length - nxN b c) + (b.nts.getD c []).length
      rw [e, if_pos rfl, hq]
      simp only [List.length_cons]
      omega
    · show 2 * ((dss.getD c' []).length - nxN b c') + ((b.nts.set c r).getD c' []).length = 2 * ((dss.getD c' []).length - nxN b c') + (b.nts.getD c' []).length
      rw [e, if_neg (fun h2 => h h2.symm)]
    · show (b.nts.set c r).length = _
      rw [List.length_set]; exact hL.2
theorem mes_step {dss : List (List Dd)} (hb : workB dss = true) {es : List Ev} {b : Bd} (hL : LN dss b) (h0 : ∀ c, 0 ≤ b.nxt.getD c 0) {s : Int} (hs : isB (possM dss b) s = true) : mesM dss (stepM dss es b s) + 1 ≤ mesM dss b ∧ LN dss (stepM dss es b s) ∧ ∀ c', 0 ≤ (stepM dss es b s).nxt.getD c' 0 := by
  have hl3 : dss.length ≤ 3 := by
    simp only [workB, Bool.and_eq_true, decide_eq_true_eq] at hb
    exact hb.1.1.1.1.2
  have hm := isB_mem hs
  unfold possM at hm
  rw [List.mem_append, List.mem_map, List.mem_map] at hm
  rcases hm with ⟨c, hc, e⟩ | ⟨c, hc, e⟩
  · rw [List.mem_filter, List.mem_range] at hc
    obtain ⟨hc, hcan⟩ := hc
    unfold canM at hcan
    simp only [Bool.and_eq_true, decide_eq_true_eq] at hcan
    unfold stepM
    rw [if_neg (by omega), show s.toNat = c by omega]
    exact mes_go _ hc _ b hL h0 (by omega) hcan.1 (by omega)
  · rw [List.mem_filter, List.mem_range] at hc
    obtain ⟨hc, hne⟩ := hc
    unfold stepM
    rw [if_pos (by omega), show (s - 10).toNat = c by omega]
    refine mes_flush hL h0 hc (fun h => ?_)
    rw [h] at hne
    simp at hne
theorem sum_len (dss : List (List Dd)) : sumN (fun c => (dss.getD c []).length) dss.length = lenW dss := by
  have h : ∀ (l : List (List Dd)) (m : Nat), m ≤ l.length → sumN (fun c => (l.getD c []).length) m = lenW (l.take m) := by
    intro l m
    induction m with
    | zero => intro _; simp [sumN, lenW]
    | succ m ih =>
      intro hm
      rw [sumN, ih (by omega), List.take_add_one, List.getElem?_eq_getElem (by omega), List.getD_eq_getElem?_getD, List.getElem?_eq_getElem (by omega)]
      simp only [Option.toList_some, Option.getD_some]
      have : ∀ (x : List (List Dd)) (d : List Dd), lenW (x ++ [d]) = lenW x + d.length := by
        intro x d
        induction x with
        | nil => simp [lenW]
        | cons y x ih => rw [List.cons_append, lenW, ih, lenW]; omega
      rw [this]
  have := h dss dss.length (Nat.le_refl _)
  rw [List.take_length] at this
  exact this
theorem mes_new {dss : List (List Dd)} (hb : workB dss = true) : mesM dss (newM dss) ≤ 24 ∧ LN dss (newM dss) ∧ ∀ c', 0 ≤ (newM dss).nxt.getD c' 0 := by
  have h12 : lenW dss ≤ 12 := by
    simp only [workB, Bool.and_eq_true, decide_eq_true_eq] at hb
    exact hb.1.1.2
  have h0 : ∀ c', (newM dss).nxt.getD c' 0 = 0 := fun c' => by
    show (List.replicate dss.length (0 : Int)).getD c' 0 = 0
    rw [List.getD_eq_getElem?_getD, List.getElem?_replicate]
    split <;> rfl
  refine ⟨?_, ⟨by show (List.replicate _ _).length = _; simp, by show (List.replicate _ _).length = _; simp⟩, fun c' => by rw [h0]; omega⟩
  have e : ∀ m : Nat, sumN (leftM dss (newM dss)) m = 2 * sumN (fun c => (dss.getD c []).length) m := by
    intro m
    induction m with
    | zero => rfl
    | succ m ih =>
      rw [sumN, sumN, ih]
      have : leftM dss (newM dss) m = 2 * (dss.getD m []).length := by
        unfold leftM nxN
        rw [h0]
        have : (newM dss).nts.getD m [] = [] := by
          show (List.replicate dss.length ([] : List Nt)).getD m [] = []
          rw [List.getD_eq_getElem?_getD, List.getElem?_replicate]
          split <;> rfl
        rw [this]
        simp
      rw [this]
      omega
  unfold mesM
  rw [e, sum_len]
  omega
end Go.Proofs.Ytgakfkjjkobpiaa
