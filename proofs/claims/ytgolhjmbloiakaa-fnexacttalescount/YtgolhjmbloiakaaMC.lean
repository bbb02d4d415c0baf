/- Several texts in one. -/
import Derived.Test.YtgolhjmbloiakaaMA
import Derived.Test.YtgolhjmbloiakaaMB
import Derived.Deep.QuietTactic
import Derived.BigQuiet
import Derived.Maps.AppendAt
import Derived.Deep.CutRange
import Derived.Outline
import Derived.OwnWalk
import Derived.Lib.Hide
import Derived.RangeFuncBox
import Derived.BigRegion
/- Plain mathematics of events as the program lists them: a deed of the Group of the deed ahead has the class of the last event. Of a right work that is what the specification lists. -/
namespace Go.Proofs.Ytgolhjmbloiakaa

/-- Does the deed k go on with the Group of the deed ahead? -/
def goB (ds : List Dd) (k : Nat) : Bool := decide (0 < k) && ((ds.getD k zD).2.2.2 != 0) && ((ds.getD k zD).2.2.2 == (ds.getD (k - 1) zD).2.2.2)
def lastC (out : List Ev) : Int := csE (out.getD (out.length - 1) zE)
def ncE (out : List Ev) (go : Bool) : Int := if go = true then lastC out else (out.length : Int)
def clkP (i : Nat) (ds : List Dd) (out : List Ev) : Nat → List Ev
  | 0 => out
  | k + 1 => clkP i ds out k ++ oneE i k (ds.getD k zD) (ncE (clkP i ds out k) (goB ds k))
def evsP (dss : List (List Dd)) : Nat → List Ev
  | 0 => evBeg
  | i + 1 => clkP i (dss.getD i []) (evsP dss i) (dss.getD i []).length
/-- Deeds of one Group stand side by side. -/
def Tog (ds : List Dd) : Prop := ∀ k j, k < ds.length → j < k → (ds.getD k zD).2.2.2 ≠ 0 → (ds.getD j zD).2.2.2 = (ds.getD k zD).2.2.2 → (ds.getD (k - 1) zD).2.2.2 = (ds.getD k zD).2.2.2
theorem grpK_own {i : Nat} {own : List Int} {ds : List Dd} (hl : own.length = 10) : ∀ (k : Nat) (o : List Int), grpK i own ds k = some o → (∀ j, j < k → okD (ds.getD j zD) = true) →
    ∀ j, j < k → (ds.getD j zD).2.2.2 ≠ 0 → o.getD (ds.getD j zD).2.2.2.toNat 0 = (i : Int) + 1
  | 0, o, h, _, j, hj, _ => by omega
  | k + 1, o', h, hok, j, hj, h0 => by
    rw [grpK] at h
    cases hq : grpK i own ds k with
    | none => rw [hq] at h; cases h
    | some o =>
      rw [hq] at h
      have ih := grpK_own hl k o hq (fun j hj => hok j (by omega))
      have hol := grpK_len hq
      simp only at h
      have okj := okD_restE (hok j hj)
      split at h
      · rename_i hz
        simp only [Option.some.injEq] at h
        subst h
        by_cases e : j = k
        · subst e; exact absurd hz h0
        · exact ih j (by omega) h0
      · rename_i hz
        split at h
        · cases h
        · simp only [Option.some.injEq] at h
          subst h
          have okk := okD_restE (hok k (by omega))
          rw [getD_setE o _ _ _ (by omega)]
          by_cases e : (ds.getD k zD).2.2.2.toNat = (ds.getD j zD).2.2.2.toNat
          · rw [if_pos e]
          · rw [if_neg e]
            by_cases e2 : j = k
            · subst e2; exact absurd rfl e
            · exact ih j (by omega) h0
theorem grpK_tog {i : Nat} {own : List Int} {ds : List Dd} (hl : own.length = 10) {o : List Int} (h : grpK i own ds ds.length = some o) (hok : ∀ j, j < ds.length → okD (ds.getD j zD) = true) : Tog ds := by
  intro k j hk hj h0 he
  have step : ∃ o', grpK i own ds (k + 1) = some o' := by
    cases hq : grpK i own ds (k + 1) with
    | none => rw [grpK_none hq ds.length (by omega)] at h; cases h
    | some o' => exact ⟨o', rfl⟩
  obtain ⟨o', ho'⟩ := step
  rw [grpK] at ho'
  cases hq : grpK i own ds k with
  | none => rw [hq] at ho'; cases ho'
  | some o1 =>
    rw [hq] at ho'
    have hown := grpK_own hl k o1 hq (fun j hj => hok j (by omega)) j hj (by rw [he]; exact h0)
    rw [he] at hown
    simp only at ho'
    rw [if_neg h0] at ho'
    split at ho'
    · cases ho'
    · rename_i hn
      apply Classical.byContradiction
      intro hc
      exact hn ⟨by rw [hown]; omega, .inr (.inr hc)⟩
theorem work_tog {dss : List (List Dd)} (hb : workB dss = true) : ∀ i, i < dss.length → Tog (dss.getD i []) := by
  intro i hi
  simp only [workB, Bool.and_eq_true, decide_eq_true_eq] at hb
  obtain ⟨⟨⟨⟨_, h2⟩, _⟩, _⟩, hg⟩ := hb
  have hok := all_get [] h2 i hi
  simp only [okL, Bool.and_eq_true, decide_eq_true_eq] at hok
  have hs : ∀ n, n ≤ dss.length → ∃ o, grpW dss n = some o := by
    intro n hn
    cases hq : grpW dss n with
    | none => rw [grpB, grpW_none hq dss.length hn] at hg; cases hg
    | some o => exact ⟨o, rfl⟩
  obtain ⟨o, ho⟩ := hs i (by omega)
  obtain ⟨o', ho'⟩ := hs (i + 1) (by omega)
  rw [grpW, ho] at ho'
  exact grpK_tog (grpW_len ho) ho' (fun j hj => all_get zD hok.1 j hj)
theorem last_snoc (out t : List Ev) (e : Ev) : lastC (out ++ (t ++ [e])) = csE e := by
  unfold lastC
  rw [← List.append_assoc, List.length_append, List.getD_eq_getElem?_getD]
  simp
theorem clkP_same {i : Nat} {ds : List Dd} {out : List Ev} (ht : Tog ds) (hok : ∀ j, j < ds.length → okD (ds.getD j zD) = true) (ho : 1 ≤ out.length) :
    ∀ k : Nat, k ≤ ds.length → clkP i ds out k = (clkE i ds out k).1 ∧ (clkE i ds out k).2.length = 10 ∧ 1 ≤ (clkE i ds out k).1.length ∧
      (∀ g : Nat, 0 < g → g < 10 → (∀ j, j < k → (ds.getD j zD).2.2.2 ≠ (g : Int)) → (clkE i ds out k).2.getD g 0 = 0) ∧
      (∀ j, j < k → (ds.getD j zD).2.2.2 ≠ 0 → (clkE i ds out k).2.getD (ds.getD j zD).2.2.2.toNat 0 ≠ 0) ∧
      (0 < k → (ds.getD (k - 1) zD).2.2.2 ≠ 0 → (clkE i ds out k).2.getD (ds.getD (k - 1) zD).2.2.2.toNat 0 = lastC (clkE i ds out k).1)
  | 0, _ => ⟨rfl, by simp [clkE], ho, fun g _ hg _ => by simp only [clkE]; rw [List.getD_eq_getElem?_getD, List.getElem?_replicate, if_pos hg]; rfl, fun j hj => by omega, fun h => by omega⟩
  | k + 1, hk => by
    obtain ⟨h1, h2, h3, h4, h5, h6⟩ := clkP_same ht hok ho k (by omega)
    have hd := hok k (by omega)
    obtain ⟨r0, r1, r2, r3, r4⟩ := okD_restE hd
    have hkd := okD_kindE hd
    rw [clkP, clkE, h1, Nat.add_sub_cancel]
    generalize hS : clkE i ds out k = S at h2 h3 h4 h5 h6
    obtain ⟨L, f⟩ := S
    simp only at h2 h3 h4 h5 h6
    generalize hdd : ds.getD k zD = d at hd r0 r1 r2 r3 r4 hkd
    have hg : goB ds k = (decide (0 < k) && (d.2.2.2 != 0) && (d.2.2.2 == (ds.getD (k - 1) zD).2.2.2)) := by rw [goB, hdd]
    -- deeds ahead that have Group 0 or not
    have old5 : ∀ j, j < k → (ds.getD j zD).2.2.2 ≠ 0 → (ds.getD j zD).2.2.2.toNat < 10 := fun j hj _ => by
      have := okD_restE (hok j (by omega)); omega
    by_cases h4k : d.1 = 4
    · have g0 : d.2.2.2 = 0 := r4 (by omega)
      have e1 : oneE i k d (ncE L (goB ds k)) = [] := by unfold oneE; rw [if_pos h4k]
      rw [stepE, if_pos h4k, e1, List.append_nil]
      refine ⟨rfl, h2, h3, fun g hg0 hg10 hn => h4 g hg0 hg10 (fun j hj => hn j (by omega)), fun j hj hne => ?_, fun _ hne => absurd g0 hne⟩
      by_cases e : j = k
      · subst e; rw [hdd] at hne; exact absurd g0 hne
      · exact h5 j (by omega) hne
    · rw [stepE, if_neg h4k]
      by_cases g0 : d.2.2.2 = 0
      · have e1 : ncE L (goB ds k) = clsE d.2.2.2 L.length f := by
          rw [hg, g0]
          simp [ncE, clsE]
        have e2 : fstE d.2.2.2 L.length f = f := by unfold fstE; rw [if_neg (by rw [g0]; omega)]
        rw [e1]
        simp only
        rw [e2]
        refine ⟨by trivial, h2, by rw [List.length_append]; omega, fun g hg0 hg10 hn => h4 g hg0 hg10 (fun j hj => hn j (by omega)), fun j hj hne => ?_, fun _ hne => absurd g0 hne⟩
        by_cases e : j = k
        · subst e; rw [hdd] at hne; exact absurd g0 hne
        · exact h5 j (by omega) hne
      · have gp : (0 : Int) < d.2.2.2 := by omega
        have k2 : d.1 = 1 ∨ d.1 = 2 := by
          apply Classical.byContradiction
          intro hn
          exact g0 (r4 (by omega))
        have one : ∀ c, ∃ e, oneE i k d c = [e] ∧ csE e = c := by
          intro c
          unfold oneE
          rcases k2 with e | e
          · exact ⟨_, by rw [if_neg h4k, if_neg (by omega), if_neg (by omega)], rfl⟩
          · exact ⟨_, by rw [if_neg h4k, if_neg (by omega), if_pos e], rfl⟩
        have fin : ∀ c, lastC (L ++ oneE i k d c) = c := fun c => by
          obtain ⟨e, he, hc⟩ := one c
          rw [he, ← hc]
          exact last_snoc L [] e
        by_cases hgo : 0 < k ∧ (ds.getD (k - 1) zD).2.2.2 = d.2.2.2
        · obtain ⟨k0, hgo⟩ := hgo
          have e0 : goB ds k = true := by rw [hg, hgo]; simp [k0, g0]
          have f0 : f.getD d.2.2.2.toNat 0 ≠ 0 := by have := h5 (k - 1) (by omega) (by rw [hgo]; exact g0); rw [hgo] at this; exact this
          have f1 : f.getD d.2.2.2.toNat 0 = lastC L := by have := h6 k0 (by rw [hgo]; exact g0); rw [hgo] at this; exact this
          have e2 : fstE d.2.2.2 L.length f = f := by unfold fstE; rw [if_neg (fun h => f0 h.2)]
          have e1 : ncE L (goB ds k) = clsE d.2.2.2 L.length f := by
            rw [e0]
            unfold ncE clsE
            rw [if_pos rfl, if_pos gp, e2, f1]
          have e3 : clsE d.2.2.2 L.length f = f.getD d.2.2.2.toNat 0 := by unfold clsE; rw [if_pos gp, e2]
          rw [e1]
          simp only
          rw [e2]
          refine ⟨by trivial, h2, by rw [List.length_append]; omega, fun g hg0 hg10 hn => h4 g hg0 hg10 (fun j hj => hn j (by omega)), fun j hj hne => ?_, fun _ _ => ?_⟩
          · by_cases e : j = k
            · subst e; rw [hdd]; exact f0
            · exact h5 j (by omega) hne
          · rw [fin, e3]
        · have none : ∀ j, j < k → (ds.getD j zD).2.2.2 ≠ d.2.2.2 := by
            intro j hj he
            refine hgo ⟨by omega, ?_⟩
            have := ht k j (by omega) hj (by rw [hdd]; exact g0) (by rw [hdd]; exact he)
            rw [hdd] at this
            exact this
          obtain ⟨g, hgg⟩ := Int.eq_ofNat_of_zero_le r2
          have g10 : g < 10 := by omega
          have f0 : f.getD d.2.2.2.toNat 0 = 0 := by
            rw [hgg, Int.toNat_natCast]
            exact h4 g (by omega) g10 (fun j hj => by rw [← hgg]; exact none j hj)
          have e0 : goB ds k = false := by
            rw [hg]
            by_cases k0 : 0 < k
            · have : ¬ (d.2.2.2 = (ds.getD (k - 1) zD).2.2.2) := fun e => hgo ⟨k0, e.symm⟩
              have e : (d.2.2.2 == (ds.getD (k - 1) zD).2.2.2) = false := by simpa using this
              rw [e, Bool.and_false]
            · simp [k0]
          have e2 : fstE d.2.2.2 L.length f = f.set d.2.2.2.toNat (L.length : Int) := by unfold fstE; rw [if_pos ⟨gp, f0⟩]
          have e3 : clsE d.2.2.2 L.length f = (L.length : Int) := by
            unfold clsE
            rw [if_pos gp, e2, getD_setE f _ _ _ (by omega), if_pos rfl]
          have e1 : ncE L (goB ds k) = clsE d.2.2.2 L.length f := by rw [e0, e3]; simp [ncE]
          rw [e1]
          simp only
          rw [e2]
          refine ⟨by trivial, by rw [List.length_set]; exact h2, by rw [List.length_append]; omega, fun q hq0 hq10 hn => ?_, fun j hj hne => ?_, fun _ _ => ?_⟩
          · have hqk := hn k (by omega)
            rw [hdd] at hqk
            rw [getD_setE f _ _ _ (by omega), if_neg (by omega)]
            exact h4 q hq0 hq10 (fun j hj => hn j (by omega))
          · by_cases e : j = k
            · subst e
              rw [hdd, getD_setE f _ _ _ (by omega), if_pos rfl]
              omega
            · have nj := none j (by omega)
              have okj := okD_restE (hok j (by omega))
              rw [getD_setE f _ _ _ (by omega), if_neg (by omega)]
              exact h5 j (by omega) hne
          · rw [fin, e3, getD_setE f _ _ _ (by omega), if_pos rfl]
theorem evsP_same {dss : List (List Dd)} (hb : workB dss = true) : ∀ n : Nat, n ≤ dss.length → evsP dss n = evsW dss n ∧ 1 ≤ (evsW dss n).length
  | 0, _ => ⟨rfl, by simp [evsW, evBeg]⟩
  | n + 1, h => by
    obtain ⟨h1, h2⟩ := evsP_same hb n (by omega)
    have ht := work_tog hb n (by omega)
    simp only [workB, Bool.and_eq_true, decide_eq_true_eq] at hb
    obtain ⟨⟨⟨⟨_, ha⟩, _⟩, _⟩, _⟩ := hb
    have hok := all_get [] ha n (by omega)
    simp only [okL, Bool.and_eq_true, decide_eq_true_eq] at hok
    obtain ⟨q1, _, q3, _⟩ := clkP_same (i := n) ht (fun j hj => all_get zD hok.1 j hj) h2 (dss.getD n []).length (Nat.le_refl _)
    rw [evsP, evsW, h1, q1]
    exact ⟨rfl, q3⟩
end Go.Proofs.Ytgolhjmbloiakaa

/- Contracts of the program's shapesOf, goesOn, nextClass. -/
namespace Go.Proofs.Ytgolhjmbloiakaa
open Go.ChangeShapes Go.WideShapes Go.ChangeAt Go.RowKit

/-- What shapesOf hands back: a new row of these values. -/
def Shp (w w' : World) (e : Ending) (vs : Array Value) : Prop :=
  ∃ B, e = .returned (.slice (some ⟨B, 0, none⟩) vs.size vs.size) ∧ w'.heap[B]? = some (.cells vs 122) ∧ w.heap.size ≤ B ∧ Keep w w'
set_option maxHeartbeats 1000000 in
theorem shapes_rd (p v g : Int) (w : World) : Calls Try.prog 106 #[deedV 1 p v g] w fun e w' => Shp w w' e #[rdV p] := by
  go_enter Try.func106, Try.ntmps106
  go_wp2
  go_ret
  exact ⟨w.heap.size + 1, rfl, by rw [heap_at, if_pos (heap_size w _).symm], by omega, ((Keep.refl w).alloc _).alloc _⟩
set_option maxHeartbeats 1000000 in
theorem shapes_wr (p v g : Int) (w : World) : Calls Try.prog 106 #[deedV 2 p v g] w fun e w' => Shp w w' e #[wrV p v] := by
  go_enter Try.func106, Try.ntmps106
  go_wp2
  go_ret
  exact ⟨w.heap.size + 1, rfl, by rw [heap_at, if_pos (heap_size w _).symm], by omega, ((Keep.refl w).alloc _).alloc _⟩
set_option maxHeartbeats 1000000 in
theorem shapes_sw (p v g : Int) (w : World) : Calls Try.prog 106 #[deedV 3 p v g] w fun e w' => Shp w w' e #[rdV p, wrV p v] := by
  go_enter Try.func106, Try.ntmps106
  go_wp2
  go_ret
  exact ⟨w.heap.size + 1, rfl, by rw [heap_at, if_pos (heap_size w _).symm], by omega, ((Keep.refl w).alloc _).alloc _⟩
set_option maxHeartbeats 1000000 in
theorem shapes_wa (p v g : Int) (w : World) : Calls Try.prog 106 #[deedV 4 p v g] w fun e w' => Shp w w' e #[] := by
  go_enter Try.func106, Try.ntmps106
  go_wp2
  go_ret
  exact ⟨w.heap.size + 1, rfl, by rw [heap_at, if_pos (heap_size w _).symm], by omega, ((Keep.refl w).alloc _).alloc _⟩
set_option maxRecDepth 100000 in
set_option maxHeartbeats 2000000 in
theorem goesOn_any (w : World) (v : Value) (ds : List Dd) (h : RdD w v ds) (k : Nat) (hk : k < ds.length) (hx : ds.length ≤ 1048576) :
    Calls Try.prog 105 #[v, .int .i64 k] w fun e w' => e = .returned (.bool (goB ds k)) ∧ Keep w w' := by
  obtain ⟨a, c, rfl, h⟩ := h
  rcases h with h | ⟨b, o, rfl, hb, hc⟩
  · exfalso; rw [h] at hk; simp at hk
  have A3 := (hc k hk).2.2.2
  have i1 : (0 : Int) ≤ (k : Int) := Int.natCast_nonneg _
  have i2 : (k : Int) < (ds.length : Int) := by omega
  have HP : Hid (goB ds k = (decide (0 < k) && ((ds.getD k zD).2.2.2 != 0) && ((ds.getD k zD).2.2.2 == (ds.getD (k - 1) zD).2.2.2))) := Lib.hid rfl
  by_cases h0 : k = 0
  · have HT : Hid (goB ds k = false) := Lib.hid (by rw [HP.out]; simp [h0])
    have d0 : decide (0 < k) = false := by simp [h0]
    generalize (ds.getD k zD).2.2.2 = x3 at A3
    clear HP hc h0
    go_enter Try.func105, Try.ntmps105
    go_wp2
    go_quiet (fail)
    go_wp2
    go_ret
    exact ⟨by rw [HT.out]; rfl, (Keep.refl w).drewN _⟩
  · obtain ⟨r, rfl⟩ : ∃ r : Nat, k = r + 1 := ⟨k - 1, by omega⟩
    rw [Nat.add_sub_cancel] at HP
    have B3 := (hc r (by omega)).2.2.2
    clear hc h0
    have j1 : (0 : Int) ≤ (r : Int) := Int.natCast_nonneg _
    have j2 : (r : Int) < (ds.length : Int) := by omega
    have d2 : (r : Int) + 1 < (ds.length : Int) := by omega
    have d6 : (0 : Int) ≤ (r : Int) + 1 := by omega
    have d3 : IntKind.i64.wrap (r : Int) = (r : Int) := by rw [IntKind.wrap_i64]; omega
    have d4 : wrap64 (r : Int) = (r : Int) := wrap64_small _ (by omega) (by omega)
    generalize (ds.getD (r + 1) zD).2.2.2 = x3 at A3 HP
    generalize (ds.getD r zD).2.2.2 = y3 at B3 HP
    by_cases e0 : x3 = 0
    · have HT : Hid (goB ds (r + 1) = false) := Lib.hid (by rw [HP.out]; simp [e0])
      have q0 : (x3 != 0) = false := by simp [e0]
      clear HP e0
      go_enter Try.func105, Try.ntmps105
      go_wp2
      go_quiet (fail)
      go_wp2
      go_ret
      exact ⟨by rw [HT.out]; rfl, (Keep.refl w).drewN _⟩
    · have q0 : (x3 != 0) = true := by simp [e0]
      have q1 : (decide (0 < r + 1)) = true := by simp
      have HT : Hid (goB ds (r + 1) = (x3 == y3)) := Lib.hid (by rw [HP.out, q0, q1]; simp)
      clear HP e0 q1
      go_enter Try.func105, Try.ntmps105
      go_wp2
      go_quiet (fail)
      go_wp2
      go_ret
      exact ⟨by rw [HT.out]; rfl, (Keep.refl w).drewN _⟩
set_option maxHeartbeats 1000000 in
theorem nextClass_any (w : World) (v : Value) (es : List Ev) (h : RdE w v es) (hx : es.length ≤ 1048576) (h1 : 1 ≤ es.length) (go : Bool) :
    Calls Try.prog 104 #[v, .bool go] w fun e w' => e = .returned (.int .i64 (ncE es go)) ∧ Keep w w' := by
  obtain ⟨a, c, rfl, h⟩ := h
  rcases h with h | ⟨b, o, rfl, hb, hc⟩
  · exfalso; rw [h] at h1; simp at h1
  cases go
  · have HT : Hid (ncE es false = (es.length : Int)) := Lib.hid (by simp [ncE])
    go_enter Try.func104, Try.ntmps104
    go_wp2
    go_ret
    exact ⟨by rw [HT.out]; rfl, Keep.refl w⟩
  · obtain ⟨m, hm⟩ : ∃ m, es.length = m + 1 := ⟨es.length - 1, by omega⟩
    have AT := hc m _ (evs_get (by omega))
    have HT : Hid (ncE es true = csE (es.getD m zE)) := Lib.hid (by simp [ncE, lastC, hm])
    generalize es.getD m zE = e at AT HT
    obtain ⟨x0, x1, x2, x3, x4, x5⟩ := e
    obtain ⟨-, -, -, -, -, A5⟩ := atE AT
    clear AT hc
    rw [hm]
    have j1 : (0 : Int) ≤ (m : Int) := Int.natCast_nonneg _
    have d3 : IntKind.i64.wrap (m : Int) = (m : Int) := by rw [IntKind.wrap_i64]; omega
    have d4 : wrap64 (m : Int) = (m : Int) := wrap64_small _ (by omega) (by omega)
    clear hm
    go_enter Try.func104, Try.ntmps104
    go_wp2
    go_ret
    exact ⟨by rw [HT.out]; rfl, Keep.refl w⟩
end Go.Proofs.Ytgolhjmbloiakaa

/- Contract of the program's EventsOf: the events of a right work, in order; of all else nothing. (Written by mkevi.py.) -/
namespace Go.Proofs.Ytgolhjmbloiakaa
open Go.ChangeShapes Go.WideShapes Go.ChangeAt Go.RowKit

theorem workB_useE {dss : List (List Dd)} (h : workB dss = true) : 1 ≤ dss.length ∧ dss.length ≤ 3 ∧ ∀ i, i < dss.length → okL (dss.getD i []) = true := by
  simp only [workB, Bool.and_eq_true, decide_eq_true_eq] at h
  obtain ⟨⟨⟨⟨h1, h2⟩, _⟩, _⟩, _⟩ := h
  exact ⟨h1.1, h1.2, fun i hi => all_get [] h2 i hi⟩
abbrev cO (v : Value) (t : Int) : Obj := .cells #[v, .int .i64 t] 105
abbrev dO (k p v g : Int) : Obj := .cells #[.int .i64 k, .int .i64 p, .int .i64 v, .int .i64 g] 92
set_option maxRecDepth 100000 in
set_option maxHeartbeats 8000000 in
theorem implEventsOf_any (w : World) (v : Value) (dss : List (List Dd)) (h : RdW w v dss) (hx : dss.length ≤ 1048576) (hm : ∀ i, i < dss.length → (dss.getD i []).length ≤ 1048576) :
    Calls Try.prog 66 #[v] w fun e w' => ∃ v', e = .returned v' ∧ AppE w' w.heap.size v' (eventsB dss) ∧ Keep w w' := by
  cases hb : workB dss
  · have HE : Hid (eventsB dss = []) := Lib.hid (by rw [eventsB, hb]; rfl)
    have O : ∀ w1 : World, Keep w w1 → AppE (w1.alloc (.cells #[] 85)) w.heap.size (.slice (some ⟨w1.heap.size, 0, none⟩) 0 0) [] := fun w1 k1 => World.ownsRow_lit w1 #[] 0 k1.size (by decide) (by simp)
    go_enter Try.func66, Try.ntmps66
    go_wp2_with fail
    refine (implWorkOk_any _ _ _ h hx hm).mono ?_
    rintro e w1 ⟨rfl, k1⟩
    go_wp2
    go_ret
    exact ⟨_, rfl, by rw [HE.out]; exact O w1 k1, k1.alloc _⟩
  · obtain ⟨h1, h3, u2⟩ := workB_useE hb
    have HE : Hid (eventsB dss = evsP dss dss.length) := Lib.hid (by rw [eventsB, if_pos hb, (evsP_same hb dss.length (Nat.le_refl _)).1])
    obtain ⟨j0, hj, hy0, hy1, hy2⟩ := info_parts Try.infoE
    go_enter Try.func66, Try.ntmps66
    go_wp2_with fail
    refine (implWorkOk_any _ _ _ h hx hm).mono ?_
    rintro e w0 ⟨rfl, k0⟩
    go_wp2_with fail
    refine (beginnings_any _).mono ?_
    rintro e w1 ⟨x1, rfl, a1, k1⟩
    go_wp2_with fail
    refine (clerksOf_at w _ (k0.trans k1) _ _ h h1 h3 hm).mono ?_
    rintro e w2 ⟨v2, rfl, rc, k2⟩
    have K01 : Keep w0 w2 := k1.trans k2
    have hsz0 := k0.size
    clear hb h hm hx
    obtain ⟨b, c1, V, rfl, hbl, hbu, hc⟩ := rc
    have HR : ∀ i, i < dss.length → RdD w (V i) (dss.getD i []) := fun i hi => (hc i hi).1
    obtain ⟨ob, hob⟩ : ∃ ob, w2.heap[b]? = some ob := ⟨_, Array.getElem?_eq_getElem hbu⟩
    have HC : ∀ wq : World, wq.heap[b]? = some ob → ∀ i, i < dss.length → wq.cell? ⟨b, i * 2, none⟩ = some (V i) ∧ wq.cell? ⟨b, i * 2 + 1, none⟩ = some (.int .i64 (takW dss i)) := fun wq hq i hi => by
      have e : wq.heap[b]? = w2.heap[b]? := hq.trans hob.symm
      have f : ∀ j, wq.cell? ⟨b, j, none⟩ = w2.cell? ⟨b, j, none⟩ := fun j => by simp only [World.cell?, e]
      exact ⟨(f _).trans (hc i hi).2.1, (f _).trans (hc i hi).2.2⟩
    clear hc
    have L0 : LP w0 w2 x1 evBeg [(b, ob)] := LP.add ⟨a1.keep k2, K01, by simp⟩ b ob (fun e => by have := (a1.lt _ e).2; omega) hob
    clear a1 hob hbl
    go_wp2
    go_loopw [3, 20] (fun x i wr => ∃ k : Nat, ∃ es : List Ev, k ≤ dss.length ∧ i = .int .i64 k ∧ Hid (es = evsP dss k) ∧ 1 ≤ es.length ∧ es.length ≤ 3 + 10 * k ∧ LP w0 wr x es [(b, ob)]) (fun _ i _ => dss.length - (intOf i).toNat)
    case atStart => exact ⟨0, evBeg, Nat.zero_le _, rfl, Lib.hid rfl, by decide, by decide, L0⟩
    case round =>
      clear L0 K01 k2 hbu
      obtain ⟨k, es, hk, rfl, hE, he1, hel, hL⟩ := hrel
      by_cases hlt : k < dss.length
      · have r1 := HR k hlt
        have hKw : Keep w wr := k0.trans hL.keep
        obtain ⟨d1, d2⟩ := HC wr (hL.held b ob (by simp)).2 k hlt
        have hbw := hL.lt (n := b) (o := ob) (by simp)
        have okk := u2 k hlt
        have HV : Hid (evsP dss (k + 1) = clkP k (dss.getD k []) es (dss.getD k []).length) := Lib.hid (by rw [evsP, hE.out])
        obtain ⟨ds, hds⟩ : ∃ ds, ds = dss.getD k [] := ⟨_, rfl⟩
        rw [← hds] at r1 okk HV
        clear hds
        generalize takW dss k = t at d2
        obtain ⟨u, hu⟩ : ∃ u, u = V k := ⟨_, rfl⟩
        rw [← hu] at d1 r1
        clear hu
        have R1 := r1
        obtain ⟨ai, ci, rfl, r1⟩ := r1
        have hl5 : ds.length ≤ 5 := by simp [okL] at okk; omega
        have i1 : (0 : Int) ≤ (k : Int) := Int.natCast_nonneg _
        have i2 : (k : Int) < (dss.length : Int) := by omega
        obtain ⟨wo, hwo⟩ : ∃ wo : World, wo = wr := ⟨_, rfl⟩
        subst hwo
        have L1 := hL.new (cO (.slice ai ds.length (ds.length + ci)) t)
        go_wp2
        go_loopw [3, 28] (fun x i wq => ∃ q : Nat, ∃ evs : List Ev, q ≤ ds.length ∧ i = .int .i64 q ∧ Hid (evs = clkP k ds es q) ∧ 1 ≤ evs.length ∧ evs.length ≤ 3 + 10 * k + 2 * q ∧ LP w0 wq x evs [(wo.heap.size, cO (.slice ai ds.length (ds.length + ci)) t), (b, ob)]) (fun _ i _ => ds.length - (intOf i).toNat)
        case atStart => exact ⟨0, es, Nat.zero_le _, rfl, Lib.hid rfl, he1, by omega, L1⟩
        case round =>
          clear L1 d1 d2
          obtain ⟨q, evs, hq, rfl, hC, hv1, hev, hI⟩ := hrel
          by_cases hlq : q < ds.length
          · have hKq : Keep w wr := k0.trans hI.keep
            have R2 := R1.keep hKq
            rcases r1 with h | ⟨b2, o2, rfl, hb2, hc2⟩
            · exfalso; rw [h] at hlq; simp at hlq
            have AT := (hc2 q hlq).keep hb2 hKq
            have okq : okD (ds.getD q zD) = true := by
              simp only [okL, Bool.and_eq_true] at okk
              exact all_get zD okk.1 q hlq
            clear hc2 okk
            have hb3 : b2 < wr.heap.size := Nat.lt_of_lt_of_le hb2 hKq.size
            have HST : Hid (clkP k ds es (q + 1) = evs ++ oneE k q (ds.getD q zD) (ncE evs (goB ds q))) := Lib.hid (by rw [clkP, hC.out])
            clear hC
            obtain ⟨d, hd⟩ : ∃ d, d = ds.getD q zD := ⟨_, rfl⟩
            rw [← hd] at AT okq HST
            clear hd
            have KD := okD_kindE okq
            obtain ⟨x0, x1, x2, x3⟩ := d
            obtain ⟨A0, A1, A2, A3⟩ := AT
            simp only at A0 A1 A2 A3 KD
            have j1 : (0 : Int) ≤ (q : Int) := Int.natCast_nonneg _
            have j2 : (q : Int) < (ds.length : Int) := by omega
            have z5 := hI.lt (n := wo.heap.size) (o := cO (.slice (some ⟨b2, o2, none⟩) ds.length (ds.length + ci)) t) (by simp)
            have c5 : wr.cell? ⟨wo.heap.size, 0, none⟩ = some (.slice (some ⟨b2, o2, none⟩) ds.length (ds.length + ci)) := (hI.held wo.heap.size (cO (.slice (some ⟨b2, o2, none⟩) ds.length (ds.length + ci)) t) (by simp)) |>.2 |> fun h => cell_of_row wr _ 0 _ _ (0, 0) h
            clear okq
            rcases KD with rfl | rfl | rfl | rfl
            · have HS : Hid (clkP k ds es (q + 1) = evs ++ oneE k q (1, x1, x2, x3) (ncE evs (goB ds q))) := HST
              clear HST
              have L2 := hI.new (dO 1 x1 x2 x3)
              have K2 : Keep wr (wr.alloc (dO 1 x1 x2 x3)) := (Keep.refl wr).alloc _
              have R3 := R2.keep K2
              go_wp2_with fail
              refine (goesOn_any _ _ _ R3 q hlq (by omega)).mono ?_
              rintro e w3 ⟨rfl, k3⟩
              have L3 := L2.more k3
              go_wp2_with fail
              refine (nextClass_any _ _ _ L3.app.rd (by omega) hv1 _).mono ?_
              generalize goB ds q = go at HS
              generalize hcl : ncE evs go = cl at HS
              clear hcl
              rintro e w4 ⟨rfl, k4⟩
              have L4 := L3.more k4
              have z7 := L4.lt (n := wr.heap.size) (o := dO 1 x1 x2 x3) (by simp)
              have s0 : w4.cell? ⟨wr.heap.size, 0, none⟩ = some (.int .i64 1) := L4.cell (n := wr.heap.size) (cs := #[.int .i64 1, .int .i64 x1, .int .i64 x2, .int .i64 x3]) (t := 92) (by simp) 0
              have s1 : w4.cell? ⟨wr.heap.size, 1, none⟩ = some (.int .i64 x1) := L4.cell (n := wr.heap.size) (cs := #[.int .i64 1, .int .i64 x1, .int .i64 x2, .int .i64 x3]) (t := 92) (by simp) 1
              have s2 : w4.cell? ⟨wr.heap.size, 2, none⟩ = some (.int .i64 x2) := L4.cell (n := wr.heap.size) (cs := #[.int .i64 1, .int .i64 x1, .int .i64 x2, .int .i64 x3]) (t := 92) (by simp) 2
              have s3 : w4.cell? ⟨wr.heap.size, 3, none⟩ = some (.int .i64 x3) := L4.cell (n := wr.heap.size) (cs := #[.int .i64 1, .int .i64 x1, .int .i64 x2, .int .i64 x3]) (t := 92) (by simp) 3
              clear A0 A1 A2 A3 c5 L2 L3 R3 K2
              go_wp2_with fail
              refine (shapes_rd _ _ _ _).mono ?_
              rintro e w5 ⟨B, rfl, hB, hBl, k5⟩
              have L5 := L4.later k5 hBl hB
              clear L4 s0 s1 s2 s3 z7 hI
              have z8 := L5.lt (n := B) (o := .cells #[rdV x1] 122) (by simp)
              have c6 : w5.cell? ⟨B, 0, none⟩ = some (rdV x1) := L5.cell (n := B) (cs := #[rdV x1]) (t := 122) (by simp) 0
              go_wp2
              refine wp_loop_rounds 2 ?_
              rw [rounds_succ]
              go_wp2_with fail
              refine (eventOf_rd _ _).mono ?_
              rintro e wa0 ⟨rfl, ka0⟩
              have La0 := L5.more ka0
              have Lb0 := (La0.more ((Keep.refl wa0).alloc (eO k q true x1 0 cl))).more ((Keep.refl _).alloc (eO k q true x1 0 cl))
              have hs0 : w0.heap.size ≤ wa0.heap.size := La0.keep.size
              go_wp2_with (at_builtin; refine wpList_append_own_at _ rfl _ _ 70 rfl w0.heap.size 85 j0 (.agg #[.int .i64 0, .int .i64 0, .bool false, .int .i64 0, .int .i64 0, .int .i64 0]) 6 48 Try.underlying70 hj hy0 hy1 hy2 rfl (by decide) _ _ _ rfl Lb0.app ⟨_, 0, none⟩ 1 1 (cE ((k : Int), (q : Int), true, x1, 0, cl)) rfl rfl ?c1_0 ?c2_0 ?c3_0 ?c4_0 ?c5_0 ?_)
              case c1_0 => exact cE_newP _ _ (heap_size _ _) _ _ _ _ _ _
              case c2_0 => exact cE_oneP _
              case c3_0 => unfold maxLen; first | omega | (simp; omega)
              case c4_0 => first | omega | (simp; omega)
              case c5_0 => first | omega | (simp; omega)
              intro v0' wb0 hown' hgrow _ hblk
              have Lc0 := Lb0.hit _ hown' hgrow (by rw [heap_size, heap_size]; exact hblk)
              clear hgrow hown' hblk Lb0 La0 L5
              go_wp2
              rw [rounds_succ]
              go_wp2
              go_roundw
              case rel => exact ⟨q + 1, _, by omega, by go_num, Lib.hid (by rw [HS.out]; simp [oneE]), by first | omega | (simp <;> omega), by first | omega | (simp <;> omega), Lc0.less (fun y hy => by simp only [List.mem_cons, List.not_mem_nil, or_false] at hy ⊢; rcases hy with rfl | rfl <;> simp)⟩
              case measure => simp [intOf]; omega
            · have HS : Hid (clkP k ds es (q + 1) = evs ++ oneE k q (2, x1, x2, x3) (ncE evs (goB ds q))) := HST
              clear HST
              have L2 := hI.new (dO 2 x1 x2 x3)
              have K2 : Keep wr (wr.alloc (dO 2 x1 x2 x3)) := (Keep.refl wr).alloc _
              have R3 := R2.keep K2
              go_wp2_with fail
              refine (goesOn_any _ _ _ R3 q hlq (by omega)).mono ?_
              rintro e w3 ⟨rfl, k3⟩
              have L3 := L2.more k3
              go_wp2_with fail
              refine (nextClass_any _ _ _ L3.app.rd (by omega) hv1 _).mono ?_
              generalize goB ds q = go at HS
              generalize hcl : ncE evs go = cl at HS
              clear hcl
              rintro e w4 ⟨rfl, k4⟩
              have L4 := L3.more k4
              have z7 := L4.lt (n := wr.heap.size) (o := dO 2 x1 x2 x3) (by simp)
              have s0 : w4.cell? ⟨wr.heap.size, 0, none⟩ = some (.int .i64 2) := L4.cell (n := wr.heap.size) (cs := #[.int .i64 2, .int .i64 x1, .int .i64 x2, .int .i64 x3]) (t := 92) (by simp) 0
              have s1 : w4.cell? ⟨wr.heap.size, 1, none⟩ = some (.int .i64 x1) := L4.cell (n := wr.heap.size) (cs := #[.int .i64 2, .int .i64 x1, .int .i64 x2, .int .i64 x3]) (t := 92) (by simp) 1
              have s2 : w4.cell? ⟨wr.heap.size, 2, none⟩ = some (.int .i64 x2) := L4.cell (n := wr.heap.size) (cs := #[.int .i64 2, .int .i64 x1, .int .i64 x2, .int .i64 x3]) (t := 92) (by simp) 2
              have s3 : w4.cell? ⟨wr.heap.size, 3, none⟩ = some (.int .i64 x3) := L4.cell (n := wr.heap.size) (cs := #[.int .i64 2, .int .i64 x1, .int .i64 x2, .int .i64 x3]) (t := 92) (by simp) 3
              clear A0 A1 A2 A3 c5 L2 L3 R3 K2
              go_wp2_with fail
              refine (shapes_wr _ _ _ _).mono ?_
              rintro e w5 ⟨B, rfl, hB, hBl, k5⟩
              have L5 := L4.later k5 hBl hB
              clear L4 s0 s1 s2 s3 z7 hI
              have z8 := L5.lt (n := B) (o := .cells #[wrV x1 x2] 122) (by simp)
              have c6 : w5.cell? ⟨B, 0, none⟩ = some (wrV x1 x2) := L5.cell (n := B) (cs := #[wrV x1 x2]) (t := 122) (by simp) 0
              go_wp2
              refine wp_loop_rounds 2 ?_
              rw [rounds_succ]
              go_wp2_with fail
              refine (eventOf_wr _ _ _).mono ?_
              rintro e wa0 ⟨rfl, ka0⟩
              have La0 := L5.more ka0
              have Lb0 := (La0.more ((Keep.refl wa0).alloc (eO k q false x1 x2 cl))).more ((Keep.refl _).alloc (eO k q false x1 x2 cl))
              have hs0 : w0.heap.size ≤ wa0.heap.size := La0.keep.size
              go_wp2_with (at_builtin; refine wpList_append_own_at _ rfl _ _ 70 rfl w0.heap.size 85 j0 (.agg #[.int .i64 0, .int .i64 0, .bool false, .int .i64 0, .int .i64 0, .int .i64 0]) 6 48 Try.underlying70 hj hy0 hy1 hy2 rfl (by decide) _ _ _ rfl Lb0.app ⟨_, 0, none⟩ 1 1 (cE ((k : Int), (q : Int), false, x1, x2, cl)) rfl rfl ?c1_0 ?c2_0 ?c3_0 ?c4_0 ?c5_0 ?_)
              case c1_0 => exact cE_newP _ _ (heap_size _ _) _ _ _ _ _ _
              case c2_0 => exact cE_oneP _
              case c3_0 => unfold maxLen; first | omega | (simp; omega)
              case c4_0 => first | omega | (simp; omega)
              case c5_0 => first | omega | (simp; omega)
              intro v0' wb0 hown' hgrow _ hblk
              have Lc0 := Lb0.hit _ hown' hgrow (by rw [heap_size, heap_size]; exact hblk)
              clear hgrow hown' hblk Lb0 La0 L5
              go_wp2
              rw [rounds_succ]
              go_wp2
              go_roundw
              case rel => exact ⟨q + 1, _, by omega, by go_num, Lib.hid (by rw [HS.out]; simp [oneE]), by first | omega | (simp <;> omega), by first | omega | (simp <;> omega), Lc0.less (fun y hy => by simp only [List.mem_cons, List.not_mem_nil, or_false] at hy ⊢; rcases hy with rfl | rfl <;> simp)⟩
              case measure => simp [intOf]; omega
            · have HS : Hid (clkP k ds es (q + 1) = evs ++ oneE k q (3, x1, x2, x3) (ncE evs (goB ds q))) := HST
              clear HST
              have L2 := hI.new (dO 3 x1 x2 x3)
              have K2 : Keep wr (wr.alloc (dO 3 x1 x2 x3)) := (Keep.refl wr).alloc _
              have R3 := R2.keep K2
              go_wp2_with fail
              refine (goesOn_any _ _ _ R3 q hlq (by omega)).mono ?_
              rintro e w3 ⟨rfl, k3⟩
              have L3 := L2.more k3
              go_wp2_with fail
              refine (nextClass_any _ _ _ L3.app.rd (by omega) hv1 _).mono ?_
              generalize goB ds q = go at HS
              generalize hcl : ncE evs go = cl at HS
              clear hcl
              rintro e w4 ⟨rfl, k4⟩
              have L4 := L3.more k4
              have z7 := L4.lt (n := wr.heap.size) (o := dO 3 x1 x2 x3) (by simp)
              have s0 : w4.cell? ⟨wr.heap.size, 0, none⟩ = some (.int .i64 3) := L4.cell (n := wr.heap.size) (cs := #[.int .i64 3, .int .i64 x1, .int .i64 x2, .int .i64 x3]) (t := 92) (by simp) 0
              have s1 : w4.cell? ⟨wr.heap.size, 1, none⟩ = some (.int .i64 x1) := L4.cell (n := wr.heap.size) (cs := #[.int .i64 3, .int .i64 x1, .int .i64 x2, .int .i64 x3]) (t := 92) (by simp) 1
              have s2 : w4.cell? ⟨wr.heap.size, 2, none⟩ = some (.int .i64 x2) := L4.cell (n := wr.heap.size) (cs := #[.int .i64 3, .int .i64 x1, .int .i64 x2, .int .i64 x3]) (t := 92) (by simp) 2
              have s3 : w4.cell? ⟨wr.heap.size, 3, none⟩ = some (.int .i64 x3) := L4.cell (n := wr.heap.size) (cs := #[.int .i64 3, .int .i64 x1, .int .i64 x2, .int .i64 x3]) (t := 92) (by simp) 3
              clear A0 A1 A2 A3 c5 L2 L3 R3 K2
              go_wp2_with fail
              refine (shapes_sw _ _ _ _).mono ?_
              rintro e w5 ⟨B, rfl, hB, hBl, k5⟩
              have L5 := L4.later k5 hBl hB
              clear L4 s0 s1 s2 s3 z7 hI
              have z8 := L5.lt (n := B) (o := .cells #[rdV x1, wrV x1 x2] 122) (by simp)
              have c6 : w5.cell? ⟨B, 0, none⟩ = some (rdV x1) := L5.cell (n := B) (cs := #[rdV x1, wrV x1 x2]) (t := 122) (by simp) 0
              have c7 : w5.cell? ⟨B, 1, none⟩ = some (wrV x1 x2) := L5.cell (n := B) (cs := #[rdV x1, wrV x1 x2]) (t := 122) (by simp) 1
              go_wp2
              refine wp_loop_rounds 3 ?_
              rw [rounds_succ]
              go_wp2_with fail
              refine (eventOf_rd _ _).mono ?_
              rintro e wa0 ⟨rfl, ka0⟩
              have La0 := L5.more ka0
              have Lb0 := (La0.more ((Keep.refl wa0).alloc (eO k q true x1 0 cl))).more ((Keep.refl _).alloc (eO k q true x1 0 cl))
              have hs0 : w0.heap.size ≤ wa0.heap.size := La0.keep.size
              go_wp2_with (at_builtin; refine wpList_append_own_at _ rfl _ _ 70 rfl w0.heap.size 85 j0 (.agg #[.int .i64 0, .int .i64 0, .bool false, .int .i64 0, .int .i64 0, .int .i64 0]) 6 48 Try.underlying70 hj hy0 hy1 hy2 rfl (by decide) _ _ _ rfl Lb0.app ⟨_, 0, none⟩ 1 1 (cE ((k : Int), (q : Int), true, x1, 0, cl)) rfl rfl ?c1_0 ?c2_0 ?c3_0 ?c4_0 ?c5_0 ?_)
              case c1_0 => exact cE_newP _ _ (heap_size _ _) _ _ _ _ _ _
              case c2_0 => exact cE_oneP _
              case c3_0 => unfold maxLen; first | omega | (simp; omega)
              case c4_0 => first | omega | (simp; omega)
              case c5_0 => first | omega | (simp; omega)
              intro v0' wb0 hown' hgrow _ hblk
              have Lc0 := Lb0.hit _ hown' hgrow (by rw [heap_size, heap_size]; exact hblk)
              clear hgrow hown' hblk Lb0 La0 L5
              obtain ⟨ev1, hev1⟩ : ∃ ev1, ev1 = evs ++ [((k : Int), (q : Int), true, x1, 0, cl)] := ⟨_, rfl⟩
              rw [← hev1] at Lc0
              have HV1 := Lib.hid hev1
              have hl1 : ev1.length ≤ evs.length + 1 := by rw [hev1]; simp
              clear hev1
              clear c6 c7 z8
              have z8 := Lc0.lt (n := B) (o := .cells #[rdV x1, wrV x1 x2] 122) (by simp)
              have c7 : wb0.cell? ⟨B, 1, none⟩ = some (wrV x1 x2) := Lc0.cell (n := B) (cs := #[rdV x1, wrV x1 x2]) (t := 122) (by simp) 1
              go_wp2
              rw [rounds_succ]
              go_wp2_with fail
              refine (eventOf_wr _ _ _).mono ?_
              rintro e wa1 ⟨rfl, ka1⟩
              have La1 := Lc0.more ka1
              have Lb1 := (La1.more ((Keep.refl wa1).alloc (eO k q false x1 x2 cl))).more ((Keep.refl _).alloc (eO k q false x1 x2 cl))
              have hs1 : w0.heap.size ≤ wa1.heap.size := La1.keep.size
              go_wp2_with (at_builtin; refine wpList_append_own_at _ rfl _ _ 70 rfl w0.heap.size 85 j0 (.agg #[.int .i64 0, .int .i64 0, .bool false, .int .i64 0, .int .i64 0, .int .i64 0]) 6 48 Try.underlying70 hj hy0 hy1 hy2 rfl (by decide) _ _ _ rfl Lb1.app ⟨_, 0, none⟩ 1 1 (cE ((k : Int), (q : Int), false, x1, x2, cl)) rfl rfl ?c1_1 ?c2_1 ?c3_1 ?c4_1 ?c5_1 ?_)
              case c1_1 => exact cE_newP _ _ (heap_size _ _) _ _ _ _ _ _
              case c2_1 => exact cE_oneP _
              case c3_1 => unfold maxLen; first | omega | (simp; omega)
              case c4_1 => first | omega | (simp; omega)
              case c5_1 => first | omega | (simp; omega)
              intro v1' wb1 hown' hgrow _ hblk
              have Lc1 := Lb1.hit _ hown' hgrow (by rw [heap_size, heap_size]; exact hblk)
              clear hgrow hown' hblk Lb1 La1 Lc0
              go_wp2
              rw [rounds_succ]
              go_wp2
              go_roundw
              case rel => exact ⟨q + 1, _, by omega, by go_num, Lib.hid (by rw [HS.out, HV1.out]; simp [oneE]), by first | omega | (simp <;> omega), by first | omega | (simp <;> omega), Lc1.less (fun y hy => by simp only [List.mem_cons, List.not_mem_nil, or_false] at hy ⊢; rcases hy with rfl | rfl <;> simp)⟩
              case measure => simp [intOf]; omega
            · have HS : Hid (clkP k ds es (q + 1) = evs ++ oneE k q (4, x1, x2, x3) (ncE evs (goB ds q))) := HST
              clear HST
              have L2 := hI.new (dO 4 x1 x2 x3)
              have K2 : Keep wr (wr.alloc (dO 4 x1 x2 x3)) := (Keep.refl wr).alloc _
              have R3 := R2.keep K2
              go_wp2_with fail
              refine (goesOn_any _ _ _ R3 q hlq (by omega)).mono ?_
              rintro e w3 ⟨rfl, k3⟩
              have L3 := L2.more k3
              go_wp2_with fail
              refine (nextClass_any _ _ _ L3.app.rd (by omega) hv1 _).mono ?_
              generalize goB ds q = go at HS
              generalize hcl : ncE evs go = cl at HS
              clear hcl
              rintro e w4 ⟨rfl, k4⟩
              have L4 := L3.more k4
              have z7 := L4.lt (n := wr.heap.size) (o := dO 4 x1 x2 x3) (by simp)
              have s0 : w4.cell? ⟨wr.heap.size, 0, none⟩ = some (.int .i64 4) := L4.cell (n := wr.heap.size) (cs := #[.int .i64 4, .int .i64 x1, .int .i64 x2, .int .i64 x3]) (t := 92) (by simp) 0
              have s1 : w4.cell? ⟨wr.heap.size, 1, none⟩ = some (.int .i64 x1) := L4.cell (n := wr.heap.size) (cs := #[.int .i64 4, .int .i64 x1, .int .i64 x2, .int .i64 x3]) (t := 92) (by simp) 1
              have s2 : w4.cell? ⟨wr.heap.size, 2, none⟩ = some (.int .i64 x2) := L4.cell (n := wr.heap.size) (cs := #[.int .i64 4, .int .i64 x1, .int .i64 x2, .int .i64 x3]) (t := 92) (by simp) 2
              have s3 : w4.cell? ⟨wr.heap.size, 3, none⟩ = some (.int .i64 x3) := L4.cell (n := wr.heap.size) (cs := #[.int .i64 4, .int .i64 x1, .int .i64 x2, .int .i64 x3]) (t := 92) (by simp) 3
              clear A0 A1 A2 A3 c5 L2 L3 R3 K2
              go_wp2_with fail
              refine (shapes_wa _ _ _ _).mono ?_
              rintro e w5 ⟨B, rfl, hB, hBl, k5⟩
              have L5 := L4.later k5 hBl hB
              clear L4 s0 s1 s2 s3 z7 hI
              have z8 := L5.lt (n := B) (o := .cells #[] 122) (by simp)
              go_wp2
              refine wp_loop_rounds 1 ?_
              rw [rounds_succ]
              go_wp2
              go_roundw
              case rel => exact ⟨q + 1, _, by omega, by go_num, Lib.hid (by rw [HS.out]; simp [oneE]), by first | omega | (simp <;> omega), by first | omega | (simp <;> omega), L5.less (fun y hy => by simp only [List.mem_cons, List.not_mem_nil, or_false] at hy ⊢; rcases hy with rfl | rfl <;> simp)⟩
              case measure => simp [intOf]; omega
          · obtain rfl : q = ds.length := by omega
            go_wp2
            go_roundw
            case rel => exact ⟨k + 1, evs, by omega, by go_num, Lib.hid (by rw [HV.out]; exact hC.out), hv1, by omega, hI.less (fun y hy => by simp only [List.mem_cons, List.not_mem_nil, or_false] at hy ⊢; subst hy; simp)⟩
            case measure => simp [intOf]; omega
      · obtain rfl : k = dss.length := by omega
        go_wp2
        go_ret
        exact ⟨_, rfl, by rw [HE.out, ← hE.out]; exact app_base hL.app hsz0, k0.trans hL.keep⟩
end Go.Proofs.Ytgolhjmbloiakaa

/- Works in memory of one's own: lists of deeds in blocks, what turns them, what leaves them. -/
namespace Go.Proofs.Ytgolhjmbloiakaa
open Go.ChangeShapes Go.WideShapes Go.ChangeAt Go.RowKit

theorem Try.infoD : (Try.prog.info? 92).map (fun i => (i.zero, i.size, i.bytes)) = some (some (.agg #[.int .i64 0, .int .i64 0, .int .i64 0, .int .i64 0]), 4, 32) := by kernel_rfl
/-- Block g is a plain row of at least n cells. -/
def Blk (w : World) (g n : Nat) : Prop := ∃ cur t, w.heap[g]? = some (.cells cur t (0, 0)) ∧ n ≤ cur.size
theorem Blk.free {w : World} {g n : Nat} (h : Blk w g n) (i : Nat) : w.frozen? ⟨g, i, none⟩ = false := by
  obtain ⟨cur, t, h, _⟩ := h
  exact frozen_of_row w g i cur t h
theorem Blk.cell {w : World} {g n : Nat} (h : Blk w g n) {i : Nat} (hi : i < n) : ∃ u, w.cell? ⟨g, i, none⟩ = some u := by
  obtain ⟨cur, t, h, hn⟩ := h
  exact ⟨cur[i]'(by omega), by rw [cell_of_row w g i cur t (0, 0) h, Array.getElem?_eq_getElem (by omega)]⟩
theorem Blk.lt {w : World} {g n : Nat} (h : Blk w g n) : g < w.heap.size := by
  obtain ⟨cur, t, h, _⟩ := h
  exact (Array.getElem?_eq_some_iff.1 h).1
theorem Blk.set {w : World} {g n : Nat} (h : Blk w g n) (i : Nat) (x : Value) : Blk (w.setCell ⟨g, i, none⟩ x) g n := by
  obtain ⟨cur, t, h, hn⟩ := h
  exact ⟨cur.setIfInBounds i x, t, heap_setCell_same w g i cur t x h, by simpa using hn⟩
theorem Blk.kept {w w' : World} {g n : Nat} {row : Option Nat} (h : Blk w g n) (hg : w.grownBy w' row) (hne : row ≠ some g) : Blk w' g n := by
  have hl := h.lt
  obtain ⟨cur, t, h, hn⟩ := h
  exact ⟨cur, t, (hg.block g hl (fun e => hne e.symm)).trans h, hn⟩
/-- A list of deeds in a block of one's own. -/
def OwnD (w : World) (base : Nat) (v : Value) (ds : List Dd) : Prop :=
  ∃ (a : Option Addr) (cap : Nat), v = .slice a ds.length (ds.length + cap) ∧ (ds = [] ∨ ∃ g, a = some ⟨g, 0, none⟩ ∧ base ≤ g ∧ Blk w g (ds.length * 4) ∧ ∀ i, i < ds.length → AtD w g (i * 4) (ds.getD i zD))
theorem OwnD.rd {w : World} {base : Nat} {v : Value} {ds : List Dd} (h : OwnD w base v ds) : RdD w v ds := by
  obtain ⟨a, cap, hv, h⟩ := h
  refine ⟨a, cap, hv, ?_⟩
  rcases h with h | ⟨g, ha, _, hb, hc⟩
  · exact .inl h
  · exact .inr ⟨g, 0, ha, hb.lt, fun i hi => by rw [Nat.zero_add]; exact hc i hi⟩
theorem putD {w : World} {g o : Nat} {d : Dd} {b' o' : Nat} {d' : Dd} (h : AtD w b' o' d') (hne : b' ≠ g ∨ o' + 4 ≤ o ∨ o + 4 ≤ o') :
    AtD ((((w.setCell ⟨g, o, none⟩ (.int .i64 d.1)).setCell ⟨g, o + 1, none⟩ (.int .i64 d.2.1)).setCell ⟨g, o + 2, none⟩ (.int .i64 d.2.2.1)).setCell ⟨g, o + 3, none⟩ (.int .i64 d.2.2.2)) b' o' d' := by
  have key : ∀ (w : World) (j : Nat) (x : Value) (q : Nat), q < o' + 4 → o' ≤ q → o ≤ j → j < o + 4 → (w.setCell ⟨g, j, none⟩ x).cell? ⟨b', q, none⟩ = w.cell? ⟨b', q, none⟩ := by
    intro w j x q h1 h2 h3 h4
    refine World.cell?_setCell_other _ _ _ _ (fun e => ?_)
    have e1 : g = b' ∧ j = q := by simpa using e
    omega
  unfold AtD at *
  refine ⟨?_, ?_, ?_, ?_⟩
  all_goals
    rw [key _ _ _ _ (by omega) (by omega) (by omega) (by omega), key _ _ _ _ (by omega) (by omega) (by omega) (by omega), key _ _ _ _ (by omega) (by omega) (by omega) (by omega), key _ _ _ _ (by omega) (by omega) (by omega) (by omega)]
  · exact h.1
  · exact h.2.1
  · exact h.2.2.1
  · exact h.2.2.2
theorem putD_same {w : World} {g o n : Nat} {d : Dd} (hb : Blk w g n) (ho : o + 4 ≤ n) :
    AtD ((((w.setCell ⟨g, o, none⟩ (.int .i64 d.1)).setCell ⟨g, o + 1, none⟩ (.int .i64 d.2.1)).setCell ⟨g, o + 2, none⟩ (.int .i64 d.2.2.1)).setCell ⟨g, o + 3, none⟩ (.int .i64 d.2.2.2)) g o d := by
  have oth : ∀ (w : World) (j q : Nat) (x : Value), j ≠ q → (w.setCell ⟨g, j, none⟩ x).cell? ⟨g, q, none⟩ = w.cell? ⟨g, q, none⟩ := by
    intro w j q x h
    exact World.cell?_setCell_other _ _ _ _ (by intro e; apply h; injection e)
  have h1 := hb.set o (.int .i64 d.1)
  have h2 := h1.set (o + 1) (.int .i64 d.2.1)
  have h3 := h2.set (o + 2) (.int .i64 d.2.2.1)
  obtain ⟨u0, e0⟩ := hb.cell (show o < n by omega)
  obtain ⟨u1, e1⟩ := h1.cell (show o + 1 < n by omega)
  obtain ⟨u2, e2⟩ := h2.cell (show o + 2 < n by omega)
  obtain ⟨u3, e3⟩ := h3.cell (show o + 3 < n by omega)
  refine ⟨?_, ?_, ?_, ?_⟩
  · rw [oth _ _ _ _ (by omega), oth _ _ _ _ (by omega), oth _ _ _ _ (by omega), World.cell?_setCell_same _ _ _ e0]
  · rw [oth _ _ _ _ (by omega), oth _ _ _ _ (by omega), World.cell?_setCell_same _ _ _ e1]
  · rw [oth _ _ _ _ (by omega), World.cell?_setCell_same _ _ _ e2]
  · rw [World.cell?_setCell_same _ _ _ e3]
theorem Blk.ofOwn {w : World} {base e size g n : Nat} {xs : List Value} (h : w.ownsRow base e size (.slice (some ⟨g, 0, none⟩) n n) n xs) : Blk w g (n * size) := by
  rcases h.2 with ⟨hv, _⟩ | ⟨g', cap, cur, hv, _, hg, _, _, hs, _⟩
  · cases hv
  · simp only [Value.slice.injEq, Option.some.injEq, Addr.mk.injEq, and_true, true_and] at hv
    obtain ⟨rfl, rfl⟩ := hv
    exact ⟨cur, e, hg, by rw [hs]; exact Nat.le_refl _⟩
theorem OwnD.keep {w w' : World} {base : Nat} {v : Value} {ds : List Dd} (h : OwnD w base v ds) (k : Keep w w') : OwnD w' base v ds := by
  obtain ⟨a, cap, hv, h⟩ := h
  refine ⟨a, cap, hv, ?_⟩
  rcases h with h | ⟨g, ha, hb, hB, hc⟩
  · exact .inl h
  · exact .inr ⟨g, ha, hb, hB.kept k.grownBy (by simp), fun i hi => (hc i hi).keep hB.lt k⟩
theorem OwnD.kept {w w' : World} {base : Nat} {v : Value} {ds : List Dd} {row : Option Nat} (h : OwnD w base v ds) (hg : w.grownBy w' row) (hne : ds = [] ∨ v.ownBlock ≠ row) : OwnD w' base v ds := by
  obtain ⟨a, cap, rfl, h⟩ := h
  refine ⟨a, cap, rfl, ?_⟩
  rcases h with h | ⟨g, rfl, hb, hB, hc⟩
  · exact .inl h
  · rcases hne with hne | hne
    · exact .inl hne
    · have hne' : row ≠ some g := fun e => hne (by simp [Value.ownBlock, e])
      have hcell : ∀ j, w'.cell? ⟨g, j, none⟩ = w.cell? ⟨g, j, none⟩ := fun j => World.cell?_of_block (w := w) (hg.block g hB.lt (fun e => hne' e.symm))
      exact .inr ⟨g, rfl, hb, hB.kept hg hne', fun i hi => ⟨(hcell _).trans (hc i hi).1, (hcell _).trans (hc i hi).2.1, (hcell _).trans (hc i hi).2.2.1, (hcell _).trans (hc i hi).2.2.2⟩⟩
theorem OwnD.mono {w : World} {base base' : Nat} {v : Value} {ds : List Dd} (h : OwnD w base v ds) (hb : base' ≤ base) : OwnD w base' v ds := by
  obtain ⟨a, cap, hv, h⟩ := h
  refine ⟨a, cap, hv, ?_⟩
  rcases h with h | ⟨g, ha, hg, rest⟩
  · exact .inl h
  · exact .inr ⟨g, ha, Nat.le_trans hb hg, rest⟩
theorem OwnD.block {w : World} {base : Nat} {v : Value} {ds : List Dd} (h : OwnD w base v ds) (hne : ds ≠ []) : ∃ g, v.ownBlock = some g ∧ base ≤ g ∧ g < w.heap.size := by
  obtain ⟨a, cap, rfl, h⟩ := h
  rcases h with h | ⟨g, rfl, hb, hB, _⟩
  · exact absurd h hne
  · exact ⟨g, rfl, hb, hB.lt⟩
/-- The values of a row of slices lie each in a block of its own, and none in the row's. -/
def Apart (g n : Nat) (V : Nat → Value) (D : Nat → List Dd) : Prop :=
  (∀ i, i < n → D i ≠ [] → (V i).ownBlock ≠ some g) ∧ ∀ i j, i < j → j < n → D i ≠ [] → D j ≠ [] → (V i).ownBlock ≠ (V j).ownBlock
/-- A work in memory of one's own. -/
def OwnW (w : World) (base : Nat) (v : Value) (dss : List (List Dd)) : Prop :=
  ∃ (a : Option Addr) (cap : Nat), v = .slice a dss.length cap ∧ (dss = [] ∨ ∃ (g : Nat) (V : Nat → Value), a = some ⟨g, 0, none⟩ ∧ base ≤ g ∧ Blk w g dss.length ∧
    (∀ i, i < dss.length → w.cell? ⟨g, i, none⟩ = some (V i) ∧ OwnD w base (V i) (dss.getD i [])) ∧ Apart g dss.length V (fun i => dss.getD i []))
theorem OwnW.rd {w : World} {base : Nat} {v : Value} {dss : List (List Dd)} (h : OwnW w base v dss) : RdW w v dss := by
  obtain ⟨a, cap, hv, h⟩ := h
  refine ⟨a, cap, hv, ?_⟩
  rcases h with h | ⟨g, V, ha, _, hb, hc, _⟩
  · exact .inl h
  · exact .inr ⟨g, 0, ha, hb.lt, fun i hi => ⟨V i, by rw [Nat.zero_add]; exact (hc i hi).1, (hc i hi).2.rd⟩⟩
theorem Try.infoDS : (Try.prog.info? 75).map (fun i => (i.zero, i.size, i.bytes)) = some (some (.slice none 0 0), 1, 24) := by kernel_rfl
theorem set_far {w : World} {g i b j : Nat} {x : Value} (h : b ≠ g) : (w.setCell ⟨g, i, none⟩ x).cell? ⟨b, j, none⟩ = w.cell? ⟨b, j, none⟩ :=
  World.cell?_setCell_other _ _ _ _ (fun e => h (by injection e with e1; exact e1.symm))
theorem grown_put (w : World) (g j : Nat) (v : Value) : w.grownBy (w.setCell ⟨g, j, none⟩ v) (some g) :=
  ⟨rfl, rfl, rfl, by simp, fun k _ hk => heap_setCell_other w ⟨g, j, none⟩ k v (fun e => hk (by simp [e]))⟩
def mkD (k : Int) (i : Nat) : Dd := (k + 4 * i, k + 4 * i + 1, k + 4 * i + 1 + 1, k + 4 * i + 1 + 1 + 1)
def mksD (k : Int) (n : Nat) : List Dd := (List.range n).map (mkD k)
theorem mksD_len (k : Int) (n : Nat) : (mksD k n).length = n := by simp [mksD]
theorem mksD_get (k : Int) (n i : Nat) (h : i < n) : (mksD k n).getD i zD = mkD k i := range_getD _ _ _ _ h
/-- The block that a list of deeds has (an empty one: none). -/
def ownO (v : Value) (ds : List Dd) : Option Nat := if ds = [] then none else v.ownBlock
theorem cell_same {w w' : World} {b : Nat} (h : w'.heap[b]? = w.heap[b]?) (o : Nat) : w'.cell? ⟨b, o, none⟩ = w.cell? ⟨b, o, none⟩ := by
  simp only [World.cell?, h]
theorem AtD.same {w w' : World} {b o : Nat} {d : Dd} (h : AtD w b o d) (hh : w'.heap[b]? = w.heap[b]?) : AtD w' b o d :=
  ⟨(cell_same hh _).trans h.1, (cell_same hh _).trans h.2.1, (cell_same hh _).trans h.2.2.1, (cell_same hh _).trans h.2.2.2⟩
theorem Blk.same {w w' : World} {g n : Nat} (h : Blk w g n) (hh : w'.heap[g]? = w.heap[g]?) : Blk w' g n := by
  obtain ⟨cur, t, h, hn⟩ := h
  exact ⟨cur, t, hh.trans h, hn⟩
theorem OwnD.same {w w' : World} {base : Nat} {v : Value} {ds : List Dd} (h : OwnD w base v ds) (hh : ∀ g, ownO v ds = some g → g < w.heap.size → base ≤ g → w'.heap[g]? = w.heap[g]?) : OwnD w' base v ds := by
  obtain ⟨a, cap, rfl, h⟩ := h
  refine ⟨a, cap, rfl, ?_⟩
  rcases h with h | ⟨g, rfl, hb, hB, hA⟩
  · exact .inl h
  · by_cases h0 : ds = []
    · exact .inl h0
    · have e := hh g (by rw [ownO, if_neg h0]; rfl) hB.lt hb
      exact .inr ⟨g, rfl, hb, hB.same e, fun i hi => (hA i hi).same e⟩
theorem OwnD.keptO {w w' : World} {base : Nat} {v : Value} {ds : List Dd} {row : Option Nat} (h : OwnD w base v ds) (hg : w.grownBy w' row) (hne : ownO v ds = none ∨ ownO v ds ≠ row) : OwnD w' base v ds :=
  h.same (fun g hgg hlt _ => hg.block g hlt (by
    rcases hne with e | e
    · rw [e] at hgg; cases hgg
    · rw [hgg] at e; exact e))
/-- All that has turned lies from block lo to before block hi. -/
structure Only (lo hi : Nat) (w w' : World) : Prop where
  os : w'.os = w.os
  tape : w'.tape = w.tape
  output : w'.output = w.output
  size : w.heap.size ≤ w'.heap.size
  block : ∀ b, b < w.heap.size → (b < lo ∨ hi ≤ b) → w'.heap[b]? = w.heap[b]?
theorem Only.refl (lo hi : Nat) (w : World) : Only lo hi w w := ⟨rfl, rfl, rfl, Nat.le_refl _, fun _ _ _ => rfl⟩
theorem Only.grown {lo hi : Nat} {a w w' : World} {row : Option Nat} (h : Only lo hi a w) (hg : w.grownBy w' row) (hr : ∀ k, row = some k → lo ≤ k ∧ k < hi) : Only lo hi a w' :=
  ⟨hg.os.trans h.os, hg.tape.trans h.tape, hg.output.trans h.output, Nat.le_trans h.size hg.size, fun b hb ho => (hg.block b (Nat.lt_of_lt_of_le hb h.size) (fun e => by have := hr b e.symm; omega)).trans (h.block b hb ho)⟩
theorem Keep.only {a w w' : World} {lo hi : Nat} (h : Keep a w) (k : Only lo hi w w') (hl : a.heap.size ≤ lo) : Keep a w' :=
  ⟨k.os.trans (Below.os h), k.tape.trans (Below.tape h), k.output.trans (Below.output h), Nat.le_trans (Below.size h) k.size, fun b hb => (k.block b (Nat.lt_of_lt_of_le hb h.size) (.inl (Nat.lt_of_lt_of_le hb hl))).trans (Below.block h b hb)⟩
theorem OwnW.only {w w' : World} {base lo hi : Nat} {v : Value} {dss : List (List Dd)} (h : OwnW w base v dss) (k : Only lo hi w w') (hb : hi ≤ base) : OwnW w' base v dss := by
  obtain ⟨a, cap, rfl, h⟩ := h
  refine ⟨a, cap, rfl, ?_⟩
  rcases h with h | ⟨g, V, rfl, hg, hB, hc, hA⟩
  · exact .inl h
  · have e := k.block g hB.lt (.inr (Nat.le_trans hb hg))
    exact .inr ⟨g, V, rfl, hg, hB.same e, fun i hi => ⟨(cell_same e _).trans (hc i hi).1, (hc i hi).2.same (fun b _ hlt hbb => k.block b hlt (.inr (Nat.le_trans hb hbb)))⟩, hA⟩
theorem OwnW.base_le {w : World} {base base' : Nat} {v : Value} {dss : List (List Dd)} (h : OwnW w base v dss) (hb : base' ≤ base) : OwnW w base' v dss := by
  obtain ⟨a, cap, hv, h⟩ := h
  refine ⟨a, cap, hv, ?_⟩
  rcases h with h | ⟨g, V, ha, hg, hB, hc, hA⟩
  · exact .inl h
  · exact .inr ⟨g, V, ha, Nat.le_trans hb hg, hB, fun i hi => ⟨(hc i hi).1, (hc i hi).2.mono hb⟩, hA⟩
def mksW (k : Int) : List (List Dd) → List (List Dd)
  | [] => []
  | d :: r => mksD k d.length :: mksW (k + 4 * d.length) r
theorem mksW_len (k : Int) (dss : List (List Dd)) : (mksW k dss).length = dss.length := by
  induction dss generalizing k with
  | nil => rfl
  | cons d r ih => simp [mksW, ih]
theorem mksW_get (k : Int) : ∀ (dss : List (List Dd)) (i : Nat), i < dss.length → (mksW k dss).getD i [] = mksD (k + 4 * (lenW (dss.take i) : Nat)) (dss.getD i []).length
  | [], i, h => by simp at h
  | d :: r, 0, h => by simp [mksW, lenW]
  | d :: r, i + 1, h => by
    have ih := mksW_get (k + 4 * d.length) r i (by simpa using h)
    simp only [mksW, List.getD_cons_succ, List.take_succ_cons, lenW] at ih ⊢
    rw [ih]
    congr 1
    omega
theorem lenW_snocM (d : List Dd) : ∀ l : List (List Dd), lenW (l ++ [d]) = lenW l + d.length
  | [] => by simp [lenW]
  | x :: r => by rw [List.cons_append, lenW, lenW, lenW_snocM d r]; omega
theorem take_moreM {α : Type} (l : List α) (k : Nat) (z : α) (h : k < l.length) : l.take (k + 1) = l.take k ++ [l.getD k z] := by
  rw [List.take_add_one, List.getElem?_eq_getElem h, List.getD_eq_getElem?_getD, List.getElem?_eq_getElem h]
  rfl
theorem lenW_take_le (dss : List (List Dd)) : ∀ i, i ≤ dss.length → lenW (dss.take i) ≤ lenW dss := by
  induction dss with
  | nil => intro i _; simp
  | cons d r ih =>
    intro i hi
    cases i with
    | zero => simp [lenW]
    | succ i => simp only [List.take_succ_cons, lenW]; have := ih i (by simpa using hi); omega
theorem lenW_one (dss : List (List Dd)) (i : Nat) (h : i < dss.length) : lenW (dss.take i) + (dss.getD i []).length ≤ lenW dss := by
  have := lenW_take_le dss (i + 1) h
  rw [take_moreM dss i [] h, lenW_snocM] at this
  exact this
theorem mksD_nil {k : Int} {n : Nat} : mksD k n = [] ↔ n = 0 := by
  constructor
  · intro h; have := mksD_len k n; rw [h] at this; simpa using this.symm
  · rintro rfl; rfl
end Go.Proofs.Ytgolhjmbloiakaa

/- How long a work's events are; a list of events that others' turns leave. -/
namespace Go.Proofs.Ytgolhjmbloiakaa
open Go.ChangeShapes Go.WideShapes Go.ChangeAt Go.RowKit

theorem eventsB_len9 (dss : List (List Dd)) : (eventsB dss).length ≤ 9 := by
  unfold eventsB
  split
  · rename_i h
    simp only [workB, Bool.and_eq_true, decide_eq_true_eq] at h
    obtain ⟨⟨⟨⟨_, h2⟩, _⟩, h4⟩, _⟩ := h
    have := evsW_len (fun i hi => all_get [] h2 i hi) dss.length (Nat.le_refl _)
    omega
  · simp
theorem eventsB_len (dss : List (List Dd)) : (eventsB dss).length ≤ 1048576 := by
  have := eventsB_len9 dss
  omega
theorem appE_only {w w' : World} {base lo hi : Nat} {v : Value} {es : List Ev} (h : AppE w base v es) (k : Only lo hi w w') (hb : hi ≤ base) : AppE w' base v es := by
  have hlt := h.lt
  refine ⟨h.1, ?_⟩
  rcases h.2 with h | ⟨g, cap, cur, hv, hg, hh, rest⟩
  · exact .inl h
  · subst hv
    exact .inr ⟨g, cap, cur, rfl, hg, (k.block g (hlt g rfl).2 (.inr (Nat.le_trans hb hg))).trans hh, rest⟩
end Go.Proofs.Ytgolhjmbloiakaa

/- Plain mathematics of rows as the program makes them: for each seat the writes that may have it; a walk that gives seat after seat to the least one that is left. -/
namespace Go.Proofs.Ytgolhjmbloiakaa

/-- Who may have the i-th seat of a place. -/
def seatAt (l : List Int) (i : Nat) : List Int := if i = 0 then l.take 1 else l.drop 1
def seatK (l : List Int) (i : Nat) : List (List Int) := (List.range i).map (seatAt l)
theorem seatK_more (l : List Int) (i : Nat) : seatK l (i + 1) = seatK l i ++ [seatAt l i] := by
  unfold seatK
  rw [List.range_succ, List.map_append]
  rfl
def seatP (l : List Int) : List (List Int) := seatK l l.length
theorem seatP_cons (x : Int) (r : List Int) : seatP (x :: r) = [x] :: List.replicate r.length r := by
  unfold seatP seatK
  rw [List.length_cons, List.range_succ_eq_map, List.map_cons, List.map_map]
  congr 1
  refine List.ext_getElem (by simp) (fun i h1 h2 => ?_)
  simp [seatAt]
theorem seatP_len (l : List Int) : (seatP l).length = l.length := by simp [seatP, seatK]
def seatsL (es : List Ev) : List (List Int) := seatP (plcW es 0) ++ seatP (plcW es 1) ++ seatP (plcW es 2)
/-- Who may have a seat, is past the one that had it last, and has none ahead. -/
def nextL (s ahead : List Int) (last : Int) : List Int := s.filter (fun x => decide (last < x) && !isB ahead x)
def nextB (s ahead : List Int) (last : Int) : Int := (nextL s ahead last).headD (-1)
theorem next_step {s ahead t : List Int} {last x : Int} (hs : s.Pairwise (· < ·)) (h : nextL s ahead last = x :: t) : nextL s ahead x = t ∧ last < x ∧ isB ahead x = false := by
  have hx : x ∈ nextL s ahead last := by rw [h]; simp
  unfold nextL at hx
  rw [List.mem_filter] at hx
  simp only [Bool.and_eq_true, decide_eq_true_eq, Bool.not_eq_true'] at hx
  refine ⟨?_, hx.2.1, hx.2.2⟩
  have h1 : nextL s ahead x = (nextL s ahead last).filter (fun y => decide (x < y)) := by
    unfold nextL
    rw [List.filter_filter]
    refine List.filter_congr (fun y _ => ?_)
    by_cases hy : x < y
    · have : last < y := by omega
      simp [hy, this]
    · simp [hy]
  have hp : (x :: t).Pairwise (· < ·) := by
    rw [← h]
    exact hs.filter _
  rw [List.pairwise_cons] at hp
  rw [h1, h, List.filter_cons, if_neg (by simp), List.filter_eq_self]
  intro y hy
  simpa using hp.1 y hy
/-- What the walk does from a seat on: a step is 'none', what it finds is told. -/
def allT : List (List Int) → List Int → List (Option (List Int))
  | [], a => [some a]
  | s :: ss, a => (nextL s a (-1)).flatMap (fun x => none :: allT ss (a ++ [x])) ++ [none]
def hereT (ss : List (List Int)) (rows : List Int) (last : Int) : List (Option (List Int)) :=
  match ss.drop rows.length with
  | [] => [some rows]
  | s :: r => (nextL s rows last).flatMap (fun x => none :: allT r (rows ++ [x])) ++ [none]
theorem here_all (ss : List (List Int)) (rows : List Int) : hereT ss rows (-1) = allT (ss.drop rows.length) rows := by
  unfold hereT
  cases ss.drop rows.length <;> rfl
def backT (ss : List (List Int)) (rows : List Int) : Nat → List (Option (List Int))
  | 0 => []
  | k + 1 => hereT ss (rows.take k) (rows.getD k 0) ++ backT ss rows k
theorem back_more (ss : List (List Int)) (rows : List Int) (x : Int) : ∀ k : Nat, k ≤ rows.length → backT ss (rows ++ [x]) k = backT ss rows k
  | 0, _ => rfl
  | k + 1, h => by
    rw [backT, backT, back_more ss rows x k (by omega), List.take_append_of_le_length (by omega)]
    congr 2
    rw [List.getD_eq_getElem?_getD, List.getElem?_append_left (by omega), ← List.getD_eq_getElem?_getD]
def comeT (ss : List (List Int)) (rows : List Int) (last : Int) : List (Option (List Int)) := hereT ss rows last ++ backT ss rows rows.length
theorem back_snoc (ss : List (List Int)) (rows : List Int) (x : Int) : backT ss (rows ++ [x]) (rows ++ [x]).length = comeT ss rows x := by
  rw [List.length_append, List.length_singleton, backT, back_more ss rows x _ (Nat.le_refl _), comeT]
  congr 2
  · rw [List.take_append_of_le_length (Nat.le_refl _), List.take_length]
  · rw [List.getD_eq_getElem?_getD, List.getElem?_append_right (Nat.le_refl _), Nat.sub_self]; rfl
/-- A seat is given. -/
theorem come_give {ss : List (List Int)} {rows t : List Int} {last x : Int} (hlt : rows.length < ss.length) (hs : (ss.getD rows.length []).Pairwise (· < ·)) (h : nextL (ss.getD rows.length []) rows last = x :: t) :
    comeT ss rows last = none :: comeT ss (rows ++ [x]) (-1) := by
  have hd : ss.drop rows.length = ss.getD rows.length [] :: ss.drop (rows.length + 1) := by
    rw [List.getD_eq_getElem?_getD, List.getElem?_eq_getElem hlt]
    exact List.drop_eq_getElem_cons hlt
  have hn := (next_step hs h).1
  conv => rhs; rw [comeT, back_snoc, here_all, List.length_append, List.length_singleton, comeT]
  rw [comeT, hereT, hereT, hd]
  simp only [h, hn, List.flatMap_cons, List.cons_append, List.append_assoc]
/-- Nobody may have it: one seat back. -/
theorem come_none {ss : List (List Int)} {rows : List Int} {last : Int} (hlt : rows.length < ss.length) (h : nextL (ss.getD rows.length []) rows last = []) :
    comeT ss rows last = none :: backT ss rows rows.length := by
  have hd : ss.drop rows.length = ss.getD rows.length [] :: ss.drop (rows.length + 1) := by
    rw [List.getD_eq_getElem?_getD, List.getElem?_eq_getElem hlt]
    exact List.drop_eq_getElem_cons hlt
  rw [comeT, hereT, hd]
  simp only [h, List.flatMap_nil, List.nil_append, List.cons_append]
/-- All seats are given. -/
theorem come_full {ss : List (List Int)} {rows : List Int} {last : Int} (hl : rows.length = ss.length) : comeT ss rows last = some rows :: backT ss rows rows.length := by
  rw [comeT, hereT, List.drop_of_length_le (by omega)]
  rfl
/-- All that is found. -/
def allS : List (List Int) → List Int → List (List Int)
  | [], a => [a]
  | s :: ss, a => (nextL s a (-1)).flatMap (fun x => allS ss (a ++ [x]))
theorem all_found : ∀ (ss : List (List Int)) (a : List Int), (allT ss a).filterMap id = allS ss a
  | [], a => rfl
  | s :: ss, a => by
    rw [allT, allS, List.filterMap_append]
    simp only [List.filterMap_cons, List.filterMap_nil, id, List.append_nil]
    rw [List.filterMap_flatMap]
    congr 1
    funext x
    rw [List.filterMap_cons]
    exact all_found ss _
end Go.Proofs.Ytgolhjmbloiakaa

/- Contract of the program's seatsOf. -/
namespace Go.Proofs.Ytgolhjmbloiakaa
open Go.ChangeShapes Go.WideShapes Go.ChangeAt Go.RowKit

theorem cell_lone {w : World} {b : Nat} {v : Value} (h : w.cell? ⟨b, 0, none⟩ = some v) : ∀ j u, ([v] : List Value)[j]? = some u → w.cell? ((⟨b, 0, none⟩ : Addr).add j) = some u := by
  intro j u hj
  match j, hj with
  | 0, hj =>
    simp at hj
    subst hj
    exact h
  | k + 1, hj => simp at hj
theorem Beside.first {w : World} {x : Value} {b o n c : Nat} {l : List Int} (h : Beside w x (.slice (some ⟨b, o, none⟩) n c) l) (hl : 0 < l.length) : Beside w x (.slice (some ⟨b, o, none⟩) 1 c) (l.take 1) := by
  have hlen : (l.take 1).length = 1 := by rw [List.length_take]; omega
  have hcap : l.length ≤ c := h.cap
  refine ⟨?_, h.ne, h.lt, by rw [hlen]; show 1 ≤ c; omega⟩
  obtain ⟨a, cap, he, hr⟩ := h.rd
  simp only [Value.slice.injEq] at he
  obtain ⟨rfl, rfl, rfl⟩ := he
  refine ⟨_, _, by rw [hlen], ?_⟩
  rcases hr with hr | ⟨b', o', he, hb, hc⟩
  · rw [hr] at hl; simp at hl
  · simp only [Option.some.injEq, Addr.mk.injEq, and_true] at he
    obtain ⟨rfl, rfl⟩ := he
    refine .inr ⟨b, o, rfl, hb, fun i hi => ?_⟩
    rw [hc i (by omega), List.getD_eq_getElem?_getD, List.getD_eq_getElem?_getD, List.getElem?_take, if_pos (by omega)]
theorem Beside.rest {w : World} {x : Value} {b o n c : Nat} {l : List Int} (h : Beside w x (.slice (some ⟨b, o, none⟩) n c) l) (hl : 0 < l.length) : Beside w x (.slice (some ⟨b, o + 1, none⟩) (n - 1) (c - 1)) (l.drop 1) := by
  have hlen : (l.drop 1).length = l.length - 1 := by rw [List.length_drop]
  have hcap : l.length ≤ c := h.cap
  refine ⟨?_, h.ne, h.lt, by rw [hlen]; show l.length - 1 ≤ c - 1; omega⟩
  obtain ⟨a, cap, he, hr⟩ := h.rd
  simp only [Value.slice.injEq] at he
  obtain ⟨rfl, rfl, rfl⟩ := he
  refine ⟨_, _, by rw [hlen], ?_⟩
  rcases hr with hr | ⟨b', o', he, hb, hc⟩
  · rw [hr] at hl; simp at hl
  · simp only [Option.some.injEq, Addr.mk.injEq, and_true] at he
    obtain ⟨rfl, rfl⟩ := he
    refine .inr ⟨b, o + 1, rfl, hb, fun i hi => ?_⟩
    rw [Nat.add_assoc, Nat.add_comm 1 i, hc (i + 1) (by omega), List.getD_eq_getElem?_getD, List.getD_eq_getElem?_getD, List.getElem?_drop, Nat.add_comm 1 i]
def seatN (es : List Ev) : Nat → List (List Int)
  | 0 => []
  | p + 1 => seatN es p ++ seatP (plcW es p)
theorem seatN_three (es : List Ev) : seatN es 3 = seatsL es := by
  simp only [seatN, seatsL, List.nil_append]
theorem seatK_len (l : List Int) (k : Nat) : (seatK l k).length = k := by simp [seatK]
theorem seatN_len {es : List Ev} (hx : es.length ≤ 12) : ∀ p : Nat, (seatN es p).length ≤ 12 * p
  | 0 => by simp [seatN]
  | p + 1 => by
    have := seatN_len hx p
    have := plcW_len hx p
    rw [seatN, List.length_append, seatP_len]
    omega
set_option maxRecDepth 100000 in
set_option maxHeartbeats 2000000 in
theorem seatsOf_any (w : World) (v : Value) (es : List Ev) (h : RdE w v es) (hx : es.length ≤ 12) :
    Calls Try.prog 78 #[v] w fun e w' => ∃ v', e = .returned v' ∧ RdL w' v' (seatsL es) ∧ Keep w w' := by
  obtain ⟨i0, hi, hz0, hz1, hz2⟩ := info_parts Try.infoL
  have A0 := appL_empty w
  have K0 : Keep w (w.alloc (.cells #[] 27)) := (Keep.refl w).alloc _
  have HS : Hid (seatsL es = seatN es 3) := Lib.hid (seatN_three es).symm
  have HL : Hid (∀ p, (seatN es p).length ≤ 12 * p) := Lib.hid (seatN_len hx)
  go_enter Try.func78, Try.ntmps78
  go_wp2
  go_loopw [3, 8] (fun x i wr => ∃ p : Nat, ∃ vs : List Value, p ≤ 3 ∧ i = .int .i64 p ∧ AppL wr w.heap.size x vs (seatN es p) ∧ Keep w wr) (fun _ i _ => 3 - (intOf i).toNat)
  case atStart => exact ⟨0, [], by omega, rfl, A0, K0⟩
  case round =>
    obtain ⟨p, vs, hp, rfl, hA, hK⟩ := hrel
    clear A0 K0
    by_cases hlt : p < 3
    · have hpl := plcW_len hx p
      have HN : Hid (seatN es (p + 1) = seatN es p ++ seatK (plcW es p) (plcW es p).length) := Lib.hid rfl
      have hsl : (seatN es p).length ≤ 36 := by have := HL.out p; omega
      have i2 : (p : Int) < 3 := by omega
      go_wp2_with fail
      refine (implWritesTo_any _ _ _ (h.keep hK) (by omega) _).mono ?_
      rintro e w2 ⟨v2, rfl, o2, k2⟩
      have HI : Hid (plcW es p = idxB (toE (p : Int)) es) := Lib.hid rfl
      rw [HI.out] at hpl HN
      clear HI
      generalize idxB (toE (p : Int)) es = l at o2 hpl HN
      generalize seatN es p = S at hA HN hsl
      have A1 : AppL w2 w.heap.size u3 vs (S ++ seatK l 0) := by
        have : S ++ seatK l 0 = S := by simp [seatK]
        rw [this]
        exact hA.keep k2
      have B1 : Beside w2 u3 v2 l := o2.beside (fun k hk => (hA.lt k hk).2)
      have K1 := hK.trans k2
      obtain ⟨a2, c2, rfl, -⟩ := o2.rd
      clear hA hK o2 k2
      obtain ⟨wo, rfl⟩ : ∃ wo : World, wo = w2 := ⟨_, rfl⟩
      go_wp2
      go_loopw [3, 16] (fun x i wr => ∃ k : Nat, ∃ vs : List Value, k ≤ l.length ∧ i = .int .i64 k ∧ AppL wr w.heap.size x vs (S ++ seatK l k) ∧ Beside wr x (.slice a2 l.length c2) l ∧ Keep w wr) (fun _ i _ => l.length - (intOf i).toNat)
      case atStart => exact ⟨0, vs, Nat.zero_le _, rfl, A1, B1, K1⟩
      case round =>
        obtain ⟨k, vs, hk, rfl, hA, hB, hK⟩ := hrel
        clear A1 B1 K1
        by_cases hkl : k < l.length
        · have HC : Hid (S ++ seatK l (k + 1) = S ++ seatK l k ++ [seatAt l k]) := Lib.hid (by rw [seatK_more, List.append_assoc])
          have hcl : (S ++ seatK l k).length = S.length + k := by rw [List.length_append, seatK_len]
          have hcap : l.length ≤ c2 := hB.cap
          have hRd := hB.rd
          obtain ⟨a', c', he', hRd⟩ := hRd
          simp only [Value.slice.injEq, true_and] at he'
          obtain ⟨rfl, rfl⟩ := he'
          rcases hRd with h0 | ⟨br, or', rfl, hbr, -⟩
          · exfalso; rw [h0] at hkl; simp at hkl
          have hF := hB.first (by omega)
          have hT := hB.rest (by omega)
          have i1 : (0 : Int) ≤ (k : Int) := Int.natCast_nonneg _
          have i2 : (k : Int) < (l.length : Int) := by omega
          have hsz := hK.size
          generalize S ++ seatK l k = D at hA HC hcl
          by_cases hk0 : k = 0
          · have HZ : Hid (seatAt l k = l.take 1) := Lib.hid (by unfold seatAt; rw [if_pos hk0])
            rw [HZ.out] at HC
            have hkb : ((k : Int) == 0) = true := by simp [hk0]
            have hA2 := hA.keep ((Keep.refl wr).alloc (.cells #[.slice (some ⟨br, or', none⟩) 1 c2] 27))
            have hB2 := hB.keep ((Keep.refl wr).alloc (.cells #[.slice (some ⟨br, or', none⟩) 1 c2] 27))
            have hU := hF.keep ((Keep.refl wr).alloc (.cells #[.slice (some ⟨br, or', none⟩) 1 c2] 27))
            have c1 : (1 : Int) ≤ (c2 : Int) := by omega
            clear hF hT hk0 HZ hA hB
            go_wp2_with (at_builtin; refine wpList_append_own_at _ rfl _ _ 68 rfl w.heap.size 27 i0 (.slice none 0 0) 1 24 Try.underlying68 hi hz0 hz1 hz2 rfl (by decide) _ _ _ rfl hA2.row ⟨_, 0, none⟩ 1 1 [.slice (some ⟨br, or', none⟩) 1 c2] rfl rfl ?c1 ?c2 ?c3 ?c4 ?c5 ?_)
            case c1 => exact cell_lone (Boxed.new _ _ _).cell
            case c2 => intro u hu; simp at hu; subst hu; rfl
            case c3 => unfold maxLen; omega
            case c4 => omega
            case c5 => first | omega | (simp; omega)
            intro v' w3 hown' hgrow _ hblk
            have hblk' : v'.ownBlock = u3.ownBlock ∨ v'.ownBlock = some (wr.alloc (.cells #[.slice (some ⟨br, or', none⟩) 1 c2] 27)).heap.size := by rw [heap_size]; exact hblk
            have hA3 := hA2.push hU (by rw [hcl]; exact hown') hgrow hblk'
            have hB3 := hB2.grow hgrow hblk'
            have hK3 : Keep w w3 := (hK.alloc _).grown hgrow (fun k hk => (hA2.lt k hk).1)
            clear hown' hgrow hblk hblk' hA2 hB2 hU hK
            go_wp2
            go_roundw
            case rel => exact ⟨k + 1, _, by omega, by go_num, by rw [HC.out]; exact hA3, hB3, hK3⟩
            case measure => simp [intOf]; omega
          · have HZ : Hid (seatAt l k = l.drop 1) := Lib.hid (by unfold seatAt; rw [if_neg hk0])
            rw [HZ.out] at HC
            have hkb : ((k : Int) == 0) = false := by simp; omega
            have hA2 := hA.keep ((Keep.refl wr).alloc (.cells #[.slice (some ⟨br, or' + 1, none⟩) (l.length - 1) (c2 - 1)] 27))
            have hB2 := hB.keep ((Keep.refl wr).alloc (.cells #[.slice (some ⟨br, or' + 1, none⟩) (l.length - 1) (c2 - 1)] 27))
            have hU := hT.keep ((Keep.refl wr).alloc (.cells #[.slice (some ⟨br, or' + 1, none⟩) (l.length - 1) (c2 - 1)] 27))
            have c1 : (1 : Int) ≤ (l.length : Int) := by omega
            have c2' : 1 < c2 := by omega
            have c3 : (l.length : Int) ≤ (c2 : Int) := by omega
            clear hF hT hk0 HZ hA hB
            go_wp2_with (at_builtin; refine wpList_append_own_at _ rfl _ _ 68 rfl w.heap.size 27 i0 (.slice none 0 0) 1 24 Try.underlying68 hi hz0 hz1 hz2 rfl (by decide) _ _ _ rfl hA2.row ⟨_, 0, none⟩ 1 1 [.slice (some ⟨br, or' + 1, none⟩) (l.length - 1) (c2 - 1)] rfl rfl ?c1 ?c2 ?c3 ?c4 ?c5 ?_)
            case c1 => exact cell_lone (Boxed.new _ _ _).cell
            case c2 => intro u hu; simp at hu; subst hu; rfl
            case c3 => unfold maxLen; omega
            case c4 => omega
            case c5 => first | omega | (simp; omega)
            intro v' w3 hown' hgrow _ hblk
            have hblk' : v'.ownBlock = u3.ownBlock ∨ v'.ownBlock = some (wr.alloc (.cells #[.slice (some ⟨br, or' + 1, none⟩) (l.length - 1) (c2 - 1)] 27)).heap.size := by rw [heap_size]; exact hblk
            have hA3 := hA2.push hU (by rw [hcl]; exact hown') hgrow hblk'
            have hB3 := hB2.grow hgrow hblk'
            have hK3 : Keep w w3 := (hK.alloc _).grown hgrow (fun k hk => (hA2.lt k hk).1)
            clear hown' hgrow hblk hblk' hA2 hB2 hU hK
            go_wp2
            go_roundw
            case rel => exact ⟨k + 1, _, by omega, by go_num, by rw [HC.out]; exact hA3, hB3, hK3⟩
            case measure => simp [intOf]; omega
        · obtain rfl : k = l.length := by omega
          have hN : AppL wr w.heap.size u3 vs (seatN es (p + 1)) := by rw [HN.out]; exact hA
          clear hA hB
          go_wp2
          go_roundw
          case rel => exact ⟨p + 1, vs, by omega, by go_num, hN, hK⟩
          case measure => simp [intOf]; omega
    · obtain rfl : p = 3 := by omega
      have HR := Lib.hid hA.rd
      go_wp2
      go_ret
      exact ⟨_, rfl, by rw [HS.out]; exact HR.out, hK⟩
end Go.Proofs.Ytgolhjmbloiakaa

/- What the walk over the seats finds is just all rows, in their order; whoever has a seat that he may have, and no other, has right rows. -/
namespace Go.Proofs.Ytgolhjmbloiakaa

theorem all_app : ∀ (s1 s2 : List (List Int)) (a : List Int), allS (s1 ++ s2) a = (allS s1 a).flatMap (allS s2)
  | [], s2, a => by simp [allS]
  | s :: r, s2, a => by
    rw [List.cons_append, allS, allS, List.flatMap_assoc]
    congr 1
    funext x
    exact all_app r s2 _
theorem flat_congr {α β : Type} {l : List α} {f g : α → List β} (h : ∀ x ∈ l, f x = g x) : l.flatMap f = l.flatMap g := by
  induction l with
  | nil => rfl
  | cons x r ih => rw [List.flatMap_cons, List.flatMap_cons, h x (by simp), ih (fun y hy => h y (by simp [hy]))]
theorem range_flat {β : Type} (b : Nat) (hb : 0 < b) (g : Nat → Nat → β) : ∀ a : Nat, (List.range a).flatMap (fun i => (List.range b).map (g i)) = (List.range (a * b)).map (fun n => g (n / b) (n % b))
  | 0 => by simp
  | a + 1 => by
    rw [List.range_succ, List.flatMap_append, range_flat b hb g a, Nat.succ_mul, List.range_add, List.map_append, List.map_map]
    congr 1
    simp only [List.flatMap_cons, List.flatMap_nil, List.append_nil]
    refine List.map_congr_left (fun j hj => ?_)
    rw [List.mem_range] at hj
    have h1 : (a * b + j) / b = a := by rw [Nat.mul_comm, Nat.mul_add_div hb, Nat.div_eq_of_lt hj]; omega
    have h2 : (a * b + j) % b = j := by rw [Nat.mul_comm, Nat.mul_add_mod, Nat.mod_eq_of_lt hj]
    simp only [Function.comp, h1, h2]
def facN (m : Nat) : Nat := (fac m).toNat
theorem facN_cast (m : Nat) : ((facN m : Nat) : Int) = fac m := by
  have := fac_pos m
  unfold facN
  omega
theorem facN_pos (m : Nat) : 0 < facN m := by
  have := fac_pos m
  unfold facN
  omega
theorem facN_more (m : Nat) : facN (m + 1) = (m + 1) * facN m := by
  have h := facN_cast (m + 1)
  rw [fac, ← facN_cast m] at h
  have : ((facN m : Nat) : Int) * ((m : Int) + 1) = (((m + 1) * facN m : Nat) : Int) := by
    rw [Int.natCast_mul, Int.mul_comm]; rfl
  rw [this] at h
  exact Int.ofNat.inj h
theorem filter_erase : ∀ (l : List Int) (k : Nat), l.Nodup → k < l.length → l.filter (fun y => !(l.getD k 0 == y)) = l.eraseIdx k
  | [], k, _, h => by simp at h
  | x :: r, 0, hn, _ => by
    rw [List.nodup_cons] at hn
    rw [List.getD_cons_zero, List.eraseIdx_cons_zero, List.filter_cons, if_neg (by simp), List.filter_eq_self]
    intro y hy
    have : x ≠ y := fun e => hn.1 (by rw [e]; exact hy)
    simpa using this
  | x :: r, k + 1, hn, h => by
    rw [List.nodup_cons] at hn
    have hk : k < r.length := by simpa using h
    have hm : r.getD k 0 ∈ r := by
      rw [List.getD_eq_getElem?_getD, List.getElem?_eq_getElem hk]
      exact List.getElem_mem hk
    have hne : r.getD k 0 ≠ x := fun e => hn.1 (by rw [← e]; exact hm)
    rw [List.getD_cons_succ, List.eraseIdx_cons_succ, List.filter_cons, if_pos (by simpa using hne), filter_erase r k hn.2 hk]
theorem isB_snoc (a : List Int) (x y : Int) : isB (a ++ [x]) y = (isB a y || (x == y)) := by
  unfold isB
  rw [List.any_append]
  simp
theorem next_snoc (l a : List Int) (x : Int) : nextL l (a ++ [x]) (-1) = (nextL l a (-1)).filter (fun y => !(x == y)) := by
  unfold nextL
  rw [List.filter_filter]
  refine List.filter_congr (fun y _ => ?_)
  rw [isB_snoc]
  cases isB a y <;> cases (x == y) <;> simp
theorem list_range (l : List Int) : l = (List.range l.length).map (fun k => l.getD k 0) := by
  refine List.ext_getElem (by simp) (fun i h1 h2 => ?_)
  simp [List.getElem?_eq_getElem h1]
/-- All orders of those that are left. -/
theorem ord_all : ∀ (m : Nat) (l a : List Int), (nextL l a (-1)).Nodup → (nextL l a (-1)).length = m → allS (List.replicate m l) a = (List.range (facN m)).map (fun n : Nat => a ++ ordL m (nextL l a (-1)) (n : Int))
  | 0, l, a, _, _ => by
    have : facN 0 = 1 := by decide
    rw [this]
    simp [allS, ordL]
  | m + 1, l, a, hn, hl => by
    rw [List.replicate_succ, allS]
    have e1 : (nextL l a (-1)).flatMap (fun x => allS (List.replicate m l) (a ++ [x])) = (List.range (m + 1)).flatMap (fun k => (List.range (facN m)).map (fun n : Nat => a ++ [(nextL l a (-1)).getD k 0] ++ ordL m ((nextL l a (-1)).eraseIdx k) (n : Int))) := by
      have e0 := list_range (nextL l a (-1))
      rw [hl] at e0
      conv => lhs; rw [e0, List.flatMap_map]
      refine flat_congr (fun k hk => ?_)
      rw [List.mem_range] at hk
      have hx := next_snoc l a ((nextL l a (-1)).getD k 0)
      rw [filter_erase _ k hn (by omega)] at hx
      have ih := ord_all m l (a ++ [(nextL l a (-1)).getD k 0]) (by rw [hx]; exact erase_nodup hn k) (by rw [hx]; exact erase_len hl hk)
      rw [hx] at ih
      exact ih
    rw [e1, range_flat _ (facN_pos m) (fun k n => a ++ [(nextL l a (-1)).getD k 0] ++ ordL m ((nextL l a (-1)).eraseIdx k) (n : Int)), facN_more]
    refine List.map_congr_left (fun n _ => ?_)
    rw [ordL, ← facN_cast m, ← Int.natCast_ediv, ← Int.natCast_emod, Int.toNat_natCast, List.append_assoc]
    rfl
theorem next_all {l a : List Int} (h0 : ∀ x ∈ l, 0 ≤ x) (hd : ∀ x ∈ l, isB a x = false) : nextL l a (-1) = l := by
  unfold nextL
  rw [List.filter_eq_self]
  intro x hx
  have := h0 x hx
  rw [hd x hx]
  simp
  omega
theorem isB_false {l : List Int} {x : Int} : isB l x = false ↔ x ∉ l := by
  constructor
  · intro h hm
    rw [mem_isB hm] at h
    cases h
  · intro h
    cases hb : isB l x
    · rfl
    · exact absurd (isB_mem hb) h
/-- All orders of the writes at one place. -/
theorem place_all {l a : List Int} (hl : 0 < l.length) (hn : l.Nodup) (h0 : ∀ x ∈ l, 0 ≤ x) (hd : ∀ x ∈ l, x ∉ a) : allS (seatP l) a = (List.range (facN (l.length - 1))).map (fun n : Nat => a ++ partL l (n : Int)) := by
  match l, hl with
  | x :: r, _ =>
    rw [List.nodup_cons] at hn
    have e1 : nextL [x] a (-1) = [x] := next_all (fun y hy => h0 y (by simp at hy; simp [hy])) (fun y hy => isB_false.2 (hd y (by simp at hy; simp [hy])))
    have e2 : nextL r (a ++ [x]) (-1) = r := next_all (fun y hy => h0 y (by simp [hy])) (fun y hy => isB_false.2 (by
      rw [List.mem_append]
      rintro (h | h)
      · exact hd y (by simp [hy]) h
      · rw [List.mem_singleton] at h
        exact hn.1 (by rw [← h]; exact hy)))
    have e3 := ord_all r.length r (a ++ [x]) (by rw [e2]; exact hn.2) (by rw [e2])
    rw [e2] at e3
    rw [seatP_cons, allS, e1, List.flatMap_cons, List.flatMap_nil, List.append_nil, e3]
    simp only [List.length_cons, Nat.add_sub_cancel]
    refine List.map_congr_left (fun n _ => ?_)
    rw [partL, List.append_assoc]
    simp
theorem part_mem {l : List Int} {n : Nat} (hl : 0 < l.length) (h : n < facN (l.length - 1)) {x : Int} : x ∈ partL l (n : Int) ↔ x ∈ l := by
  have hc := facN_cast (l.length - 1)
  exact (part_perm hl (Int.natCast_nonneg _) (by omega)).mem_iff
theorem rcnt_nat (es : List Ev) : ((facN ((plcW es 0).length - 1) * facN ((plcW es 1).length - 1) * facN ((plcW es 2).length - 1) : Nat) : Int) = rcntL es := by
  unfold rcntL
  rw [Int.natCast_mul, Int.natCast_mul, facN_cast, facN_cast, facN_cast]
/-- All rows. -/
theorem all_rows {dss : List (List Dd)} (hb : workB dss = true) : allS (seatsL (eventsB dss)) [] = (List.range (rcntL (eventsB dss)).toNat).map (fun n : Nat => ratL (eventsB dss) (n : Int)) := by
  obtain ⟨p0, -⟩ := plcW_first hb 0 (by decide)
  obtain ⟨p1, -⟩ := plcW_first hb 1 (by decide)
  obtain ⟨p2, -⟩ := plcW_first hb 2 (by decide)
  have h12 := eventsB_12 dss
  generalize eventsB dss = es at *
  have dis : ∀ {p q : Nat}, p ≠ q → ∀ a ∈ plcW es p, a ∉ plcW es q := fun {p q} hpq a ha hb => by
    have h1 := (plcW_mem h12 ha).2
    have h2 := (plcW_mem h12 hb).2
    rw [h2] at h1
    omega
  have e0 := place_all (a := []) p0 (plcW_nodup h12 0) (fun x hx => (plcW_mem h12 hx).1.1) (fun x _ => by simp)
  unfold seatsL
  rw [all_app, all_app, e0]
  have e1 : ((List.range (facN ((plcW es 0).length - 1))).map (fun n : Nat => [] ++ partL (plcW es 0) (n : Int))).flatMap (allS (seatP (plcW es 1))) = (List.range (facN ((plcW es 0).length - 1) * facN ((plcW es 1).length - 1))).map (fun n : Nat => partL (plcW es 0) ((n / facN ((plcW es 1).length - 1) : Nat) : Int) ++ partL (plcW es 1) ((n % facN ((plcW es 1).length - 1) : Nat) : Int)) := by
    rw [List.flatMap_map, ← range_flat _ (facN_pos _) (fun i j => partL (plcW es 0) ((i : Nat) : Int) ++ partL (plcW es 1) ((j : Nat) : Int))]
    refine flat_congr (fun n hn => ?_)
    rw [List.mem_range] at hn
    rw [List.nil_append]
    exact place_all p1 (plcW_nodup h12 1) (fun x hx => (plcW_mem h12 hx).1.1) (fun x hx h => dis (by decide) x hx ((part_mem p0 hn).1 h))
  rw [e1, List.flatMap_map]
  have e2 : (List.range (facN ((plcW es 0).length - 1) * facN ((plcW es 1).length - 1))).flatMap (fun n : Nat => allS (seatP (plcW es 2)) (partL (plcW es 0) ((n / facN ((plcW es 1).length - 1) : Nat) : Int) ++ partL (plcW es 1) ((n % facN ((plcW es 1).length - 1) : Nat) : Int))) =
      (List.range (facN ((plcW es 0).length - 1) * facN ((plcW es 1).length - 1))).flatMap (fun n : Nat => (List.range (facN ((plcW es 2).length - 1))).map (fun m : Nat => partL (plcW es 0) ((n / facN ((plcW es 1).length - 1) : Nat) : Int) ++ partL (plcW es 1) ((n % facN ((plcW es 1).length - 1) : Nat) : Int) ++ partL (plcW es 2) (m : Int))) := by
    refine flat_congr (fun n hn => ?_)
    rw [List.mem_range] at hn
    refine place_all p2 (plcW_nodup h12 2) (fun x hx => (plcW_mem h12 hx).1.1) (fun x hx h => ?_)
    rcases List.mem_append.1 h with h | h
    · exact dis (by decide) x hx ((part_mem p0 (Nat.div_lt_of_lt_mul (by rw [Nat.mul_comm]; exact hn))).1 h)
    · exact dis (by decide) x hx ((part_mem p1 (Nat.mod_lt _ (facN_pos _))).1 h)
  rw [e2, range_flat _ (facN_pos _) (fun n m => partL (plcW es 0) ((n / facN ((plcW es 1).length - 1) : Nat) : Int) ++ partL (plcW es 1) ((n % facN ((plcW es 1).length - 1) : Nat) : Int) ++ partL (plcW es 2) ((m : Nat) : Int))]
  rw [← rcnt_nat, Int.toNat_natCast]
  refine List.map_congr_left (fun n hn => ?_)
  rw [List.mem_range] at hn
  have hr := rat_parts (es := es) (n := (n : Int)) (Int.natCast_nonneg _) (by rw [← rcnt_nat]; exact Int.ofNat_lt.2 hn)
  unfold ratL
  rw [Int.emod_eq_of_lt hr.2.2.1 hr.2.2.2, ← facN_cast, ← facN_cast, ← Int.natCast_ediv, ← Int.natCast_ediv, ← Int.natCast_emod, ← Int.natCast_emod]
theorem rcnt_pos (es : List Ev) : 0 < rcntL es := Int.mul_pos (Int.mul_pos (fac_pos _) (fac_pos _)) (fac_pos _)
theorem fac_mono9 {m : Nat} (h : m ≤ 9) : fac m ≤ 362880 := by
  have : ∀ j : Nat, j ≤ 9 → fac j ≤ 362880 := by decide +kernel
  exact this m h
theorem plcW_9 {es : List Ev} (hx : es.length ≤ 9) (p : Nat) : (plcW es p).length ≤ 9 := by
  unfold plcW idxB
  rw [if_pos (by omega)]
  have := idxK_len (toE (p : Int)) es es.length
  omega
/-- What there is: as a list, and how many. -/
theorem all_none {dss : List (List Dd)} (hb : workB dss = false) : allS (seatsL (eventsB dss)) [] = [[]] := by
  have : eventsB dss = [] := by rw [eventsB, hb]; rfl
  rw [this]
  rfl
end Go.Proofs.Ytgolhjmbloiakaa

/- Rows as the program asks for them (each seat by itself), and the lines of rows in the program's order: the same as the specification's. -/
namespace Go.Proofs.Ytgolhjmbloiakaa
open Go.RowKit

/-- Have the first k of the list seats that they may have, none of them twice? -/
def sitK (ss : List (List Int)) (rows : List Int) : Nat → Bool
  | 0 => true
  | k + 1 => sitK ss rows k && (isB (ss.getD k []) (rows.getD k 0) && !isB (rows.take k) (rows.getD k 0))
theorem sitK_false {ss : List (List Int)} {rows : List Int} {k : Nat} (h : sitK ss rows k = false) : ∀ m : Nat, k ≤ m → sitK ss rows m = false
  | 0, hm => by obtain rfl : k = 0 := by omega
                exact h
  | m + 1, hm => by
    by_cases e : k = m + 1
    · subst e; exact h
    · rw [sitK, sitK_false h m (by omega)]; rfl
theorem sitK_iff {ss : List (List Int)} {rows : List Int} : ∀ k : Nat, sitK ss rows k = true ↔ ∀ i, i < k → rows.getD i 0 ∈ ss.getD i [] ∧ rows.getD i 0 ∉ rows.take i
  | 0 => by simp [sitK]
  | k + 1 => by
    rw [sitK, Bool.and_eq_true, sitK_iff k, Bool.and_eq_true, Bool.not_eq_true', isB_false]
    constructor
    · rintro ⟨h1, h2, h3⟩ i hi
      by_cases e : i = k
      · subst e; exact ⟨isB_mem h2, h3⟩
      · exact h1 i (by omega)
    · intro h
      exact ⟨fun i hi => h i (by omega), mem_isB (h k (by omega)).1, (h k (by omega)).2⟩
theorem getD_at {l : List Int} {i : Nat} (h : i < l.length) : l.getD i 0 = l[i] := by
  rw [List.getD_eq_getElem?_getD, List.getElem?_eq_getElem h]; rfl
theorem getD_in {l : List Int} {i : Nat} (h : i < l.length) : l.getD i 0 ∈ l := by
  rw [getD_at h]; exact List.getElem_mem h
theorem nodup_of_take {rows : List Int} (h : ∀ i, i < rows.length → rows.getD i 0 ∉ rows.take i) : rows.Nodup := by
  rw [List.nodup_iff_pairwise_ne, List.pairwise_iff_getElem]
  intro i j hi hj hij e
  refine h j hj ?_
  rw [getD_at hj, ← e]
  exact List.mem_take_iff_getElem.2 ⟨i, by omega, rfl⟩
theorem take_of_nodup {rows : List Int} (h : rows.Nodup) {i : Nat} (hi : i < rows.length) : rows.getD i 0 ∉ rows.take i := by
  intro hm
  obtain ⟨j, hj, e⟩ := List.mem_take_iff_getElem.1 hm
  rw [getD_at hi] at e
  have := (List.getElem_inj h).1 e
  omega
/-- One place. -/
theorem part_sits {rows l : List Int} {at0 p : Nat} (hn : rows.Nodup) (hl : l.Nodup) (h0 : 0 < l.length) (hf : l.getD 0 0 = (p : Int)) (hle : at0 + l.length ≤ rows.length) :
    okP rows at0 l p = true ↔ ∀ j, j < l.length → rows.getD (at0 + j) 0 ∈ seatAt l j := by
  have hpl : ((rows.drop at0).take l.length).length = l.length := by rw [List.length_take, List.length_drop]; omega
  have hpart : ∀ j, j < l.length → rows.getD (at0 + j) 0 ∈ (rows.drop at0).take l.length := fun j hj => by
    refine List.mem_take_iff_getElem.2 ⟨j, by rw [List.length_drop]; omega, ?_⟩
    rw [List.getElem_drop, getD_at (by omega)]
  have hpn : ((rows.drop at0).take l.length).Nodup := (hn.sublist (List.drop_sublist at0 rows)).sublist (List.take_sublist _ _)
  have htk : l.take 1 = [l.getD 0 0] := by
    match l, h0 with
    | x :: r, _ => simp
  have hcons : l = l.getD 0 0 :: l.drop 1 := by
    match l, h0 with
    | x :: r, _ => simp
  constructor
  · intro h j hj
    have hperm := (okP_perm hl h).2
    have hm := hperm.mem_iff.2 (hpart j hj)
    unfold okP at h
    simp only [Bool.and_eq_true, decide_eq_true_eq, beq_iff_eq] at h
    unfold seatAt
    by_cases e : j = 0
    · subst e
      rw [if_pos rfl, htk, hf, Nat.add_zero, h.1.2]
      simp
    · rw [if_neg e]
      rw [hcons] at hm
      rcases List.mem_cons.1 hm with hm | hm
      · exfalso
        rw [hf, ← h.1.2, getD_at (by omega), getD_at (by omega)] at hm
        have := (List.getElem_inj hn).1 hm
        omega
      · exact hm
  · intro h
    have hin : ∀ x ∈ (rows.drop at0).take l.length, x ∈ l := fun x hx => by
      obtain ⟨j, hj, e⟩ := List.mem_take_iff_getElem.1 hx
      have hj2 : j < l.length := by omega
      have hs := h j hj2
      rw [List.getElem_drop] at e
      rw [getD_at (by rw [List.length_drop] at hj; omega), e] at hs
      unfold seatAt at hs
      split at hs
      · exact List.mem_of_mem_take hs
      · exact List.mem_of_mem_drop hs
    have hperm := perm_of hpn hin (by omega)
    have hfirst : rows.getD at0 0 = (p : Int) := by
      have := h 0 h0
      rw [Nat.add_zero] at this
      unfold seatAt at this
      rw [if_pos rfl, htk, List.mem_singleton, hf] at this
      exact this
    unfold okP
    simp only [Bool.and_eq_true, decide_eq_true_eq, beq_iff_eq, List.all_eq_true]
    exact ⟨⟨hle, hfirst⟩, fun x hx => mem_isB (hperm.mem_iff.2 hx)⟩
theorem seatP_get {l : List Int} {j : Nat} (h : j < l.length) : (seatP l).getD j [] = seatAt l j := by
  unfold seatP seatK
  rw [List.getD_eq_getElem?_getD, List.getElem?_map, List.getElem?_range h]
  rfl
theorem seat_left {a b : List (List Int)} {i : Nat} (h : i < a.length) : (a ++ b).getD i [] = a.getD i [] := by
  rw [List.getD_eq_getElem?_getD, List.getElem?_append_left h, ← List.getD_eq_getElem?_getD]
theorem seat_right {a b : List (List Int)} {i n : Nat} (h : n = a.length) : (a ++ b).getD (n + i) [] = b.getD i [] := by
  subst h
  rw [List.getD_eq_getElem?_getD, List.getElem?_append_right (by omega), ← List.getD_eq_getElem?_getD]
  congr 1
  omega
theorem seats_len (es : List Ev) : (seatsL es).length = (plcW es 0).length + (plcW es 1).length + (plcW es 2).length := by
  unfold seatsL
  rw [List.length_append, List.length_append, seatP_len, seatP_len, seatP_len]
theorem seats_0 {es : List Ev} {j : Nat} (h : j < (plcW es 0).length) : (seatsL es).getD (0 + j) [] = seatAt (plcW es 0) j := by
  unfold seatsL
  rw [Nat.zero_add, seat_left (by rw [List.length_append, seatP_len]; omega), seat_left (by rw [seatP_len]; omega), seatP_get h]
theorem seats_1 {es : List Ev} {j : Nat} (h : j < (plcW es 1).length) : (seatsL es).getD ((plcW es 0).length + j) [] = seatAt (plcW es 1) j := by
  unfold seatsL
  rw [seat_left (by rw [List.length_append, seatP_len, seatP_len]; omega), seat_right (by rw [seatP_len]), seatP_get h]
theorem seats_2 {es : List Ev} {j : Nat} (h : j < (plcW es 2).length) : (seatsL es).getD ((plcW es 0).length + (plcW es 1).length + j) [] = seatAt (plcW es 2) j := by
  unfold seatsL
  rw [seat_right (by rw [List.length_append, seatP_len, seatP_len]), seatP_get h]
/-- Each seat by itself: the same. -/
theorem sit_same {dss : List (List Dd)} (hb : workB dss = true) (rows : List Int) : (decide (rows.length = (seatsL (eventsB dss)).length) && sitK (seatsL (eventsB dss)) rows rows.length) = rowsL (eventsB dss) rows := by
  obtain ⟨p0, f0⟩ := plcW_first hb 0 (by decide)
  obtain ⟨p1, f1⟩ := plcW_first hb 1 (by decide)
  obtain ⟨p2, f2⟩ := plcW_first hb 2 (by decide)
  have h12 := eventsB_12 dss
  generalize eventsB dss = es at *
  rw [Bool.eq_iff_iff, Bool.and_eq_true, decide_eq_true_eq, sitK_iff, seats_len]
  constructor
  · rintro ⟨hl, hs⟩
    have hn := nodup_of_take (fun i hi => (hs i hi).2)
    have o0 := (part_sits (at0 := 0) hn (plcW_nodup h12 0) p0 f0 (by omega)).2 (fun j hj => by rw [← seats_0 hj]; exact (hs _ (by omega)).1)
    have o1 := (part_sits (at0 := (plcW es 0).length) hn (plcW_nodup h12 1) p1 f1 (by omega)).2 (fun j hj => by rw [← seats_1 hj]; exact (hs _ (by omega)).1)
    have o2 := (part_sits (at0 := (plcW es 0).length + (plcW es 1).length) hn (plcW_nodup h12 2) p2 f2 (by omega)).2 (fun j hj => by rw [← seats_2 hj]; exact (hs _ (by omega)).1)
    unfold rowsL
    rw [o0, o1, o2]
    simp only [Bool.true_and, decide_eq_true_eq]
    omega
  · intro h
    have hn := (rows_use h12 h).1
    unfold rowsL at h
    simp only [Bool.and_eq_true, decide_eq_true_eq] at h
    obtain ⟨⟨⟨o0, o1⟩, o2⟩, hl⟩ := h
    refine ⟨by omega, fun i hi => ⟨?_, take_of_nodup hn hi⟩⟩
    have q0 := (part_sits (at0 := 0) hn (plcW_nodup h12 0) p0 f0 (by omega)).1 o0
    have q1 := (part_sits (at0 := (plcW es 0).length) hn (plcW_nodup h12 1) p1 f1 (by omega)).1 o1
    have q2 := (part_sits (at0 := (plcW es 0).length + (plcW es 1).length) hn (plcW_nodup h12 2) p2 f2 (by omega)).1 o2
    by_cases c0 : i < (plcW es 0).length
    · have := q0 i c0
      rw [← seats_0 c0, Nat.zero_add] at this
      exact this
    · by_cases c1 : i < (plcW es 0).length + (plcW es 1).length
      · obtain ⟨j, rfl⟩ : ∃ j, i = (plcW es 0).length + j := ⟨i - (plcW es 0).length, by omega⟩
        have hj : j < (plcW es 1).length := by omega
        have := q1 j hj
        rw [← seats_1 hj] at this
        exact this
      · obtain ⟨j, rfl⟩ : ∃ j, i = (plcW es 0).length + (plcW es 1).length + j := ⟨i - ((plcW es 0).length + (plcW es 1).length), by omega⟩
        have hj : j < (plcW es 2).length := by omega
        have := q2 j hj
        rw [← seats_2 hj] at this
        exact this
/-- The lines of rows as the program draws them: to each from all ahead of it. -/
def pwIn (es : List Ev) (rows : List Int) (i : Nat) (st : List Int) : Nat → List Int
  | 0 => st
  | k + 1 => if (plE es (rows.getD k 0) == plE es (rows.getD i 0)) = true then (pwIn es rows i st k).set (rows.getD k 0).toNat (gAdd ((pwIn es rows i st k).getD (rows.getD k 0).toNat 0) (rows.getD i 0)) else pwIn es rows i st k
def pwAll (es : List Ev) (rows : List Int) : Nat → List Int
  | 0 => List.replicate es.length 0
  | i + 1 => pwIn es rows i (pwAll es rows i) i
theorem web_pwIn {es : List Ev} {rows : List Int} {n i : Nat} {st : List Int} (hr : ∀ j, j < rows.length → 0 ≤ rows.getD j 0 ∧ rows.getD j 0 < (n : Int)) (hi : i < rows.length) (hst : Web n st) : ∀ m : Nat, m ≤ i →
    Web n (pwIn es rows i st m) ∧ ∀ a b : Nat, a < n → (line (pwIn es rows i st m) a b = true ↔ line st a b = true ∨ ∃ q, q < m ∧ plE es (rows.getD q 0) = plE es (rows.getD i 0) ∧ rows.getD q 0 = (a : Int) ∧ rows.getD i 0 = (b : Int))
  | 0, _ => ⟨hst, fun a b _ => by simp [pwIn]⟩
  | m + 1, hm => by
    obtain ⟨h1, h2⟩ := web_pwIn (es := es) hr hi hst m (by omega)
    by_cases hp : plE es (rows.getD m 0) = plE es (rows.getD i 0)
    · obtain ⟨a0, ha0⟩ := Int.eq_ofNat_of_zero_le (hr m (by omega)).1
      obtain ⟨b0, hb0⟩ := Int.eq_ofNat_of_zero_le (hr i hi).1
      have ha : a0 < n := by have := (hr m (by omega)).2; omega
      have hb : b0 < n := by have := (hr i hi).2; omega
      have e0 : pwIn es rows i st (m + 1) = (pwIn es rows i st m).set a0 (gAdd ((pwIn es rows i st m).getD a0 0) (b0 : Int)) := by rw [pwIn, if_pos (by simpa using hp), ha0, hb0, Int.toNat_natCast]
      rw [e0]
      have hadd := ok_add (h1.2.2 a0 ha) hb
      refine ⟨h1.set hadd.1, fun a b haa => ?_⟩
      have e1 := h2 a b haa
      unfold line at e1 ⊢
      rw [getD_set _ _ _ _ (by rw [h1.2.1]; exact ha)]
      by_cases e : a0 = a
      · subst e
        simp only [if_true]
        rw [hadd.2 b, Bool.or_eq_true, e1, decide_eq_true_eq]
        constructor
        · rintro ((h | ⟨q, hq, r1, r2, r3⟩) | h)
          · exact .inl h
          · exact .inr ⟨q, by omega, r1, r2, r3⟩
          · exact .inr ⟨m, by omega, hp, ha0, by rw [hb0, h]⟩
        · rintro (h | ⟨q, hq, r1, r2, r3⟩)
          · exact .inl (.inl h)
          · right
            rw [hb0] at r3
            omega
      · simp only [e, if_false]
        rw [e1]
        constructor
        · rintro (h | ⟨q, hq, r1, r2, r3⟩)
          · exact .inl h
          · exact .inr ⟨q, by omega, r1, r2, r3⟩
        · rintro (h | ⟨q, hq, r1, r2, r3⟩)
          · exact .inl h
          · by_cases eq : q = m
            · exfalso; subst eq; rw [ha0] at r2; omega
            · exact .inr ⟨q, by omega, r1, r2, r3⟩
    · have e0 : pwIn es rows i st (m + 1) = pwIn es rows i st m := by rw [pwIn, if_neg (by simpa using hp)]
      rw [e0]
      refine ⟨h1, fun a b ha => ?_⟩
      rw [h2 a b ha]
      constructor
      · rintro (h | ⟨q, hq, r⟩)
        · exact .inl h
        · exact .inr ⟨q, by omega, r⟩
      · rintro (h | ⟨q, hq, r⟩)
        · exact .inl h
        · by_cases e : q = m
          · subst e; exact absurd r.1 hp
          · exact .inr ⟨q, by omega, r⟩
theorem web_pwAll {es : List Ev} {rows : List Int} (hx : es.length ≤ 12) (hr : ∀ j, j < rows.length → 0 ≤ rows.getD j 0 ∧ rows.getD j 0 < (es.length : Int)) : ∀ m : Nat, m ≤ rows.length →
    Web es.length (pwAll es rows m) ∧ ∀ a b : Nat, a < es.length → (line (pwAll es rows m) a b = true ↔ ∃ i q, i < m ∧ q < i ∧ plE es (rows.getD q 0) = plE es (rows.getD i 0) ∧ rows.getD q 0 = (a : Int) ∧ rows.getD i 0 = (b : Int))
  | 0, _ => ⟨Web.zero hx, fun a b _ => by unfold pwAll; rw [line_zero]; simp⟩
  | m + 1, hm => by
    obtain ⟨h1, h2⟩ := web_pwAll hx hr m (by omega)
    obtain ⟨g1, g2⟩ := web_pwIn (es := es) hr (show m < rows.length by omega) h1 m (Nat.le_refl _)
    refine ⟨g1, fun a b ha => ?_⟩
    show line (pwIn es rows m (pwAll es rows m) m) a b = true ↔ _
    rw [g2 a b ha, h2 a b ha]
    constructor
    · rintro (⟨i, q, hi, r⟩ | ⟨q, hq, r⟩)
      · exact ⟨i, q, by omega, r⟩
      · exact ⟨m, q, by omega, hq, r⟩
    · rintro ⟨i, q, hi, hq, r⟩
      by_cases e : i = m
      · subst e; exact .inr ⟨q, hq, r⟩
      · exact .inl ⟨i, q, by omega, hq, r⟩
theorem pw_same {es : List Ev} {rows : List Int} (hx : es.length ≤ 12) (hr : ∀ j, j < rows.length → 0 ≤ rows.getD j 0 ∧ rows.getD j 0 < (es.length : Int)) : pwAll es rows rows.length = rwL es rows := by
  obtain ⟨a1, a2⟩ := web_pwAll hx hr rows.length (Nat.le_refl _)
  obtain ⟨b1, b2⟩ := web_rwAll hx hr rows.length (Nat.le_refl _)
  unfold rwL
  refine Web.ext a1 b1 (fun a b ha _ => ?_)
  rw [Bool.eq_iff_iff, a2 a b ha, b2 a b ha]
  unfold rwP
  constructor
  · rintro ⟨i, q, hi, hq, h1, h2, h3⟩
    exact ⟨q, i, by omega, hi, by rw [decide_eq_true hq, h1]; simp, h2, h3⟩
  · rintro ⟨i, q, hi, hq, h1, h2, h3⟩
    rw [Bool.and_eq_true, decide_eq_true_eq, beq_iff_eq] at h1
    exact ⟨q, i, hq, h1.1, h1.2, h2, h3⟩
/-- Seats are few, and rise. -/
theorem seat_rises {es : List Ev} (hx : es.length ≤ 12) {i : Nat} (hi : i < (seatsL es).length) : ((seatsL es).getD i []).Pairwise (· < ·) ∧ ((seatsL es).getD i []).length ≤ 12 := by
  have at1 : ∀ (p j : Nat), (seatAt (plcW es p) j).Pairwise (· < ·) ∧ (seatAt (plcW es p) j).length ≤ 12 := fun p j => by
    have h1 : (plcW es p).Pairwise (· < ·) := by
      unfold plcW idxB
      rw [if_pos hx]
      exact idxK_rises _ _ _
    have h2 := plcW_len hx p
    unfold seatAt
    split
    · exact ⟨h1.sublist (List.take_sublist _ _), by rw [List.length_take]; omega⟩
    · exact ⟨h1.sublist (List.drop_sublist _ _), by rw [List.length_drop]; omega⟩
  rw [seats_len] at hi
  by_cases c0 : i < (plcW es 0).length
  · have := seats_0 c0
    rw [Nat.zero_add] at this
    rw [this]
    exact at1 0 i
  · by_cases c1 : i < (plcW es 0).length + (plcW es 1).length
    · obtain ⟨j, rfl⟩ : ∃ j, i = (plcW es 0).length + j := ⟨i - (plcW es 0).length, by omega⟩
      rw [seats_1 (by omega)]
      exact at1 1 j
    · obtain ⟨j, rfl⟩ : ∃ j, i = (plcW es 0).length + (plcW es 1).length + j := ⟨i - ((plcW es 0).length + (plcW es 1).length), by omega⟩
      rw [seats_2 (by omega)]
      exact at1 2 j
theorem seats_36 {es : List Ev} (hx : es.length ≤ 12) : (seatsL es).length ≤ 36 := by
  rw [seats_len]
  have := plcW_len hx 0
  have := plcW_len hx 1
  have := plcW_len hx 2
  omega
end Go.Proofs.Ytgolhjmbloiakaa

/- A tale in a block of the call's own, while it is filled. -/
namespace Go.Proofs.Ytgolhjmbloiakaa
open Go.ChangeShapes Go.WideShapes Go.ChangeAt Go.RowKit

abbrev nilV : Value := .slice none 0 0
abbrev taleC (x y : Value) : Obj := .cells #[x, y] 29
/-- Block D of the world wr is a tale; all else that was in w1 stands as it stood. -/
def StT (w1 wr : World) (D : Nat) (x y : Value) : Prop := wr.heap[D]? = some (taleC x y) ∧ w1.grownBy wr (some D)
theorem StT.start {w1 : World} (x y : Value) : StT w1 (w1.alloc (taleC x y)) w1.heap.size x y :=
  ⟨heap_alloc_new w1 _, World.grownBy_alloc w1 _ (some w1.heap.size)⟩
theorem StT.size {w1 wr : World} {D : Nat} {x y : Value} (h : StT w1 wr D x y) : D < wr.heap.size := (Array.getElem?_eq_some_iff.1 h.1).1
theorem StT.keep {w1 wr wr' : World} {D : Nat} {x y : Value} (h : StT w1 wr D x y) (hk : Keep wr wr') : StT w1 wr' D x y :=
  ⟨(Below.block hk D h.size).trans h.1, grown_trans h.2 ⟨Below.os hk, Below.tape hk, Below.output hk, Below.size hk, fun i hi _ => Below.block hk i hi⟩⟩
theorem StT.cells {w1 wr : World} {D : Nat} {x y : Value} (h : StT w1 wr D x y) :
    wr.cell? ⟨D, 0, none⟩ = some x ∧ wr.cell? ⟨D, 1, none⟩ = some y :=
  ⟨cell_of_row wr D 0 _ _ (0, 0) h.1, cell_of_row wr D 1 _ _ (0, 0) h.1⟩
theorem StT.free {w1 wr : World} {D : Nat} {x y : Value} (h : StT w1 wr D x y) (i : Nat) : wr.frozen? ⟨D, i, none⟩ = false := frozen_of_row wr D i _ _ h.1
theorem StT.set0 {w1 wr : World} {D : Nat} {x y : Value} (h : StT w1 wr D x y) (z : Value) : StT w1 (wr.setCell ⟨D, 0, none⟩ z) D z y :=
  ⟨by rw [heap_setCell_same wr D 0 _ _ _ h.1]; rfl, grown_trans h.2 ⟨rfl, rfl, rfl, by simp, fun i _ hi => heap_setCell_other wr ⟨D, 0, none⟩ i _ (fun e => hi (by simp [e]))⟩⟩
theorem StT.set1 {w1 wr : World} {D : Nat} {x y : Value} (h : StT w1 wr D x y) (z : Value) : StT w1 (wr.setCell ⟨D, 1, none⟩ z) D x z :=
  ⟨by rw [heap_setCell_same wr D 1 _ _ _ h.1]; rfl, grown_trans h.2 ⟨rfl, rfl, rfl, by simp, fun i _ hi => heap_setCell_other wr ⟨D, 1, none⟩ i _ (fun e => hi (by simp [e]))⟩⟩
/-- What was there ahead of the tale's block stands. -/
theorem StT.keep1 {w1 wr : World} {x y : Value} (h : StT w1 wr w1.heap.size x y) : Keep w1 wr :=
  (Keep.refl w1).grown h.2 (fun k hk => by simp at hk; omega)
theorem grown_setT (w : World) (g j : Nat) (v : Value) : w.grownBy (w.setCell ⟨g, j, none⟩ v) (some g) :=
  ⟨rfl, rfl, rfl, by simp, fun i _ hi => heap_setCell_other w ⟨g, j, none⟩ i _ (fun e => hi (by simp [e]))⟩
/-- A list whose block is another than the tale's stands while the tale is filled. -/
theorem Own.other {wr wr' : World} {base D : Nat} {v : Value} {zs : List Int} (h : Own wr base v zs) (hb : D < base) (hg : wr.grownBy wr' (some D)) : Own wr' base v zs :=
  h.kept hg (by
    cases hu : v.ownBlock with
    | none => exact .inl rfl
    | some k => exact .inr (fun e => by have := h.ge k hu; have := Option.some.inj e; omega))
theorem results_tmp_row {P : Program} {fn : Func} {p u : Tmp} {ty : TypeId} (h : fn.results = #[.tmp u, .cell p ty]) (tmps : Array Value) (w : World) (g : Nat) (t : TypeId) (cs : Array Value) (fr : Nat × Nat) (d : TypeDesc) (v : Value)
    (hp : tmps.getD p undef = .pointer (some ⟨g, 0, none⟩)) (hg : w.heap[g]? = some (.cells cs t fr)) (hv : tmps.getD u undef = v)
    (hu : P.underlying ty = some d) (hd : (match d with | .struct _ | .array _ _ => true | _ => false) = true) (hi : (P.info? ty).map (·.size) = some cs.size) :
    (results fn tmps).run P w = .ok (.tuple #[v, .agg cs]) w := by
  have hp' : tmps[p]?.getD undef = .pointer (some ⟨g, 0, none⟩) := by simpa using hp
  have hv' : tmps[u]?.getD undef = v := by simpa using hv
  simp [results, h, hp', hv', asAddr, run_loadVar_row w g t ty cs fr d hg hu hd hi]
end Go.Proofs.Ytgolhjmbloiakaa

/- The cell of a new block of one. -/
namespace Go.Proofs.Ytgolhjmbloiakaa
open Go.ChangeShapes Go.WideShapes Go.ChangeAt Go.RowKit

theorem new_one (w : World) (u : Value) (n : Nat) (hn : w.heap.size = n) : ∀ j y, ([u] : List Value)[j]? = some y → (w.alloc (.cells #[u] 27)).cell? ((⟨n, 0, none⟩ : Addr).add j) = some y := by
  subst hn
  intro j y hj
  match j, hj with
  | 0, hj => simp at hj; subst hj; simp [Addr.add]
end Go.Proofs.Ytgolhjmbloiakaa

/- Contract of the specification's ReadsOf: a new list of numbers. (Written by mkidx.py.) -/
namespace Go.Proofs.Ytgolhjmbloiakaa
open Go.ChangeShapes Go.WideShapes Go.ChangeAt Go.RowKit

set_option maxHeartbeats 1000000 in
theorem specReadsOf_any (w : World) (v : Value) (es : List Ev) (h : RdE w v es) (hx : es.length ≤ 1048576) :
    Calls Try.prog 96 #[v] w fun e w' => ∃ v', e = .returned v' ∧ Own w' w.heap.size v' (idxB rdE es) ∧ Keep w w' := by
  have hown0 : Own (w.alloc (.cells #[] 2)) w.heap.size (.slice (some ⟨w.heap.size, 0, none⟩) 0 0) [] := World.ownsRow_lit w #[] 0 (Nat.le_refl _) (by decide) rfl
  obtain ⟨a, cap, rfl, h⟩ := h
  by_cases hl : 12 < es.length
  · have HE : Hid (idxB rdE es = []) := Lib.hid (by unfold idxB; rw [if_neg (by omega)])
    have l1 : (12 : Int) < (es.length : Int) := by omega
    go_enter Try.func96, Try.ntmps96
    go_wp2
    refine wp_loop_rounds 1 ?_
    rw [rounds_succ]
    go_wp2
    go_ret
    exact ⟨_, rfl, by rw [HE.out]; exact hown0, (Keep.refl _).alloc _⟩
  have l1 : es.length ≤ 12 := by omega
  clear hl
  have HE : Hid (idxB rdE es = idxK rdE es es.length) := Lib.hid (by unfold idxB; rw [if_pos l1])
  obtain ⟨i0, hi, hz0, hz1, hz2⟩ := info_parts Try.infoI
  go_enter Try.func96, Try.ntmps96
  go_wp2
  go_loopw [3, 4] (fun v i wr => ∃ k : Nat, k ≤ es.length ∧ i = .int .i64 k ∧ Own wr w.heap.size v (idxK rdE es k) ∧ Keep w wr) (fun _ i _ => es.length - (intOf i).toNat)
  case atStart => exact ⟨0, Nat.zero_le _, rfl, hown0, (Keep.refl _).alloc _⟩
  case round =>
    obtain ⟨k, hk, rfl, ho, hK⟩ := hrel
    clear hown0
    by_cases hlt : k < es.length
    · rcases h with h | ⟨b, off, rfl, hb, hc⟩
      · exfalso; rw [h] at hlt; simp at hlt
      have AT := (hc k _ (evs_get hlt)).keep hb hK
      have hbw : b < wr.heap.size := Nat.lt_of_lt_of_le hb hK.size
      clear hc
      have hml : (idxK rdE es k).length ≤ k := idxK_len rdE es k
      have hsz := hK.size
      have i1 : (0 : Int) ≤ (k : Int) := Int.natCast_nonneg _
      have i2 : (k : Int) < (es.length : Int) := by omega
      have l2 : (es.length : Int) ≤ 12 := by omega
      have HP : Hid (idxK rdE es (k + 1) = if rdE (es.getD k zE) = true then idxK rdE es k ++ [(k : Int)] else idxK rdE es k) := Lib.hid rfl
      obtain ⟨e, he⟩ : ∃ e, e = es.getD k zE := ⟨_, rfl⟩
      rw [← he] at AT HP
      clear he
      obtain ⟨x0, x1, x2, x3, x4, x5⟩ := e
      obtain ⟨-, -, A2, -, -, -⟩ := atE AT
      clear AT
      cases x2
      · have HM : Hid (idxK rdE es (k + 1) = idxK rdE es k) := Lib.hid (by rw [HP.out]; rfl)
        clear HP
        go_wp2
        go_roundw
        case rel => exact ⟨k + 1, by omega, by go_num, by rw [HM.out]; exact ho, hK⟩
        case measure => simp [intOf]; omega
      · have HM : Hid (idxK rdE es (k + 1) = idxK rdE es k ++ [(k : Int)]) := Lib.hid (by rw [HP.out]; rfl)
        clear HP
        go_wp2_with (at_builtin; refine wpList_append_own _ rfl _ _ 27 rfl w.heap.size 2 i0 (.int .i64 0) 1 8 Try.underlying27 hi hz0 hz1 hz2 rfl (by decide) _ _ _ rfl (World.ownsRow.alloc ho _) ⟨_, 0, none⟩ 1 1 [.int .i64 k] rfl rfl ?c1 ?c2 ?c3 ?c4 ?c5 ?_)
        case c1 =>
          intro j u hj
          match j, hj with
          | 0, hj => simp at hj; subst hj; simp [Addr.add]
        case c2 => intro u hu; simp at hu; subst hu; rfl
        case c3 => unfold maxLen; omega
        case c4 => omega
        case c5 => simp; omega
        intro v' w1 hown' hgrow _
        have hK1 : Keep w w1 := (hK.alloc _).grown hgrow ho.ge
        clear hgrow
        go_wp2
        go_roundw
        case rel => exact ⟨k + 1, by omega, by go_num, by rw [HM.out]; exact own_hit hown', hK1⟩
        case measure => simp [intOf]; omega
    · obtain rfl : k = es.length := by omega
      go_wp2
      go_ret
      exact ⟨_, rfl, by rw [HE.out]; exact ho, hK⟩
end Go.Proofs.Ytgolhjmbloiakaa

/- Contract of the specification's WritesTo: a new list of numbers. (Written by mkidx.py.) -/
namespace Go.Proofs.Ytgolhjmbloiakaa
open Go.ChangeShapes Go.WideShapes Go.ChangeAt Go.RowKit

set_option maxRecDepth 100000 in
set_option maxHeartbeats 1000000 in
theorem specWritesTo_any (w : World) (v : Value) (es : List Ev) (p : Int) (h : RdE w v es) (hx : es.length ≤ 1048576) :
    Calls Try.prog 97 #[v, .int .i64 p] w fun e w' => ∃ v', e = .returned v' ∧ Own w' w.heap.size v' (idxB (toE p) es) ∧ Keep w w' := by
  have hown0 : Own (w.alloc (.cells #[] 2)) w.heap.size (.slice (some ⟨w.heap.size, 0, none⟩) 0 0) [] := World.ownsRow_lit w #[] 0 (Nat.le_refl _) (by decide) rfl
  obtain ⟨a, cap, rfl, h⟩ := h
  by_cases hl : 12 < es.length
  · have HE : Hid (idxB (toE p) es = []) := Lib.hid (by unfold idxB; rw [if_neg (by omega)])
    have l1 : (12 : Int) < (es.length : Int) := by omega
    go_enter Try.func97, Try.ntmps97
    go_wp2
    refine wp_loop_rounds 1 ?_
    rw [rounds_succ]
    go_wp2
    go_ret
    exact ⟨_, rfl, by rw [HE.out]; exact hown0, (Keep.refl _).alloc _⟩
  have l1 : es.length ≤ 12 := by omega
  clear hl
  have HE : Hid (idxB (toE p) es = idxK (toE p) es es.length) := Lib.hid (by unfold idxB; rw [if_pos l1])
  obtain ⟨i0, hi, hz0, hz1, hz2⟩ := info_parts Try.infoI
  go_enter Try.func97, Try.ntmps97
  go_wp2
  go_loopw [5, 6] (fun v i wr => ∃ k : Nat, k ≤ es.length ∧ i = .int .i64 k ∧ Own wr w.heap.size v (idxK (toE p) es k) ∧ Keep w wr) (fun _ i _ => es.length - (intOf i).toNat)
  case atStart => exact ⟨0, Nat.zero_le _, rfl, hown0, (Keep.refl _).alloc _⟩
  case round =>
    obtain ⟨k, hk, rfl, ho, hK⟩ := hrel
    clear hown0
    by_cases hlt : k < es.length
    · rcases h with h | ⟨b, off, rfl, hb, hc⟩
      · exfalso; rw [h] at hlt; simp at hlt
      have AT := (hc k _ (evs_get hlt)).keep hb hK
      have hbw : b < wr.heap.size := Nat.lt_of_lt_of_le hb hK.size
      clear hc
      have hml : (idxK (toE p) es k).length ≤ k := idxK_len (toE p) es k
      have hsz := hK.size
      have i1 : (0 : Int) ≤ (k : Int) := Int.natCast_nonneg _
      have i2 : (k : Int) < (es.length : Int) := by omega
      have l2 : (es.length : Int) ≤ 12 := by omega
      have HP : Hid (idxK (toE p) es (k + 1) = if toE p (es.getD k zE) = true then idxK (toE p) es k ++ [(k : Int)] else idxK (toE p) es k) := Lib.hid rfl
      obtain ⟨e, he⟩ : ∃ e, e = es.getD k zE := ⟨_, rfl⟩
      rw [← he] at AT HP
      clear he
      obtain ⟨x0, x1, x2, x3, x4, x5⟩ := e
      obtain ⟨-, -, A2, A3, -, -⟩ := atE AT
      clear AT
      cases x2
      · by_cases hp : x3 = p
        · subst hp
          have HM : Hid (idxK (toE x3) es (k + 1) = idxK (toE x3) es k ++ [(k : Int)]) := Lib.hid (by rw [HP.out]; simp [toE])
          clear HP
          go_wp2_with (at_builtin; refine wpList_append_own _ rfl _ _ 27 rfl w.heap.size 2 i0 (.int .i64 0) 1 8 Try.underlying27 hi hz0 hz1 hz2 rfl (by decide) _ _ _ rfl (World.ownsRow.alloc ho _) ⟨_, 0, none⟩ 1 1 [.int .i64 k] rfl rfl ?c1 ?c2 ?c3 ?c4 ?c5 ?_)
          case c1 =>
            intro j u hj
            match j, hj with
            | 0, hj => simp at hj; subst hj; simp [Addr.add]
          case c2 => intro u hu; simp at hu; subst hu; rfl
          case c3 => unfold maxLen; omega
          case c4 => omega
          case c5 => simp; omega
          intro v' w1 hown' hgrow _
          have hK1 : Keep w w1 := (hK.alloc _).grown hgrow ho.ge
          clear hgrow
          go_wp2
          go_roundw
          case rel => exact ⟨k + 1, by omega, by go_num, by rw [HM.out]; exact own_hit hown', hK1⟩
          case measure => simp [intOf]; omega
        · have HM : Hid (idxK (toE p) es (k + 1) = idxK (toE p) es k) := Lib.hid (by rw [HP.out]; simp [toE, hp])
          clear HP
          go_wp2
          go_roundw
          case rel => exact ⟨k + 1, by omega, by go_num, by rw [HM.out]; exact ho, hK⟩
          case measure => simp [intOf]; omega
      · have HM : Hid (idxK (toE p) es (k + 1) = idxK (toE p) es k) := Lib.hid (by rw [HP.out]; simp [toE])
        clear HP
        go_wp2
        go_roundw
        case rel => exact ⟨k + 1, by omega, by go_num, by rw [HM.out]; exact ho, hK⟩
        case measure => simp [intOf]; omega
    · obtain rfl : k = es.length := by omega
      go_wp2
      go_ret
      exact ⟨_, rfl, by rw [HE.out]; exact ho, hK⟩
end Go.Proofs.Ytgolhjmbloiakaa
