/- Several texts in one. -/
import Derived.Test.YtgolhjmbloiakabMA
import Derived.Lib.Hide
import Derived.BigRegion
import Derived.Test.YtgolhjmbloiakabRows
import Derived.OpenShut
import Derived.Outline
import Derived.Deep.RegionHeld3
import Derived.Deep.QuietTactic
import Derived.BigQuiet
import Derived.Maps.AppendAt
import Derived.Laws.OwnMore
import Derived.OwnWalk
import Derived.RegionTactic
import Derived.Deep.CutRange
/- Contract of the program's choicesOf. -/
namespace Go.Proofs.Ytgolhjmbloiakab
open Go.ChangeShapes Go.WideShapes Go.ChangeAt Go.RowKit

theorem cell_list {w : World} {b : Nat} {v : Value} (h : w.cell? ⟨b, 0, none⟩ = some v) : ∀ j u, ([v] : List Value)[j]? = some u → w.cell? ((⟨b, 0, none⟩ : Addr).add j) = some u := by
  intro j u hj
  match j, hj with
  | 0, hj =>
    simp at hj
    subst hj
    exact h
  | k + 1, hj => simp at hj
/-- All these lie from block s on. -/
def Ge (s : Nat) (vs : List Value) : Prop := ∀ (i : Nat) u, vs[i]? = some u → ∀ k, u.ownBlock = some k → s ≤ k
theorem Ge.push {s : Nat} {vs : List Value} {u : Value} (h : Ge s vs) (hu : ∀ k, u.ownBlock = some k → s ≤ k) : Ge s (vs ++ [u]) := by
  intro i y hy
  by_cases hi : i < vs.length
  · rw [List.getElem?_append_left hi] at hy
    exact h i y hy
  · rw [List.getElem?_append_right (by omega)] at hy
    have : i - vs.length = 0 := by
      have := (List.getElem?_eq_some_iff.1 hy).1
      simp at this
      omega
    rw [this] at hy
    simp only [List.getElem?_cons_zero, Option.some.injEq] at hy
    subst hy
    exact hu
set_option maxRecDepth 100000 in
set_option maxHeartbeats 2000000 in
theorem choicesOf_any (w : World) (v : Value) (es : List Ev) (h : RdE w v es) (hx : es.length ≤ 12) :
    Calls Try.prog 43 #[v] w fun e w' => ∃ v', e = .returned v' ∧ RdP w.heap.size w'.heap.size w' v' (chcL es).length (chcL es) ∧ Keep w w' := by
  obtain ⟨i0, hi, hz0, hz1, hz2⟩ := info_parts Try.infoL
  have A0 := appL_empty w
  have rl : (idxB rdE es).length ≤ 12 := by
    unfold idxB
    rw [if_pos hx]
    have := idxK_len rdE es es.length
    omega
  have rin : ∀ i, i < (idxB rdE es).length → 0 ≤ (idxB rdE es).getD i 0 ∧ (idxB rdE es).getD i 0 < (es.length : Int) := by
    intro i hi
    have hm : (idxB rdE es).getD i 0 ∈ idxB rdE es := by
      rw [List.getD_eq_getElem?_getD, List.getElem?_eq_getElem hi]
      exact List.getElem_mem hi
    refine idxK_lt rdE es _ _ ?_
    unfold idxB at hm ⊢
    rw [if_pos hx] at hm ⊢
    exact hm
  have HL : Hid (chcL es = chcK es (idxB rdE es) (idxB rdE es).length) := Lib.hid rfl
  go_enter Try.func43, Try.ntmps43
  go_wp2_with fail
  refine (implReadsOf_any _ _ _ (h.keep ((Keep.refl w).alloc _)) (by omega)).mono ?_
  rintro e w1 ⟨vr, rfl, or1, k1⟩
  generalize idxB rdE es = rs at rl rin HL or1
  have A1 := A0.keep k1
  have K1 : Keep w w1 := ((Keep.refl w).alloc _).trans k1
  have R1 : Beside w1 (.slice (some ⟨w.heap.size, 0, none⟩) 0 0) vr rs := or1.beside (fun k hk => by rw [heap_size]; simp [Value.ownBlock] at hk; omega)
  have RIN := Lib.hid rin
  obtain ⟨ar, cr, rfl, -⟩ := R1.rd
  clear A0 k1 or1 rin
  go_wp2
  go_loopw [3, 10] (fun x i wr => ∃ k : Nat, ∃ vs : List Value, k ≤ rs.length ∧ i = .int .i64 k ∧ Ge w.heap.size vs ∧ AppL wr w.heap.size x vs (chcK es rs k) ∧ Beside wr x (.slice ar rs.length cr) rs ∧ Keep w wr) (fun _ i _ => rs.length - (intOf i).toNat)
  case atStart => exact ⟨0, [], Nat.zero_le _, rfl, fun i u h => by simp at h, A1, R1, K1⟩
  case round =>
    obtain ⟨k, vs, hk, rfl, hG, hA, hB, hK⟩ := hrel
    clear A1 R1 K1
    by_cases hlt : k < rs.length
    · have hr := RIN.out k hlt
      obtain ⟨r, hr'⟩ := Int.eq_ofNat_of_zero_le hr.1
      have hre : r < es.length := by omega
      have hRd := hB.rd
      obtain ⟨a', c', he', hRd⟩ := hRd
      simp only [Value.slice.injEq, true_and] at he'
      obtain ⟨rfl, rfl⟩ := he'
      rcases hRd with h0 | ⟨br, or', rfl, hbr, hcr⟩
      · exfalso; rw [h0] at hlt; simp at hlt
      have d1 := hcr k hlt
      rw [hr'] at d1
      have HC : Hid (chcK es rs (k + 1) = chcK es rs k ++ [idxB (toE (plE es (r : Int))) es]) := Lib.hid (by rw [chcK, hr'])
      have HP : Hid (plE es (r : Int) = (es.getD r zE).2.2.2.1) := Lib.hid (by unfold plE; rw [Int.toNat_natCast])
      clear hr hr' hcr
      have hE := h.keep hK
      obtain ⟨ae, ce, rfl, h2⟩ := id hE
      rcases h2 with h0 | ⟨be, oe, rfl, hbe, hce⟩
      · exfalso; rw [h0] at hre; simp at hre
      have AT := hce r _ (evs_get hre)
      clear hce
      generalize es.getD r zE = e at AT HP
      obtain ⟨x0, x1, x2, x3, x4, x5⟩ := e
      obtain ⟨-, -, -, q3, -, -⟩ := atE AT
      clear AT
      simp only at HP
      rw [HP.out] at HC
      clear HP
      have i1 : (0 : Int) ≤ (k : Int) := Int.natCast_nonneg _
      have i2 : (k : Int) < (rs.length : Int) := by omega
      have j1 : (0 : Int) ≤ (r : Int) := Int.natCast_nonneg _
      have j2 : (r : Int) < (es.length : Int) := by omega
      have hcl := chcK_len es rs k
      go_wp2_with fail
      refine (implWritesTo_any _ _ _ hE (by omega) _).mono ?_
      rintro e w2 ⟨v2, rfl, o2, k2⟩
      obtain ⟨D, hD⟩ : ∃ D, D = chcK es rs k := ⟨_, rfl⟩
      rw [← hD] at hA HC hcl
      clear hD
      generalize idxB (toE x3) es = zs at o2 HC
      have hA2 := (hA.keep k2).keep ((Keep.refl w2).alloc (.cells #[v2] 24))
      have hB2 := (hB.keep k2).keep ((Keep.refl w2).alloc (.cells #[v2] 24))
      have hU : Beside (w2.alloc (.cells #[v2] 24)) _ v2 zs := (o2.beside (x := u3) (fun k hk => (hA.lt k hk).2)).keep ((Keep.refl w2).alloc _)
      have hK2 := hK.trans k2
      have hsz := hK2.size
      have hG2 := hG.push (fun k hk => Nat.le_trans hK.size (o2.ge k hk))
      obtain ⟨a2, c2, hv2, -⟩ := o2.rd
      clear hA hB o2
      generalize zs.length = nz at hv2
      subst hv2
      go_wp2_with (at_builtin; refine wpList_append_own_at _ rfl _ _ 52 rfl w.heap.size 24 i0 (.slice none 0 0) 1 24 Try.underlying52 hi hz0 hz1 hz2 rfl (by decide) _ _ _ rfl hA2.row ⟨_, 0, none⟩ 1 1 [.slice a2 nz c2] rfl rfl ?c1 ?c2 ?c3 ?c4 ?c5 ?_)
      case c1 => exact cell_list (Boxed.new _ _ _).cell
      case c2 => intro u hu; simp at hu; subst hu; rfl
      case c3 => unfold maxLen; omega
      case c4 => omega
      case c5 => first | omega | (simp; omega)
      intro v' w3 hown' hgrow _ hblk
      have hblk' : v'.ownBlock = u3.ownBlock ∨ v'.ownBlock = some (w2.alloc (.cells #[.slice a2 nz c2] 24)).heap.size := by rw [heap_size]; exact hblk
      have hA3 := hA2.push hU (by rw [hcl]; exact hown') hgrow hblk'
      have hB3 := hB2.grow hgrow hblk'
      have hK3 : Keep w w3 := (hK2.alloc _).grown hgrow (fun k hk => (hA2.lt k hk).1)
      clear hown' hgrow hblk hblk' hA2 hB2 hU
      go_wp2
      go_roundw
      case rel => exact ⟨k + 1, _, by omega, by go_num, hG2, by rw [HC.out]; exact hA3, hB3, hK3⟩
      case measure => simp [intOf]; omega
    · obtain rfl : k = rs.length := by omega
      have HR := Lib.hid (hA.rdp hG)
      go_wp2
      go_ret
      exact ⟨_, rfl, by rw [HL.out]; exact HR.out, hK⟩
end Go.Proofs.Ytgolhjmbloiakab

/- Sources: each n below their number tells one, and no two the same. -/
namespace Go.Proofs.Ytgolhjmbloiakab

def sufP (c : List (List Int)) : Nat → Int
  | 0 => 1
  | k + 1 => sufP c k * (c.getD (c.length - 1 - k) []).length
theorem suf_cnt (c : List (List Int)) : ∀ k : Nat, k ≤ c.length → cntK c (c.length - k) * sufP c k = cntK c c.length
  | 0, _ => by simp [sufP]
  | k + 1, h => by
    have ih := suf_cnt c k (by omega)
    have e : c.length - k = (c.length - (k + 1)) + 1 := by omega
    have e2 : c.length - 1 - k = c.length - (k + 1) := by omega
    rw [← ih, e, cntK, sufP, e2, Int.mul_comm (sufP c k), ← Int.mul_assoc]
theorem suf_all (c : List (List Int)) : sufP c c.length = cntK c c.length := by
  have := suf_cnt c c.length (Nat.le_refl _)
  rw [Nat.sub_self, cntK, Int.one_mul] at this
  exact this
def Full (c : List (List Int)) : Prop := ∀ i, i < c.length → 0 < (c.getD i []).length
theorem at_nonneg {c : List (List Int)} {n : Int} (h0 : 0 ≤ n) : ∀ k : Nat, 0 ≤ (atK c n k).1
  | 0 => h0
  | k + 1 => by
    have ih := at_nonneg (c := c) h0 k
    simp only [atK]
    exact Int.ediv_nonneg ih (Int.natCast_nonneg _)
theorem at_bound {c : List (List Int)} (hf : Full c) {n : Int} : ∀ (k : Nat) (M : Int), k ≤ c.length → n < sufP c k * M → (atK c n k).1 < M
  | 0, M, _, h => by simpa [sufP, atK] using h
  | k + 1, M, hk, h => by
    have hl : (0 : Int) < (c.getD (c.length - 1 - k) []).length := by have := hf (c.length - 1 - k) (by omega); omega
    rw [sufP, Int.mul_assoc] at h
    have ih := at_bound hf k _ (by omega) h
    simp only [atK]
    refine Int.ediv_lt_of_lt_mul hl ?_
    rw [Int.mul_comm]
    exact ih
theorem at_end {c : List (List Int)} (hf : Full c) {n : Int} (h0 : 0 ≤ n) (h1 : n < cntK c c.length) : (atK c n c.length).1 = 0 := by
  have a := at_nonneg (c := c) h0 c.length
  have b := at_bound hf (n := n) c.length 1 (Nat.le_refl _) (by rw [suf_all, Int.mul_one]; exact h1)
  omega
theorem nodup_at {l : List Int} (hn : l.Nodup) {p q : Nat} (hp : p < l.length) (hq : q < l.length) (e : l.getD p 0 = l.getD q 0) : p = q := by
  rw [List.getD_eq_getElem?_getD, List.getElem?_eq_getElem hp, List.getD_eq_getElem?_getD, List.getElem?_eq_getElem hq] at e
  exact (List.getElem_inj hn).1 e
theorem at_same {c : List (List Int)} (hf : Full c) (hn : ∀ i, i < c.length → (c.getD i []).Nodup) {n m : Int} : ∀ k : Nat, k ≤ c.length → (atK c n k).2 = (atK c m k).2 → (atK c n k).1 = (atK c m k).1 → n = m
  | 0, _, _, h => h
  | k + 1, hk, h2, h1 => by
    simp only [atK] at h1 h2
    have hi : c.length - 1 - k < c.length := by omega
    have hl := hf _ hi
    have hnn := hn _ hi
    generalize c.getD (c.length - 1 - k) [] = l at h1 h2 hl hnn
    have hL : (0 : Int) < (l.length : Int) := by omega
    rw [List.cons.injEq] at h2
    have a1 := Int.emod_nonneg (atK c n k).1 (show (l.length : Int) ≠ 0 by omega)
    have a2 := Int.emod_lt_of_pos (atK c n k).1 hL
    have b1 := Int.emod_nonneg (atK c m k).1 (show (l.length : Int) ≠ 0 by omega)
    have b2 := Int.emod_lt_of_pos (atK c m k).1 hL
    have e := nodup_at hnn (by omega) (by omega) h2.1
    have e' : (atK c n k).1 % (l.length : Int) = (atK c m k).1 % (l.length : Int) := by omega
    refine at_same hf hn k (by omega) h2.2 ?_
    have x := Int.emod_add_mul_ediv (atK c n k).1 (l.length : Int)
    have y := Int.emod_add_mul_ediv (atK c m k).1 (l.length : Int)
    rw [h1, e'] at x
    exact x.symm.trans y
theorem at_one' {c : List (List Int)} (hf : Full c) (hn : ∀ i, i < c.length → (c.getD i []).Nodup) {n m : Int} (h0 : 0 ≤ n) (h1 : n < cntK c c.length) (g0 : 0 ≤ m) (g1 : m < cntK c c.length) : atL c n = atL c m ↔ n = m :=
  ⟨fun h => at_same hf hn c.length (Nat.le_refl _) h (by rw [at_end hf h0 h1, at_end hf g0 g1]), fun h => by rw [h]⟩
theorem is_get {l : List Int} {p : Nat} (hp : p < l.length) : isB l (l.getD p 0) = true := by
  unfold isB
  rw [List.any_eq_true]
  refine ⟨l.getD p 0, ?_, by simp⟩
  rw [List.getD_eq_getElem?_getD, List.getElem?_eq_getElem hp]
  exact List.getElem_mem hp
/-- The j-th of those told last is one of its choices. -/
theorem at_each {c : List (List Int)} (hf : Full c) {n : Int} : ∀ (k : Nat), k ≤ c.length → ∀ j, j < k → isB (c.getD (c.length - k + j) []) ((atK c n k).2.getD j 0) = true
  | 0, _, j, hj => by omega
  | k + 1, hk, j, hj => by
    simp only [atK]
    cases j with
    | zero =>
      rw [List.getD_cons_zero, Nat.add_zero, show c.length - (k + 1) = c.length - 1 - k by omega]
      have hl := hf (c.length - 1 - k) (by omega)
      have a1 := Int.emod_nonneg (atK c n k).1 (show ((c.getD (c.length - 1 - k) []).length : Int) ≠ 0 by omega)
      have a2 := Int.emod_lt_of_pos (atK c n k).1 (show (0 : Int) < ((c.getD (c.length - 1 - k) []).length : Int) by omega)
      exact is_get (by omega)
    | succ j =>
      rw [List.getD_cons_succ, show c.length - (k + 1) + (j + 1) = c.length - k + j by omega]
      exact at_each hf k (by omega) j (by omega)
theorem at_src {c : List (List Int)} (hf : Full c) (n : Int) : srcB c (atL c n) = true := by
  unfold srcB
  rw [Bool.and_eq_true, decide_eq_true_eq]
  refine ⟨(atK_len c n c.length).symm, ?_⟩
  rw [srcK_iff]
  intro i hi
  have := at_each hf (n := n) c.length (Nat.le_refl _) i hi
  rw [Nat.sub_self, Nat.zero_add] at this
  exact this
theorem place_in {dss : List (List Dd)} (h : workB dss = true) (j : Nat) (hj : j < (evsW dss dss.length).length) : 0 ≤ ((evsW dss dss.length).getD j zE).2.2.2.1 ∧ ((evsW dss dss.length).getD j zE).2.2.2.1 ≤ 2 := by
  simp only [workB, Bool.and_eq_true, decide_eq_true_eq] at h
  obtain ⟨⟨⟨⟨_, h2⟩, _⟩, _⟩, _⟩ := h
  have hok : ∀ i, i < dss.length → okL (dss.getD i []) = true := fun i hi => all_get [] h2 i hi
  obtain ⟨⟨t, ht⟩, hg⟩ := evs_good hok dss.length (Nat.le_refl _)
  by_cases hj3 : 3 ≤ j
  · exact good_place hok (hg j hj3 hj)
  · obtain ⟨b0, b1, b2⟩ := beg_get ht
    have : j = 0 ∨ j = 1 ∨ j = 2 := by omega
    rcases this with rfl | rfl | rfl
    · rw [b0]; decide
    · rw [b1]; decide
    · rw [b2]; decide
/-- Of a right work each read has some write that it may be from, and none twice. -/
theorem chc_full {dss : List (List Dd)} (hw : workB dss = true) : Full (chcL (eventsB dss)) ∧ ∀ i, i < (chcL (eventsB dss)).length → ((chcL (eventsB dss)).getD i []).Nodup := by
  have e1 : eventsB dss = evsW dss dss.length := by rw [eventsB, if_pos hw]
  obtain ⟨h12, _, _, h4, hG⟩ := events_law hw
  rw [e1]
  have e3 : ∀ f, idxB f (evsW dss dss.length) = idxK f (evsW dss dss.length) (evsW dss dss.length).length := fun f => by unfold idxB; rw [if_pos h12]
  refine ⟨fun i hi => ?_, fun i hi => ?_⟩
  · unfold chcL at hi ⊢
    rw [chcK_len] at hi
    rw [chcK_get _ _ _ _ hi]
    -- the place of that read is one of three
    have hp : ∃ p : Nat, p < 3 ∧ plE (evsW dss dss.length) ((idxB rdE (evsW dss dss.length)).getD i 0) = (p : Int) := by
      have hm : (idxB rdE (evsW dss dss.length)).getD i 0 ∈ idxB rdE (evsW dss dss.length) := by
        rw [List.getD_eq_getElem?_getD, List.getElem?_eq_getElem hi]
        exact List.getElem_mem hi
      have hb : 0 ≤ (idxB rdE (evsW dss dss.length)).getD i 0 ∧ (idxB rdE (evsW dss dss.length)).getD i 0 < ((evsW dss dss.length).length : Int) := by
        refine idxK_lt rdE (evsW dss dss.length) _ _ ?_
        rw [e3] at hm ⊢
        exact hm
      generalize (idxB rdE (evsW dss dss.length)).getD i 0 = r at hb
      obtain ⟨j, rfl⟩ := Int.eq_ofNat_of_zero_le hb.1
      have hj : j < (evsW dss dss.length).length := by omega
      unfold plE
      rw [Int.toNat_natCast]
      have := place_in hw j hj
      obtain ⟨p, hp⟩ := Int.eq_ofNat_of_zero_le this.1
      exact ⟨p, by omega, hp⟩
    obtain ⟨p, hp3, hp⟩ := hp
    rw [hp]
    obtain ⟨r, hr⟩ := h4 p hp3
    rw [e3, hr]
    simp
  · unfold chcL at hi ⊢
    rw [chcK_len] at hi
    rw [chcK_get _ _ _ _ hi, e3]
    exact (idxK_rises _ _ _).imp (fun h => by omega)
end Go.Proofs.Ytgolhjmbloiakab

/- Plain facts on sets as numbers: a set is gathered from its members, which rise; what is gathered from a list has just the list's numbers. -/
namespace Go.Proofs.Ytgolhjmbloiakab
open Go.RowKit

theorem bitB_nat (a i : Nat) (ha : a < 4096) : bitB (a : Int) (i : Int) = a.testBit i := by
  unfold bitB
  have hd : a / 2 ^ i ≤ a := Nat.div_le_self _ _
  have e : ((a : Int) / 2 ^ (i : Int).toNat) = ((a / 2 ^ i : Nat) : Int) := by simp
  rw [e, show (1 : Int) = ((1 : Nat) : Int) from rfl, i64_and_nat _ _ (by omega) (by omega), Nat.and_one_is_mod, Nat.testBit_eq_decide_div_mod_eq]
  generalize a / 2 ^ i % 2 = r
  rw [Bool.eq_iff_iff, beq_iff_eq, decide_eq_true_eq]
  omega
theorem inSetB_nat (a i : Nat) (ha : a < 4096) (hi : i < 12) : inSetB (a : Int) (i : Int) = a.testBit i := by
  have h1 : inB (i : Int) 0 11 = true := by unfold inB; simp; omega
  have h2 : inB (a : Int) 0 4095 = true := by unfold inB; simp; omega
  simp [inSetB, h1, h2, bitB_nat a i ha]
theorem gAdd_nat (a i : Nat) (ha : a < 4096) (hi : i < 12) : gAdd (a : Int) (i : Int) = ((a ||| 2 ^ i : Nat) : Int) := by
  have h1 : inB (i : Int) 0 11 = true := by unfold inB; simp; omega
  rw [gAdd_ok _ _ (by omega) h1, wrap64_pow _ (by omega) (by omega)]
  have hq : (2 : Nat) ^ i < 2 ^ 12 := Nat.pow_lt_pow_right (by omega) hi
  have e : ((2 : Int) ^ (i : Int).toNat) = ((2 ^ i : Nat) : Int) := by simp
  rw [e, i64_or_nat a _ (by omega) (by omega)]
theorem or_lt (a i : Nat) (ha : a < 4096) (hi : i < 12) : a ||| 2 ^ i < 4096 := by
  have hq : (2 : Nat) ^ i < 2 ^ 12 := Nat.pow_lt_pow_right (by omega) hi
  exact Nat.or_lt_two_pow (n := 12) ha hq
theorem fold_all (l : List Int) (h : ∀ x ∈ l, inB x 0 11 = true) (a : Nat) (ha : a < 4096) :
    ∃ b : Nat, b < 4096 ∧ l.foldl gAdd (a : Int) = b ∧ ∀ k : Nat, k < 12 → b.testBit k = (a.testBit k || decide ((k : Int) ∈ l)) := by
  induction l generalizing a with
  | nil => exact ⟨a, ha, rfl, by simp⟩
  | cons x l ih =>
    have hx := h x (by simp)
    have hx' := hx
    simp only [inB, decide_eq_true_eq] at hx'
    obtain ⟨i, rfl⟩ := Int.eq_ofNat_of_zero_le hx'.1
    have hi : i < 12 := by omega
    obtain ⟨b, hb, he, hk⟩ := ih (fun y hy => h y (by simp [hy])) (a ||| 2 ^ i) (or_lt a i ha hi)
    refine ⟨b, hb, ?_, fun k hk12 => ?_⟩
    · rw [List.foldl_cons, gAdd_nat a i ha hi]; exact he
    · rw [hk k hk12, Nat.testBit_or, Nat.testBit_two_pow, Bool.or_assoc]
      congr 1
      rw [Bool.eq_iff_iff, Bool.or_eq_true, decide_eq_true_eq, decide_eq_true_eq, decide_eq_true_eq, List.mem_cons]
      constructor
      · rintro (h | h)
        · exact .inl (by omega)
        · exact .inr h
      · rintro (h | h)
        · exact .inl (by omega)
        · exact .inr h
theorem fold_neg (l : List Int) (x : Int) (hx : x ∈ l) (h : inB x 0 11 = false) (s : Int) : l.foldl gAdd s = -1 := by
  induction l generalizing s with
  | nil => simp at hx
  | cons y l ih =>
    rw [List.foldl_cons]
    rcases List.mem_cons.1 hx with rfl | hx
    · rw [gAdd_bad _ _ h]; exact foldl_none l
    · exact ih hx _
theorem gath_has (l : List Int) (h : 0 ≤ gath l) (k : Nat) (hk : k < 12) : inSetB (gath l) (k : Int) = hasB (k : Int) l := by
  have hall : ∀ x ∈ l, inB x 0 11 = true := by
    intro x hx
    cases hb : inB x 0 11 with
    | true => rfl
    | false => have := fold_neg l x hx hb 0; unfold gath at h; omega
  obtain ⟨b, hb, he, hbit⟩ := fold_all l hall 0 (by omega)
  have e : gath l = (b : Int) := he
  rw [e, inSetB_nat b k hb hk, hbit k hk]
  simp [hasB]
theorem mem_iff (s : Int) (n : Nat) (x : Int) : x ∈ mem s n ↔ ∃ k : Nat, k < n ∧ x = k ∧ inSetB s k = true := by
  induction n with
  | zero => simp [mem]
  | succ n ih =>
    unfold mem
    rw [List.mem_append, ih]
    constructor
    · rintro (⟨k, hk, rfl, h⟩ | h)
      · exact ⟨k, by omega, rfl, h⟩
      · split at h
        · rename_i hs
          simp at h
          exact ⟨n, by omega, h, hs⟩
        · simp at h
    · rintro ⟨k, hk, rfl, h⟩
      by_cases hkn : k = n
      · subst hkn; right; simp [h]
      · exact .inl ⟨k, by omega, rfl, h⟩
theorem mem_rises (s : Int) (n : Nat) : (mem s n).Pairwise (· < ·) := by
  induction n with
  | zero => simp [mem]
  | succ n ih =>
    unfold mem
    rw [List.pairwise_append]
    refine ⟨ih, by split <;> simp, fun a ha b hb => ?_⟩
    obtain ⟨k, hk, rfl, _⟩ := (mem_iff s n a).1 ha
    split at hb
    · simp at hb; omega
    · simp at hb
theorem mem_step (s : Int) (n i : Nat) (h : i + 1 < (mem s n).length) : (mem s n).getD i 0 < (mem s n).getD (i + 1) 0 := by
  have := (List.pairwise_iff_getElem.1 (mem_rises s n)) i (i + 1) (by omega) h (by omega)
  rw [List.getD_eq_getElem?_getD, List.getD_eq_getElem?_getD, List.getElem?_eq_getElem h, List.getElem?_eq_getElem (show i < (mem s n).length by omega)]
  exact this
theorem gath_mem (s : Int) (h : inB s 0 4095 = true) : gath (mem s 12) = s := by
  simp only [inB, decide_eq_true_eq] at h
  obtain ⟨a, rfl⟩ := Int.eq_ofNat_of_zero_le h.1
  have ha : a < 4096 := by omega
  have hall : ∀ x ∈ mem (a : Int) 12, inB x 0 11 = true := by
    intro x hx
    obtain ⟨k, hk, rfl, _⟩ := (mem_iff _ _ _).1 hx
    unfold inB; simp; omega
  obtain ⟨b, hb, he, hbit⟩ := fold_all _ hall 0 (by omega)
  have e : gath (mem (a : Int) 12) = (b : Int) := he
  show gath (mem (a : Int) 12) = (a : Int)
  rw [e]
  have : b = a := by
    apply Nat.eq_of_testBit_eq
    intro k
    by_cases hk : k < 12
    · rw [hbit k hk, Nat.zero_testBit, Bool.false_or]
      rw [← inSetB_nat a k ha hk, Bool.eq_iff_iff, decide_eq_true_eq, mem_iff]
      constructor
      · rintro ⟨j, hj, he, h⟩; have : j = k := by omega
        subst this; exact h
      · intro h; exact ⟨k, hk, rfl, h⟩
    · have hp : (2 : Nat) ^ 12 ≤ 2 ^ k := Nat.pow_le_pow_right (by omega) (by omega)
      rw [Nat.testBit_lt_two_pow (by omega), Nat.testBit_lt_two_pow (by omega)]
  rw [this]
end Go.Proofs.Ytgolhjmbloiakab

/- Plain facts on webs as lists of numbers: which lists are webs, and what each function of chapter 2 answers, said by recursion; nothing of the program. -/
namespace Go.Proofs.Ytgolhjmbloiakab
open Go.RowKit

/-- Is the list a web? -/
def webB (zs : List Int) : Bool := zs.all (okB zs.length)
/-- Are they two webs, as many? -/
def twoB (a b : List Int) : Bool := decide (a.length = b.length) && webB a && webB b
/-- Sets mixed place by place. -/
def mixL (f : Int → Int → Int) (a b : List Int) : List Int := if twoB a b = true then List.zipWith f a b else []
def orI (a b : Int) : Int := bits .or .i64 a b
def andI (a b : Int) : Int := bits .and .i64 a b
def notI (a b : Int) : Int := bits .andNot .i64 a b
/-- Where one comes by the first k, from those in x along b. -/
def thenS (x : Int) (b : List Int) : Nat → Int
  | 0 => 0
  | k + 1 => if inSetB x k = true then orI (thenS x b k) (b.getD k 0) else thenS x b k
def thenL (a b : List Int) : List Int := if twoB a b = true then a.map (fun x => thenS x b 12) else []
/-- The first k of x lead back to i. -/
def backIn (i : Nat) (x : Int) (st : List Int) : Nat → List Int
  | 0 => st
  | k + 1 => if inSetB x k = true then (backIn i x st k).set k (gAdd ((backIn i x st k).getD k 0) i) else backIn i x st k
def backAll (zs : List Int) : Nat → List Int
  | 0 => List.replicate zs.length 0
  | i + 1 => backIn i (zs.getD i 0) (backAll zs i) 12
def backL (zs : List Int) : List Int := if webB zs = true then backAll zs zs.length else []
/-- The first i may pass k. -/
def wayIn (k : Nat) (st : List Int) : Nat → List Int
  | 0 => st
  | i + 1 => if inSetB ((wayIn k st i).getD i 0) k = true then (wayIn k st i).set i (orI ((wayIn k st i).getD i 0) ((wayIn k st i).getD k 0)) else wayIn k st i
def wayAll (zs : List Int) : Nat → List Int
  | 0 => zs
  | k + 1 => wayIn k (wayAll zs k) zs.length
def waysL (zs : List Int) : List Int := if webB zs = true then wayAll zs zs.length else []

theorem getD_mem {zs : List Int} {i : Nat} (h : i < zs.length) : zs.getD i 0 ∈ zs := by
  rw [List.getD_eq_getElem?_getD, List.getElem?_eq_getElem h]; exact List.getElem_mem h
theorem webB_all {zs : List Int} (h : ∀ i, i < zs.length → okB zs.length (zs.getD i 0) = true) : webB zs = true := by
  unfold webB
  rw [List.all_eq_true]
  intro x hx
  obtain ⟨i, hi, rfl⟩ := List.getElem_of_mem hx
  have := h i hi
  rwa [List.getD_eq_getElem?_getD, List.getElem?_eq_getElem hi] at this
theorem webB_get {zs : List Int} (h : webB zs = true) {i : Nat} (hi : i < zs.length) : okB zs.length (zs.getD i 0) = true := by
  unfold webB at h
  rw [List.all_eq_true] at h
  exact h _ (getD_mem hi)
theorem webB_bad {zs : List Int} {i : Nat} (hi : i < zs.length) (h : okB zs.length (zs.getD i 0) = false) : webB zs = false := by
  cases hw : webB zs with
  | false => rfl
  | true => rw [webB_get hw hi] at h; cases h
theorem okB_iff {n s : Int} : okB n s = true ↔ (0 ≤ n ∧ n ≤ 12) ∧ 0 ≤ s ∧ s < 2 ^ n.toNat := by unfold okB; rw [decide_eq_true_eq]
theorem webB_len {zs : List Int} (h : webB zs = true) : zs.length ≤ 12 := by
  by_cases h0 : zs.length = 0
  · omega
  · have := okB_iff.1 (webB_get h (i := 0) (by omega)); omega
theorem okB_range {n s : Int} (h : okB n s = true) : 0 ≤ s ∧ s ≤ 4095 := by
  have h1 := okB_iff.1 h
  have := pow_le12 n.toNat (by omega)
  omega
theorem twoB_iff {a b : List Int} : twoB a b = true ↔ a.length = b.length ∧ webB a = true ∧ webB b = true := by
  unfold twoB; rw [Bool.and_eq_true, Bool.and_eq_true, decide_eq_true_eq, and_assoc]
theorem inSetB_bit {s : Int} {k : Nat} (h : 0 ≤ s ∧ s ≤ 4095) (hk : k < 12) : inSetB s k = bitB s k := by
  have h1 : inB (k : Int) 0 11 = true := by unfold inB; simp; omega
  have h2 : inB s 0 4095 = true := by unfold inB; simp; omega
  simp [inSetB, h1, h2]

/-! A set of n as a number with bits. -/
theorem okB_nat {n : Nat} {s : Int} (h : okB n s = true) : n ≤ 12 ∧ ∃ a : Nat, s = a ∧ a < 2 ^ n ∧ a < 4096 := by
  have h1 := okB_iff.1 h
  have h2 := okB_range h
  obtain ⟨a, rfl⟩ := Int.eq_ofNat_of_zero_le h2.1
  refine ⟨by omega, a, rfl, ?_, by omega⟩
  have := h1.2.2
  simp at this
  exact_mod_cast this
theorem okB_of_nat {n a : Nat} (hn : n ≤ 12) (ha : a < 2 ^ n) : okB n a = true := by
  rw [okB_iff]
  refine ⟨by omega, by omega, ?_⟩
  simp
  exact_mod_cast ha
theorem inSetB_iff {n : Nat} {s : Int} (h : okB n s = true) {j : Nat} (hj : inSetB s j = true) : j < n := by
  obtain ⟨hn, a, rfl, ha, h12⟩ := okB_nat h
  have hj12 : j < 12 := by
    have : inB (j : Int) 0 11 = true := by unfold inSetB at hj; simp at hj; exact hj.1.1
    unfold inB at this; simp at this; omega
  rw [inSetB_nat a j h12 hj12] at hj
  apply Classical.byContradiction
  intro hnj
  have hp : (2 : Nat) ^ n ≤ 2 ^ j := Nat.pow_le_pow_right (by omega) (by omega)
  rw [Nat.testBit_lt_two_pow (by omega)] at hj
  cases hj
theorem inSetB_far (s : Int) {j : Nat} (hj : 12 ≤ j) : inSetB s j = false := by
  have : inB (j : Int) 0 11 = false := by unfold inB; simp; omega
  simp [inSetB, this]
theorem ok_ext {n : Nat} {s t : Int} (hs : okB n s = true) (ht : okB n t = true) (h : ∀ j : Nat, j < n → inSetB s j = inSetB t j) : s = t := by
  obtain ⟨hn, a, rfl, ha, ha'⟩ := okB_nat hs
  obtain ⟨_, b, rfl, hb, hb'⟩ := okB_nat ht
  congr 1
  apply Nat.eq_of_testBit_eq
  intro j
  by_cases hj : j < n
  · have := h j hj
    rwa [inSetB_nat a j ha' (by omega), inSetB_nat b j hb' (by omega)] at this
  · have hp : (2 : Nat) ^ n ≤ 2 ^ j := Nat.pow_le_pow_right (by omega) (by omega)
    rw [Nat.testBit_lt_two_pow (by omega), Nat.testBit_lt_two_pow (by omega)]
theorem ok_zero {n : Nat} (hn : n ≤ 12) : okB n 0 = true := okB_of_nat (a := 0) hn (Nat.two_pow_pos n)
theorem zero_bit (j : Nat) : inSetB 0 j = false := by
  by_cases hj : j < 12
  · rw [show (0 : Int) = ((0 : Nat) : Int) from rfl, inSetB_nat 0 j (by omega) hj, Nat.zero_testBit]
  · exact inSetB_far _ (by omega)
theorem i64_andNot_nat (a b : Nat) (ha : a < 9223372036854775808) (hb : b < 9223372036854775808) : bits .andNot .i64 (a : Int) (b : Int) = ((a &&& (18446744073709551615 - b) : Nat) : Int) := by
  have hx : a &&& (18446744073709551615 - b) ≤ a := Nat.and_le_left
  show IntKind.i64.wrap ((BitVec.ofInt 64 (a : Int) &&& ~~~ BitVec.ofInt 64 (b : Int)).toNat : Int) = _
  rw [BitVec.toNat_and, BitVec.toNat_not, ofInt_i64 a ha, ofInt_i64 b hb, IntKind.wrap_i64, show (2 : Nat) ^ 64 - 1 - b = 18446744073709551615 - b from rfl]
  omega
theorem ok_or {n : Nat} {s t : Int} (hs : okB n s = true) (ht : okB n t = true) : okB n (orI s t) = true ∧ ∀ j : Nat, inSetB (orI s t) j = (inSetB s j || inSetB t j) := by
  obtain ⟨hn, a, rfl, ha, ha'⟩ := okB_nat hs
  obtain ⟨_, b, rfl, hb, hb'⟩ := okB_nat ht
  have e : orI (a : Int) (b : Int) = ((a ||| b : Nat) : Int) := i64_or_nat a b (by omega) (by omega)
  have hl : a ||| b < 2 ^ n := Nat.or_lt_two_pow ha hb
  have hl' : a ||| b < 4096 := Nat.or_lt_two_pow (n := 12) ha' hb'
  rw [e]
  refine ⟨okB_of_nat hn hl, fun j => ?_⟩
  by_cases hj : j < 12
  · rw [inSetB_nat _ j hl' hj, inSetB_nat _ j ha' hj, inSetB_nat _ j hb' hj, Nat.testBit_or]
  · rw [inSetB_far _ (by omega), inSetB_far _ (by omega), inSetB_far _ (by omega)]; rfl
theorem ok_and {n : Nat} {s t : Int} (hs : okB n s = true) (ht : okB n t = true) : okB n (andI s t) = true ∧ ∀ j : Nat, inSetB (andI s t) j = (inSetB s j && inSetB t j) := by
  obtain ⟨hn, a, rfl, ha, ha'⟩ := okB_nat hs
  obtain ⟨_, b, rfl, hb, hb'⟩ := okB_nat ht
  have e : andI (a : Int) (b : Int) = ((a &&& b : Nat) : Int) := i64_and_nat a b (by omega) (by omega)
  have hl : a &&& b ≤ a := Nat.and_le_left
  rw [e]
  refine ⟨okB_of_nat hn (by omega), fun j => ?_⟩
  by_cases hj : j < 12
  · rw [inSetB_nat _ j (by omega) hj, inSetB_nat _ j ha' hj, inSetB_nat _ j hb' hj, Nat.testBit_and]
  · rw [inSetB_far _ (by omega), inSetB_far _ (by omega), inSetB_far _ (by omega)]; rfl
theorem ok_not {n : Nat} {s t : Int} (hs : okB n s = true) (ht : okB n t = true) : okB n (notI s t) = true ∧ ∀ j : Nat, inSetB (notI s t) j = (inSetB s j && !inSetB t j) := by
  obtain ⟨hn, a, rfl, ha, ha'⟩ := okB_nat hs
  obtain ⟨_, b, rfl, hb, hb'⟩ := okB_nat ht
  have e : notI (a : Int) (b : Int) = ((a &&& (18446744073709551615 - b) : Nat) : Int) := i64_andNot_nat a b (by omega) (by omega)
  have hl : a &&& (18446744073709551615 - b) ≤ a := Nat.and_le_left
  rw [e]
  refine ⟨okB_of_nat hn (by omega), fun j => ?_⟩
  by_cases hj : j < 12
  · have h2 : (18446744073709551615 - b).testBit j = !b.testBit j := by
      have e2 : 18446744073709551615 - b = 2 ^ 64 - (b + 1) := by omega
      rw [e2, Nat.testBit_two_pow_sub_succ (by omega)]
      have : j < 64 := by omega
      simp [this]
    rw [inSetB_nat _ j (by omega) hj, inSetB_nat _ j ha' hj, inSetB_nat _ j hb' hj, Nat.testBit_and, h2]
  · rw [inSetB_far _ (by omega), inSetB_far _ (by omega), inSetB_far _ (by omega)]; rfl
theorem ok_add {n : Nat} {s : Int} (hs : okB n s = true) {i : Nat} (hi : i < n) : okB n (gAdd s i) = true ∧ ∀ j : Nat, inSetB (gAdd s i) j = (inSetB s j || decide (i = j)) := by
  obtain ⟨hn, a, rfl, ha, ha'⟩ := okB_nat hs
  rw [gAdd_nat a i ha' (by omega)]
  have hp : (2 : Nat) ^ i < 2 ^ n := Nat.pow_lt_pow_right (by omega) hi
  have hl : a ||| 2 ^ i < 2 ^ n := Nat.or_lt_two_pow ha hp
  refine ⟨okB_of_nat hn hl, fun j => ?_⟩
  by_cases hj : j < 12
  · rw [inSetB_nat _ j (or_lt a i ha' (by omega)) hj, inSetB_nat _ j ha' hj, Nat.testBit_or, Nat.testBit_two_pow]
  · have : ¬ i = j := by omega
    rw [inSetB_far _ (by omega), inSetB_far _ (by omega)]; simp [this]

/-! Lists that are webs of n. -/
/-- A list of n sets of n. -/
def Web (n : Nat) (zs : List Int) : Prop := n ≤ 12 ∧ zs.length = n ∧ ∀ i, i < n → okB n (zs.getD i 0) = true
theorem web_iff {zs : List Int} : webB zs = true ↔ Web zs.length zs := by
  constructor
  · intro h; exact ⟨webB_len h, rfl, fun i hi => webB_get h hi⟩
  · intro h; exact webB_all h.2.2
theorem Web.b {n : Nat} {zs : List Int} (h : Web n zs) : webB zs = true := by
  obtain ⟨h1, rfl, h2⟩ := h; exact web_iff.2 ⟨h1, rfl, h2⟩
theorem list_ext {n : Nat} {a b : List Int} (ha : a.length = n) (hb : b.length = n) (h : ∀ i, i < n → a.getD i 0 = b.getD i 0) : a = b := by
  apply List.ext_getElem (by omega)
  intro i h1 h2
  have := h i (by omega)
  rw [List.getD_eq_getElem?_getD, List.getD_eq_getElem?_getD, List.getElem?_eq_getElem h1, List.getElem?_eq_getElem h2] at this
  exact this
/-- Does a line go from i to j? -/
def line (zs : List Int) (i j : Nat) : Bool := inSetB (zs.getD i 0) j
theorem Web.ext {n : Nat} {a b : List Int} (ha : Web n a) (hb : Web n b) (h : ∀ i j, i < n → j < n → line a i j = line b i j) : a = b :=
  list_ext ha.2.1 hb.2.1 fun i hi => ok_ext (ha.2.2 i hi) (hb.2.2 i hi) fun j hj => h i j hi hj
theorem Web.lt {n : Nat} {a : List Int} (ha : Web n a) {i j : Nat} (hi : i < n) (h : line a i j = true) : j < n := inSetB_iff (ha.2.2 i hi) h
theorem getD_set (zs : List Int) (i j : Nat) (x : Int) (hi : i < zs.length) : (zs.set i x).getD j 0 = if i = j then x else zs.getD j 0 := by
  rw [List.getD_eq_getElem?_getD, List.getD_eq_getElem?_getD, List.getElem?_set]
  by_cases h : i = j
  · subst h; simp [hi]
  · simp [h]
theorem Web.set {n : Nat} {a : List Int} (ha : Web n a) {i : Nat} {x : Int} (hx : okB n x = true) : Web n (a.set i x) := by
  obtain ⟨h1, h2, h3⟩ := ha
  refine ⟨h1, by simp [h2], fun j hj => ?_⟩
  by_cases hi : i < a.length
  · rw [getD_set a i j x hi]; split
    · exact hx
    · exact h3 j hj
  · rw [List.set_eq_of_length_le (by omega)]; exact h3 j hj
theorem Web.zero {n : Nat} (hn : n ≤ 12) : Web n (List.replicate n 0) := by
  refine ⟨hn, by simp, fun i hi => ?_⟩
  rw [List.getD_eq_getElem?_getD, List.getElem?_replicate, if_pos hi]
  exact ok_zero hn
theorem line_zero (n i j : Nat) : line (List.replicate n 0) i j = false := by
  unfold line
  rw [List.getD_eq_getElem?_getD, List.getElem?_replicate]
  split <;> exact zero_bit j

/-! Then: the sum over the members is the sum over all. -/
theorem thenS_stop {n : Nat} {x : Int} (h : okB n x = true) (b : List Int) {m : Nat} (hm : n ≤ m) : thenS x b m = thenS x b n := by
  induction m with
  | zero => obtain rfl : n = 0 := by omega
            rfl
  | succ m ih =>
    by_cases he : n = m + 1
    · rw [he]
    · have hf : inSetB x m = false := by
        cases hb : inSetB x m with
        | false => rfl
        | true => have := inSetB_iff h hb; omega
      rw [← ih (by omega)]
      conv => lhs; unfold thenS
      simp [hf]
def thenF (b : List Int) (s k : Int) : Int := orI s (b.getD k.toNat 0)
theorem thenS_fold (x : Int) (b : List Int) (k : Nat) : (mem x k).foldl (thenF b) 0 = thenS x b k := by
  induction k with
  | zero => rfl
  | succ k ih =>
    unfold mem thenS
    rw [List.foldl_append, ih]
    cases inSetB x k with
    | false => rfl
    | true => simp [thenF]
theorem ok_then {n : Nat} {x : Int} {b : List Int} (hx : okB n x = true) (hb : Web n b) (m : Nat) : okB n (thenS x b m) = true ∧ ∀ j : Nat, inSetB (thenS x b m) j = true ↔ ∃ k, k < m ∧ inSetB x k = true ∧ line b k j = true := by
  induction m with
  | zero => exact ⟨ok_zero hb.1, fun j => by rw [show thenS x b 0 = 0 from rfl, zero_bit]; simp⟩
  | succ m ih =>
    unfold thenS
    cases hm : inSetB x m with
    | false =>
      refine ⟨by simpa using ih.1, fun j => ?_⟩
      simp only [Bool.false_eq_true, if_false]
      rw [ih.2 j]
      constructor
      · rintro ⟨k, hk, h1, h2⟩; exact ⟨k, by omega, h1, h2⟩
      · rintro ⟨k, hk, h1, h2⟩
        refine ⟨k, ?_, h1, h2⟩
        have : k ≠ m := fun e => by subst e; rw [hm] at h1; cases h1
        omega
    | true =>
      have hmn := inSetB_iff hx hm
      have ho := ok_or ih.1 (hb.2.2 m hmn)
      refine ⟨by simpa using ho.1, fun j => ?_⟩
      simp only [if_true]
      rw [ho.2 j, Bool.or_eq_true, ih.2 j]
      constructor
      · rintro (⟨k, hk, h1, h2⟩ | h)
        · exact ⟨k, by omega, h1, h2⟩
        · exact ⟨m, by omega, hm, h⟩
      · rintro ⟨k, hk, h1, h2⟩
        by_cases e : k = m
        · subst e; exact .inr h2
        · exact .inl ⟨k, by omega, h1, h2⟩

/-! Back. -/
theorem backIn_len (i : Nat) (x : Int) (st : List Int) (k : Nat) : (backIn i x st k).length = st.length := by
  induction k with
  | zero => rfl
  | succ k ih => unfold backIn; split <;> simp [ih]
theorem backIn_stop {n : Nat} {x : Int} (h : okB n x = true) (i : Nat) (st : List Int) {m : Nat} (hm : n ≤ m) : backIn i x st m = backIn i x st n := by
  induction m with
  | zero => obtain rfl : n = 0 := by omega
            rfl
  | succ m ih =>
    by_cases he : n = m + 1
    · rw [he]
    · have hf : inSetB x m = false := by
        cases hb : inSetB x m with
        | false => rfl
        | true => have := inSetB_iff h hb; omega
      rw [← ih (by omega)]
      conv => lhs; unfold backIn
      simp [hf]
def backF (i : Nat) (st : List Int) (k : Int) : List Int := st.set k.toNat (gAdd (st.getD k.toNat 0) i)
theorem backIn_fold (i : Nat) (x : Int) (st : List Int) (k : Nat) : (mem x k).foldl (backF i) st = backIn i x st k := by
  induction k with
  | zero => rfl
  | succ k ih =>
    unfold mem backIn
    rw [List.foldl_append, ih]
    cases inSetB x k with
    | false => rfl
    | true => simp [backF]
theorem web_backIn {n i : Nat} {x : Int} {st : List Int} (hx : okB n x = true) (hi : i < n) (hst : Web n st) (m : Nat) :
    Web n (backIn i x st m) ∧ ∀ k j : Nat, k < n → line (backIn i x st m) k j = (line st k j || (decide (k < m) && inSetB x k && decide (i = j))) := by
  induction m with
  | zero => exact ⟨hst, fun k j _ => by simp [backIn]⟩
  | succ m ih =>
    unfold backIn
    cases hm : inSetB x m with
    | false =>
      refine ⟨by simpa using ih.1, fun k j hk => ?_⟩
      simp only [Bool.false_eq_true, if_false]
      rw [ih.2 k j hk]
      by_cases e : k = m
      · subst e; simp [hm]
      · have : (k < m + 1) ↔ k < m := by omega
        simp [this]
    | true =>
      have hmn := inSetB_iff hx hm
      have ha := ok_add (ih.1.2.2 m hmn) hi
      refine ⟨by simpa using ih.1.set ha.1, fun k j hk => ?_⟩
      simp only [if_true]
      have e1 := ih.2 k j hk
      unfold line at e1 ⊢
      rw [getD_set _ _ _ _ (by rw [ih.1.2.1]; exact hmn)]
      by_cases e : m = k
      · subst e; simp only [if_true]; rw [ha.2 j, e1, hm]; simp
      · have : (k < m + 1) ↔ k < m := by omega
        simp only [e, if_false]; rw [e1]; simp [this]
theorem web_backAll {n : Nat} {zs : List Int} (hz : Web n zs) (m : Nat) (hm : m ≤ n) :
    Web n (backAll zs m) ∧ ∀ k j : Nat, k < n → line (backAll zs m) k j = (decide (j < m) && line zs j k) := by
  induction m with
  | zero =>
    have e : backAll zs 0 = List.replicate n 0 := by unfold backAll; rw [hz.2.1]
    rw [e]
    exact ⟨Web.zero hz.1, fun k j _ => by rw [line_zero]; simp⟩
  | succ m ih =>
    have ih := ih (by omega)
    have h1 := web_backIn (hz.2.2 m (by omega)) (show m < n by omega) ih.1 12
    refine ⟨h1.1, fun k j hk => ?_⟩
    show line (backIn m (zs.getD m 0) (backAll zs m) 12) k j = _
    rw [h1.2 k j hk, ih.2 k j hk]
    have hk12 : k < 12 := by have := hz.1; omega
    by_cases e : m = j
    · subst e; simp [hk12, line]
    · have : (j < m + 1) ↔ j < m := by omega
      simp [e, this]

/-! Ways: what is passed stays a web. -/
theorem wayIn_len (k : Nat) (st : List Int) (i : Nat) : (wayIn k st i).length = st.length := by
  induction i with
  | zero => rfl
  | succ i ih => unfold wayIn; split <;> simp [ih]
theorem web_wayIn {n k : Nat} {st : List Int} (hk : k < n) (hst : Web n st) (m : Nat) (hm : m ≤ n) :
    Web n (wayIn k st m) ∧ ∀ i j : Nat, i < n → line (wayIn k st m) i j = (line st i j || (decide (i < m) && line st i k && line st k j)) := by
  induction m with
  | zero => exact ⟨hst, fun i j _ => by simp [wayIn]⟩
  | succ m ih =>
    have ih := ih (by omega)
    have hmn : m < n := by omega
    have hkk : ∀ j, line (wayIn k st m) k j = line st k j := by
      intro j
      rw [ih.2 k j hk]
      cases line st k j <;> simp
    have hmk : line (wayIn k st m) m k = line st m k := by rw [ih.2 m k hmn]; simp
    have hmj : ∀ j, line (wayIn k st m) m j = line st m j := by intro j; rw [ih.2 m j hmn]; simp
    unfold wayIn
    cases hb : inSetB ((wayIn k st m).getD m 0) k with
    | false =>
      have hb' : line st m k = false := by rw [← hmk]; exact hb
      refine ⟨by simpa using ih.1, fun i j hi => ?_⟩
      simp only [Bool.false_eq_true, if_false]
      rw [ih.2 i j hi]
      by_cases e : i = m
      · subst e; simp [hb']
      · have : (i < m + 1) ↔ i < m := by omega
        simp [this]
    | true =>
      have hb' : line st m k = true := by rw [← hmk]; exact hb
      have ho := ok_or (ih.1.2.2 m hmn) (ih.1.2.2 k hk)
      refine ⟨by simpa using ih.1.set ho.1, fun i j hi => ?_⟩
      simp only [if_true]
      have e1 := ih.2 i j hi
      have e2 := hkk j
      have e3 := hmj j
      unfold line at e1 e2 e3 ⊢
      rw [getD_set _ _ _ _ (by rw [ih.1.2.1]; exact hmn)]
      by_cases e : m = i
      · subst e
        simp only [if_true]
        rw [ho.2 j, e2, e3]
        unfold line at hb'
        rw [hb']
        simp
      · have : (i < m + 1) ↔ i < m := by omega
        simp only [e, if_false]; rw [e1]; simp [this]
theorem web_wayAll {n : Nat} {zs : List Int} (hz : Web n zs) (m : Nat) (hm : m ≤ n) : Web n (wayAll zs m) := by
  induction m with
  | zero => exact hz
  | succ m ih =>
    show Web n (wayIn m (wayAll zs m) zs.length)
    rw [hz.2.1]
    exact (web_wayIn (by omega) (ih (by omega)) n (Nat.le_refl _)).1
theorem line_wayAll {n : Nat} {zs : List Int} (hz : Web n zs) (m : Nat) (hm : m < n) {i : Nat} (hi : i < n) (j : Nat) :
    line (wayAll zs (m + 1)) i j = (line (wayAll zs m) i j || (line (wayAll zs m) i m && line (wayAll zs m) m j)) := by
  show line (wayIn m (wayAll zs m) zs.length) i j = _
  rw [hz.2.1, (web_wayIn hm (web_wayAll hz m (by omega)) n (Nat.le_refl _)).2 i j hi]
  simp [hi]
end Go.Proofs.Ytgolhjmbloiakab

/- Plain mathematics of the web of a source: from each write to its read; it has as many lines as there are reads. -/
namespace Go.Proofs.Ytgolhjmbloiakab
open Go.RowKit

def fwK (n : Nat) (rs f : List Int) : Nat → List Int
  | 0 => List.replicate n 0
  | k + 1 => (fwK n rs f k).set (f.getD k 0).toNat (gAdd ((fwK n rs f k).getD (f.getD k 0).toNat 0) (rs.getD k 0))
def fwL (es : List Ev) (f : List Int) : List Int := fwK es.length (idxB rdE es) f (idxB rdE es).length
theorem fw_line {n : Nat} {rs f : List Int} (hn : n ≤ 12) : ∀ k : Nat, (∀ i, i < k → 0 ≤ rs.getD i 0 ∧ rs.getD i 0 < (n : Int)) → (∀ i, i < k → 0 ≤ f.getD i 0 ∧ f.getD i 0 < (n : Int)) →
    Web n (fwK n rs f k) ∧ ∀ a j : Nat, a < n → (line (fwK n rs f k) a j = true ↔ ∃ i, i < k ∧ f.getD i 0 = (a : Int) ∧ rs.getD i 0 = (j : Int))
  | 0, _, _ => ⟨Web.zero hn, fun a j _ => by rw [fwK, line_zero]; simp⟩
  | k + 1, hr, hf => by
    obtain ⟨h1, h2⟩ := fw_line hn k (fun i hi => hr i (by omega)) (fun i hi => hf i (by omega))
    obtain ⟨a0, ha0⟩ := Int.eq_ofNat_of_zero_le (hf k (by omega)).1
    obtain ⟨j0, hj0⟩ := Int.eq_ofNat_of_zero_le (hr k (by omega)).1
    have ha : a0 < n := by have := (hf k (by omega)).2; omega
    have hj : j0 < n := by have := (hr k (by omega)).2; omega
    rw [fwK, ha0, hj0, Int.toNat_natCast]
    have hg := ok_add (h1.2.2 a0 ha) hj
    refine ⟨h1.set hg.1, fun a j haa => ?_⟩
    unfold line
    rw [getD_set _ _ _ _ (by rw [h1.2.1]; exact ha)]
    by_cases e : a0 = a
    · subst e
      rw [if_pos rfl, hg.2 j, Bool.or_eq_true, decide_eq_true_eq]
      have := h2 a0 j haa
      unfold line at this
      rw [this]
      constructor
      · rintro (⟨i, hi, h⟩ | rfl)
        · exact ⟨i, by omega, h⟩
        · exact ⟨k, by omega, ha0, hj0⟩
      · rintro ⟨i, hi, h3, h4⟩
        by_cases e2 : i = k
        · subst e2; right; rw [hj0] at h4; omega
        · exact .inl ⟨i, by omega, h3, h4⟩
    · rw [if_neg e]
      have := h2 a j haa
      unfold line at this
      rw [this]
      constructor
      · rintro ⟨i, hi, h⟩
        exact ⟨i, by omega, h⟩
      · rintro ⟨i, hi, h3, h4⟩
        by_cases e2 : i = k
        · subst e2; rw [ha0] at h3; omega
        · exact ⟨i, by omega, h3, h4⟩
/-- How many members the first m rows have. -/
def memN (l : List Int) : Nat → Nat
  | 0 => 0
  | m + 1 => memN l m + (mem (l.getD m 0) 12).length
theorem mem_cnt (s : Int) : ∀ k : Nat, (mem s k).length = (List.range k).countP (fun j : Nat => inSetB s (j : Int))
  | 0 => rfl
  | k + 1 => by
    rw [mem, List.length_append, mem_cnt s k, List.range_succ, List.countP_append]
    congr 1
    cases h : inSetB s (k : Int) <;> simp [h]
theorem cnt_one {p : Nat → Bool} {i : Nat} : ∀ k : Nat, p i = false → i < k → (List.range k).countP (fun j => p j || decide (i = j)) = (List.range k).countP p + 1
  | 0, _, h => by omega
  | k + 1, hp, h => by
    rw [List.range_succ, List.countP_append, List.countP_append]
    by_cases e : i = k
    · subst e
      have : (List.range i).countP (fun j => p j || decide (i = j)) = (List.range i).countP p := by
        refine List.countP_congr (fun j hj => ?_)
        rw [List.mem_range] at hj
        have : decide (i = j) = false := by simp; omega
        rw [this, Bool.or_false]
      rw [this]
      simp [hp]
    · rw [cnt_one k hp (by omega)]
      have : decide (i = k) = false := by simp [e]
      simp [this]
      omega
theorem mem_add {n : Nat} {s : Int} (hs : okB n s = true) {i : Nat} (hi : i < n) (hn : inSetB s (i : Int) = false) (h12 : n ≤ 12) : (mem (gAdd s i) 12).length = (mem s 12).length + 1 := by
  have hg := ok_add hs hi
  rw [mem_cnt, mem_cnt, ← cnt_one (p := fun j : Nat => inSetB s (j : Int)) 12 hn (by omega)]
  refine List.countP_congr (fun j _ => ?_)
  rw [hg.2 j]
theorem memN_zero (n : Nat) : ∀ m : Nat, memN (List.replicate n 0) m = 0
  | 0 => rfl
  | m + 1 => by
    rw [memN, memN_zero n m, List.getD_eq_getElem?_getD, List.getElem?_replicate]
    have : (mem 0 12).length = 0 := by decide +kernel
    split <;> simpa using this
theorem memN_set {l : List Int} {a : Nat} {x : Int} (ha : a < l.length) (hx : (mem x 12).length = (mem (l.getD a 0) 12).length + 1) : ∀ m : Nat, memN (l.set a x) m = memN l m + (if a < m then 1 else 0)
  | 0 => by simp [memN]
  | m + 1 => by
    rw [memN, memN, memN_set ha hx m, getD_set l a m x ha]
    by_cases e : a = m
    · subst e; rw [if_pos rfl, hx, if_neg (by omega), if_pos (by omega)]; omega
    · rw [if_neg e]
      by_cases h : a < m
      · rw [if_pos h, if_pos (by omega)]; omega
      · rw [if_neg h, if_neg (by omega)]; omega
theorem fw_count {n : Nat} {rs f : List Int} (hn : n ≤ 12) (hd : rs.Nodup) : ∀ k : Nat, k ≤ rs.length → (∀ i, i < k → 0 ≤ rs.getD i 0 ∧ rs.getD i 0 < (n : Int)) → (∀ i, i < k → 0 ≤ f.getD i 0 ∧ f.getD i 0 < (n : Int)) → memN (fwK n rs f k) n = k
  | 0, _, _, _ => memN_zero n n
  | k + 1, hk, hr, hf => by
    have ih := fw_count hn hd k (by omega) (fun i hi => hr i (by omega)) (fun i hi => hf i (by omega))
    obtain ⟨h1, h2⟩ := fw_line hn k (fun i hi => hr i (by omega)) (fun i hi => hf i (by omega))
    obtain ⟨a0, ha0⟩ := Int.eq_ofNat_of_zero_le (hf k (by omega)).1
    obtain ⟨j0, hj0⟩ := Int.eq_ofNat_of_zero_le (hr k (by omega)).1
    have ha : a0 < n := by have := (hf k (by omega)).2; omega
    have hj : j0 < n := by have := (hr k (by omega)).2; omega
    have hno : inSetB ((fwK n rs f k).getD a0 0) (j0 : Int) = false := by
      cases hb : inSetB ((fwK n rs f k).getD a0 0) (j0 : Int) with
      | false => rfl
      | true =>
        exfalso
        obtain ⟨i, hi, _, h4⟩ := (h2 a0 j0 ha).1 hb
        have hik : i < rs.length := by omega
        have e : rs.getD i 0 = rs.getD k 0 := by rw [h4, hj0]
        rw [List.getD_eq_getElem?_getD, List.getElem?_eq_getElem hik, List.getD_eq_getElem?_getD, List.getElem?_eq_getElem (by omega)] at e
        have := (List.getElem_inj hd).1 e
        omega
    rw [fwK, ha0, hj0, Int.toNat_natCast, memN_set (by rw [h1.2.1]; exact ha) (mem_add (h1.2.2 a0 ha) hj hno hn) n, ih, if_pos ha]
end Go.Proofs.Ytgolhjmbloiakab

/- Plain mathematics: what a source has: as many as there are reads, each an event, at the read's place. -/
namespace Go.Proofs.Ytgolhjmbloiakab

theorem isB_mem {l : List Int} {n : Int} (h : isB l n = true) : n ∈ l := by
  unfold isB at h
  rw [List.any_eq_true] at h
  obtain ⟨x, hx, e⟩ := h
  rw [beq_iff_eq] at e
  rw [← e]; exact hx
theorem idxK_mem (f : Ev → Bool) (l : List Ev) : ∀ (k : Nat) (x : Int), x ∈ idxK f l k → f (l.getD x.toNat zE) = true
  | 0, x, h => by simp [idxK] at h
  | k + 1, x, h => by
    rw [idxK] at h
    split at h
    · rename_i hf
      rcases List.mem_append.1 h with h | h
      · exact idxK_mem f l k x h
      · simp only [List.mem_cons, List.not_mem_nil, or_false] at h
        rw [h, Int.toNat_natCast]; exact hf
    · exact idxK_mem f l k x h
theorem src_use {es : List Ev} {f : List Int} (hx : es.length ≤ 12) (h : srcB (chcL es) f = true) : (idxB rdE es).length = f.length ∧
    ∀ i, i < (idxB rdE es).length → (0 ≤ f.getD i 0 ∧ f.getD i 0 < (es.length : Int)) ∧ (es.getD (f.getD i 0).toNat zE).2.2.2.1 = plE es ((idxB rdE es).getD i 0) := by
  unfold srcB at h
  rw [Bool.and_eq_true, decide_eq_true_eq] at h
  obtain ⟨h1, h2⟩ := h
  have hc : (chcL es).length = (idxB rdE es).length := chcK_len _ _ _
  refine ⟨by omega, fun i hi => ?_⟩
  have h3 := (srcK_iff (chcL es).length).1 h2 i (by omega)
  unfold chcL at h3
  rw [chcK_get _ _ _ _ hi] at h3
  have h4 := isB_mem h3
  unfold idxB at h4
  rw [if_pos hx] at h4
  have h5 := idxK_lt _ _ _ _ h4
  have h6 := idxK_mem _ _ _ _ h4
  refine ⟨h5, ?_⟩
  unfold toE at h6
  simp only [Bool.and_eq_true, beq_iff_eq] at h6
  rw [h6.2]
  unfold idxB
  rw [if_pos hx]
/-- What the specification's FromWeb answers at every argument. -/
def fwB (dss : List (List Dd)) (f : List Int) : List Int := if sourceB dss f = true then fwL (eventsB dss) f else []
end Go.Proofs.Ytgolhjmbloiakab

/- How long the answers on sources are. -/
namespace Go.Proofs.Ytgolhjmbloiakab

theorem chc_len {es : List Ev} (hx : es.length ≤ 12) : (chcL es).length ≤ 12 ∧ ∀ i, i < (chcL es).length → ((chcL es).getD i []).length ≤ 12 := by
  have key : ∀ f : Ev → Bool, (idxB f es).length ≤ 12 := fun f => by
    unfold idxB
    rw [if_pos hx]
    have := idxK_len f es es.length
    omega
  unfold chcL
  rw [chcK_len]
  exact ⟨key _, fun i hi => by rw [chcK_get _ _ _ _ hi]; exact key _⟩
theorem eventsB_le (dss : List (List Dd)) : (eventsB dss).length ≤ 12 := by
  unfold eventsB
  split
  · rename_i hb
    exact (events_law hb).1
  · simp
theorem atB_len (dss : List (List Dd)) (n : Int) : (atB dss n).length ≤ 12 := by
  unfold atB
  split
  · rw [atL_len]
    have h9 : (eventsB dss).length ≤ 12 := by
      unfold eventsB
      split
      · rename_i hb
        exact (events_law hb).1
      · simp
    exact (chc_len h9).1
  · simp
theorem fwK_len (n : Nat) (rs f : List Int) : ∀ k : Nat, (fwK n rs f k).length = n
  | 0 => by simp [fwK]
  | k + 1 => by rw [fwK, List.length_set, fwK_len n rs f k]
theorem fwB_len (dss : List (List Dd)) (f : List Int) : (fwB dss f).length ≤ 12 := by
  unfold fwB
  split
  · unfold fwL
    rw [fwK_len]
    exact eventsB_le dss
  · simp
end Go.Proofs.Ytgolhjmbloiakab

/- Plain mathematics of the program's clerks: the Groups that they have, as sets; that the program's test on them is the specification's. -/
namespace Go.Proofs.Ytgolhjmbloiakab
open Go.RowKit

def grD (d : Dd) : Int := d.2.2.2
/-- The Groups of the first k deeds, as a set. -/
def gK (ds : List Dd) : Nat → Int
  | 0 => 0
  | k + 1 => if grD (ds.getD k zD) = 0 then gK ds k else gAdd (gK ds k) (grD (ds.getD k zD))
def gC (ds : List Dd) : Int := gK ds ds.length
/-- Does the deed k begin a Group that was there before? -/
def partK (ds : List Dd) (k : Nat) : Bool := decide (0 < k) && (grD (ds.getD k zD) != grD (ds.getD (k - 1) zD)) && inSetB (gK ds k) (grD (ds.getD k zD))
def togK (ds : List Dd) : Nat → Bool
  | 0 => true
  | k + 1 => togK ds k && !partK ds k
/-- The Groups of the clerks ahead. -/
def takW (dss : List (List Dd)) : Nat → Int
  | 0 => 0
  | i + 1 => bits .or .i64 (takW dss i) (gC (dss.getD i []))
def rightB (ds : List Dd) (t : Int) : Bool := decide (ds.length ≤ 5) && ds.all okD && togK ds ds.length && (bits .and .i64 (gC ds) t == 0)
def rightsW (dss : List (List Dd)) : Nat → Bool
  | 0 => true
  | i + 1 => rightsW dss i && rightB (dss.getD i []) (takW dss i)
theorem take_getD {α : Type} (l : List α) (i k : Nat) (z : α) (h : k < i) : (l.take i).getD k z = l.getD k z := by
  rw [List.getD_eq_getElem?_getD, List.getElem?_take, if_pos h, List.getD_eq_getElem?_getD]
theorem gK_take (ds : List Dd) (i : Nat) : ∀ k : Nat, k ≤ i → gK (ds.take i) k = gK ds k
  | 0, _ => rfl
  | k + 1, h => by rw [gK, gK, gK_take ds i k (by omega), take_getD ds i k zD (by omega)]
theorem gC_take (ds : List Dd) (i : Nat) (h : i ≤ ds.length) : gC (ds.take i) = gK ds i := by
  rw [gC, List.length_take, Nat.min_eq_left h, gK_take ds i i (Nat.le_refl _)]
theorem togK_false {ds : List Dd} {k : Nat} (h : togK ds k = false) : ∀ n : Nat, k ≤ n → togK ds n = false
  | 0, hn => by
    obtain rfl : k = 0 := by omega
    exact h
  | n + 1, hn => by
    by_cases e : k = n + 1
    · rw [← e]; exact h
    · rw [togK, togK_false h n (by omega)]; rfl
theorem rightsW_false {dss : List (List Dd)} {k : Nat} (h : rightsW dss k = false) : ∀ n : Nat, k ≤ n → rightsW dss n = false
  | 0, hn => by
    obtain rfl : k = 0 := by omega
    exact h
  | n + 1, hn => by
    by_cases e : k = n + 1
    · rw [← e]; exact h
    · rw [rightsW, rightsW_false h n (by omega)]; rfl
/-- No number is in both. -/
def Dis (a b : Nat) : Prop := ∀ k, a.testBit k = true → b.testBit k = false
theorem dis_iff (a b : Nat) : Dis a b ↔ a &&& b = 0 := by
  constructor
  · intro h
    apply Nat.eq_of_testBit_eq
    intro k
    rw [Nat.testBit_and, Nat.zero_testBit]
    cases ha : a.testBit k
    · rfl
    · rw [h k ha]; rfl
  · intro h k ha
    have h1 : (a &&& b).testBit k = false := by rw [h, Nat.zero_testBit]
    rw [Nat.testBit_and, ha] at h1
    simpa using h1
theorem or_bit (a g k : Nat) : (a ||| 2 ^ g).testBit k = (a.testBit k || decide (g = k)) := by
  rw [Nat.testBit_or, Nat.testBit_two_pow]
theorem set_getD (o : List Int) (g : Nat) (x : Int) (j : Nat) (hg : g < o.length) : (o.set g x).getD j 0 = if g = j then x else o.getD j 0 := by
  rw [List.getD_eq_getElem?_getD, List.getElem?_set]
  by_cases e : g = j
  · subst e; rw [if_pos rfl, if_pos hg, if_pos rfl]; rfl
  · rw [if_neg e, if_neg e, List.getD_eq_getElem?_getD]
theorem okD_grp {d : Dd} (h : okD d = true) : 0 ≤ grD d ∧ grD d ≤ 9 := by
  simp [okD, deedB] at h
  unfold grD
  omega
theorem clerk_same {i : Nat} {own : List Int} {T : Nat} {ds : List Dd} (hl : own.length = 10) (hT : ∀ g, g < 10 → (own.getD g 0 ≠ 0 ↔ T.testBit g = true)) (hi : ∀ g, g < 10 → own.getD g 0 ≠ (i : Int) + 1) (hT0 : T.testBit 0 = false) :
    ∀ k : Nat, (∀ j, j < k → okD (ds.getD j zD) = true) → ∃ G : Nat, G < 4096 ∧ gK ds k = (G : Int) ∧ G.testBit 0 = false ∧ (k = 0 → G = 0) ∧
      (grpK i own ds k = none → togK ds k = false ∨ ¬ Dis G T) ∧
      ∀ o, grpK i own ds k = some o → togK ds k = true ∧ Dis G T ∧ o.length = 10 ∧ ∀ g, g < 10 → o.getD g 0 = if G.testBit g = true then (i : Int) + 1 else own.getD g 0
  | 0, _ => ⟨0, by omega, rfl, by simp, fun _ => rfl, by simp [grpK], by
      intro o ho
      simp only [grpK, Option.some.injEq] at ho
      subst ho
      exact ⟨rfl, fun k hk => by simp at hk, hl, by simp⟩⟩
  | k + 1, hok => by
    obtain ⟨G, hG, hgK, hG0, hz, hN, hS⟩ := clerk_same hl hT hi hT0 k (fun j hj => hok j (by omega))
    obtain ⟨h0, h9⟩ := okD_grp (hok k (by omega))
    obtain ⟨g, hg⟩ := Int.eq_ofNat_of_zero_le h0
    have hgg : (ds.getD k zD).2.2.2 = (g : Int) := hg
    by_cases hg0 : g = 0
    · subst hg0
      have hz0 : (ds.getD k zD).2.2.2 = 0 := hgg
      have e1 : gK ds (k + 1) = (G : Int) := by rw [gK, hg, if_pos (by simp), hgK]
      have e2 : partK ds k = false := by
        have : inSetB (gK ds k) (grD (ds.getD k zD)) = false := by rw [hgK, hg, inSetB_nat G 0 hG (by omega), hG0]
        rw [partK, this, Bool.and_false]
      have e3 : togK ds (k + 1) = togK ds k := by rw [togK, e2]; simp
      have e4 : grpK i own ds (k + 1) = grpK i own ds k := by
        rw [grpK]
        cases hq : grpK i own ds k with
        | none => rfl
        | some o => simp only; rw [if_pos hz0]
      refine ⟨G, hG, e1, hG0, by omega, ?_, ?_⟩
      · rw [e3, e4]; exact hN
      · rw [e3, e4]; exact hS
    · have hgne : (ds.getD k zD).2.2.2 ≠ 0 := by rw [hgg]; omega
      have g9 : g ≤ 9 := by rw [hg] at h9; omega
      have e1 : gK ds (k + 1) = ((G ||| 2 ^ g : Nat) : Int) := by
        rw [gK, hg, if_neg (by omega), hgK, gAdd_nat G g hG (by omega)]
      have e0 : (G ||| 2 ^ g).testBit 0 = false := by rw [or_bit, hG0]; simp [hg0]
      have inS : inSetB (gK ds k) (grD (ds.getD k zD)) = G.testBit g := by rw [hgK, hg, inSetB_nat G g hG (by omega)]
      refine ⟨G ||| 2 ^ g, or_lt G g hG (by omega), e1, e0, by omega, ?_, ?_⟩
      · intro hn
        rw [grpK] at hn
        cases hq : grpK i own ds k with
        | none =>
          rcases hN hq with h | h
          · left; rw [togK, h]; rfl
          · right
            intro hd
            refine h (fun b hb => hd b ?_)
            rw [or_bit, hb]; rfl
        | some o =>
          rw [hq] at hn
          simp only at hn
          rw [if_neg hgne, hgg, Int.toNat_natCast] at hn
          obtain ⟨ht, hd, hlen, ho⟩ := hS o hq
          split at hn
          · rename_i hc
            cases hTg : T.testBit g with
            | true =>
              right
              intro hd2
              have := hd2 g (by rw [or_bit]; simp)
              rw [hTg] at this
              cases this
            | false =>
              left
              have hown : own.getD g 0 = 0 := by
                apply Classical.byContradiction
                intro hne
                rw [(hT g (by omega)).1 hne] at hTg
                cases hTg
              cases hGg : G.testBit g with
              | false =>
                exfalso
                have := ho g (by omega)
                rw [hGg, hown] at this
                exact hc.1 (by simpa using this)
              | true =>
                have hk0 : k ≠ 0 := by
                  intro hk
                  rw [hz hk] at hGg
                  simp at hGg
                have hog := ho g (by omega)
                rw [hGg, if_pos rfl] at hog
                have hp : (ds.getD (k - 1) zD).2.2.2 ≠ (g : Int) := by
                  rcases hc.2 with h | h | h
                  · exact absurd hog h
                  · exact absurd h hk0
                  · exact h
                have : partK ds k = true := by
                  rw [partK, inS, hGg, hg]
                  have hp' : ((g : Int) != grD (ds.getD (k - 1) zD)) = true := by
                    rw [bne_iff_ne]; exact fun e => hp e.symm
                  rw [hp']
                  simp; omega
                rw [togK, this]; simp
          · cases hn
      · intro o' hn
        rw [grpK] at hn
        cases hq : grpK i own ds k with
        | none => rw [hq] at hn; cases hn
        | some o =>
          rw [hq] at hn
          simp only at hn
          rw [if_neg hgne, hgg, Int.toNat_natCast] at hn
          obtain ⟨ht, hd, hlen, ho⟩ := hS o hq
          split at hn
          · cases hn
          · rename_i hc
            simp only [Option.some.injEq] at hn
            subst hn
            have hog := ho g (by omega)
            have hTg : T.testBit g = false := by
              cases hTg : T.testBit g with
              | false => rfl
              | true =>
                exfalso
                have hGg : G.testBit g = false := by
                  cases hGg : G.testBit g with
                  | false => rfl
                  | true => rw [hd g hGg] at hTg; cases hTg
                rw [hGg] at hog
                simp only [Bool.false_eq_true, if_false] at hog
                exact hc ⟨by rw [hog]; exact (hT g (by omega)).2 hTg, .inl (by rw [hog]; exact hi g (by omega))⟩
            refine ⟨?_, ?_, by rw [List.length_set]; exact hlen, ?_⟩
            · have : partK ds k = false := by
                cases hp : partK ds k with
                | false => rfl
                | true =>
                  exfalso
                  rw [partK, inS, hg, Bool.and_eq_true, Bool.and_eq_true, decide_eq_true_eq, bne_iff_ne] at hp
                  obtain ⟨⟨hk, hne⟩, hGg⟩ := hp
                  rw [hGg, if_pos rfl] at hog
                  exact hc ⟨by rw [hog]; omega, .inr (.inr (fun e => hne e.symm))⟩
              rw [togK, ht, this]; rfl
            · intro b hb
              rw [or_bit, Bool.or_eq_true, decide_eq_true_eq] at hb
              rcases hb with hb | rfl
              · exact hd b hb
              · exact hTg
            · intro j hj
              rw [set_getD o g _ j (by omega), or_bit]
              by_cases e : g = j
              · subst e; simp
              · rw [if_neg e, ho j hj]; simp [e]
theorem work_same {dss : List (List Dd)} : ∀ n : Nat, (∀ i, i < n → okL (dss.getD i []) = true) → ∃ T : Nat, T < 4096 ∧ takW dss n = (T : Int) ∧ T.testBit 0 = false ∧
      (grpW dss n = none → rightsW dss n = false) ∧
      ∀ o, grpW dss n = some o → rightsW dss n = true ∧ o.length = 10 ∧ (∀ g, g < 10 → (o.getD g 0 ≠ 0 ↔ T.testBit g = true)) ∧ ∀ g, g < 10 → 0 ≤ o.getD g 0 ∧ o.getD g 0 ≤ (n : Int)
  | 0, _ => ⟨0, by omega, rfl, by simp, by simp [grpW], by
      intro o ho
      simp only [grpW, Option.some.injEq] at ho
      subst ho
      refine ⟨rfl, by simp, fun g hg => ?_, fun g hg => ?_⟩
      · rw [List.getD_eq_getElem?_getD, List.getElem?_replicate, if_pos hg]; simp
      · rw [List.getD_eq_getElem?_getD, List.getElem?_replicate, if_pos hg]; simp⟩
  | n + 1, hok => by
    obtain ⟨T, hT, htk, hT0, hN, hS⟩ := work_same n (fun i hi => hok i (by omega))
    have okn := hok n (by omega)
    simp only [okL, Bool.and_eq_true, decide_eq_true_eq] at okn
    have hall := okn.1
    have hok2 : ∀ j, j < (dss.getD n []).length → okD ((dss.getD n []).getD j zD) = true := fun j hj => all_get zD hall j hj
    obtain ⟨G0, hG0, hgK0, hG00, -⟩ := clerk_same (i := 0) (own := List.replicate 10 0) (T := 0) (ds := dss.getD n []) (by simp) (fun g hg => by rw [List.getD_eq_getElem?_getD, List.getElem?_replicate, if_pos hg]; simp) (fun g hg => by rw [List.getD_eq_getElem?_getD, List.getElem?_replicate, if_pos hg]; simp) (by simp) (dss.getD n []).length hok2
    have hor : takW dss (n + 1) = ((T ||| G0 : Nat) : Int) := by
      rw [takW, htk, gC, hgK0, i64_or_nat T G0 (by omega) (by omega)]
    have hand : bits .and .i64 (gC (dss.getD n [])) (takW dss n) = ((G0 &&& T : Nat) : Int) := by
      rw [gC, hgK0, htk, i64_and_nat G0 T (by omega) (by omega)]
    have hR : rightB (dss.getD n []) (takW dss n) = (togK (dss.getD n []) (dss.getD n []).length && decide (G0 &&& T = 0)) := by
      rw [rightB, hall, decide_eq_true okn.2, hand]
      simp only [Bool.true_and]
      congr 1
      rw [Bool.eq_iff_iff, beq_iff_eq, decide_eq_true_eq]
      omega
    refine ⟨T ||| G0, Nat.or_lt_two_pow (n := 12) hT hG0, hor, by rw [Nat.testBit_or, hT0, hG00]; rfl, ?_, ?_⟩
    · intro hn
      rw [grpW] at hn
      cases hq : grpW dss n with
      | none => rw [rightsW, hN hq]; rfl
      | some o =>
        rw [hq] at hn
        simp only at hn
        obtain ⟨hr, hl, hb, hle⟩ := hS o hq
        obtain ⟨G, hG, hgK, -, -, hN2, -⟩ := clerk_same (i := n) (own := o) (T := T) (ds := dss.getD n []) hl hb (fun g hg => by have := hle g hg; omega) hT0 (dss.getD n []).length hok2
        obtain rfl : G = G0 := by rw [hgK0] at hgK; omega
        rw [rightsW, hr, hR]
        rcases hN2 hn with h | h
        · rw [h]; rfl
        · rw [decide_eq_false (fun e => h ((dis_iff _ _).2 e))]; simp
    · intro o' hn
      rw [grpW] at hn
      cases hq : grpW dss n with
      | none => rw [hq] at hn; cases hn
      | some o =>
        rw [hq] at hn
        simp only at hn
        obtain ⟨hr, hl, hb, hle⟩ := hS o hq
        obtain ⟨G, hG, hgK, -, -, -, hS2⟩ := clerk_same (i := n) (own := o) (T := T) (ds := dss.getD n []) hl hb (fun g hg => by have := hle g hg; omega) hT0 (dss.getD n []).length hok2
        obtain rfl : G = G0 := by rw [hgK0] at hgK; omega
        obtain ⟨h1, h2, h3, h4⟩ := hS2 o' hn
        refine ⟨by rw [rightsW, hr, hR, h1, decide_eq_true ((dis_iff _ _).1 h2)]; rfl, h3, fun g hg => ?_, fun g hg => ?_⟩
        · rw [h4 g hg, Nat.testBit_or, Bool.or_eq_true]
          cases hGg : G.testBit g
          · simp only [Bool.false_eq_true, if_false, or_false]; exact hb g hg
          · simp only [if_true, or_true, iff_true]; omega
        · rw [h4 g hg]
          have := hle g hg
          split <;> omega
/-- The program's test is the specification's. -/
theorem rights_same {dss : List (List Dd)} (h : dss.all okL = true) : rightsW dss dss.length = grpB dss := by
  obtain ⟨T, -, -, -, hN, hS⟩ := work_same (dss := dss) dss.length (fun i hi => all_get [] h i hi)
  rw [grpB]
  cases hq : grpW dss dss.length with
  | none => rw [hN hq]; rfl
  | some o => rw [(hS o hq).1]; rfl
theorem rights_okL {dss : List (List Dd)} (h : rightsW dss dss.length = true) : dss.all okL = true := by
  refine all_of [] (fun i hi => ?_)
  cases hb : rightsW dss (i + 1) with
  | false => rw [rightsW_false hb _ hi] at h; cases h
  | true =>
    rw [rightsW, Bool.and_eq_true] at hb
    have := hb.2
    simp only [rightB, Bool.and_eq_true] at this
    rw [okL, this.1.1.2, Bool.true_and]
    exact this.1.1.1
theorem work_rights (dss : List (List Dd)) : workB dss = (decide (1 ≤ dss.length ∧ dss.length ≤ 3) && rightsW dss dss.length && decide (lenW dss ≤ 12) && decide (evW dss dss.length ≤ 6)) := by
  rw [workB]
  cases h : dss.all okL with
  | true =>
    rw [rights_same h]
    cases grpB dss <;> simp
  | false =>
    cases hr : rightsW dss dss.length with
    | false => simp
    | true => rw [rights_okL hr] at h; cases h
end Go.Proofs.Ytgolhjmbloiakab

/- Contracts of the program's DeedOk and of what it calls: it answers whether four numbers are a deed, and turns nothing. -/
namespace Go.Proofs.Ytgolhjmbloiakab
open Go.ChangeShapes Go.WideShapes Go.ChangeAt Go.RowKit

theorem isFrom_any (lo x hi : Int) (w : World) :
    Calls Try.prog 19 #[.int .i64 lo, .int .i64 x, .int .i64 hi] w fun e w' => e = .returned (.bool (inB x lo hi)) ∧ w' = w := by
  go_enter Try.func19, Try.ntmps19
  go_wp2
  all_goals
    go_ret
    exact ⟨ret_bool (by rw [Bool.eq_iff_iff]; unfold inB; simp; omega), rfl⟩
/-- The greatest of each number, by the kind; the least value. -/
def mostP (k : Int) : Int := if k = 1 ∨ k = 2 ∨ k = 3 then 2 else 0
def mostV (k : Int) : Int := if k = 2 ∨ k = 3 then 9 else 0
def leastV (k : Int) : Int := if k = 2 ∨ k = 3 then 1 else 0
def mostG (k : Int) : Int := if k = 1 ∨ k = 2 then 9 else 0
theorem limits_any (k : Int) (w : World) :
    Calls Try.prog 86 #[.int .i64 k] w fun e w' => e = .returned (.tuple #[deedV 1 0 (leastV k) 0, deedV 4 (mostP k) (mostV k) (mostG k)]) ∧ Keep w w' := by
  have hk : k = 1 ∨ k = 2 ∨ k = 3 ∨ (¬ k = 1 ∧ ¬ k = 2 ∧ ¬ k = 3) := by omega
  rcases hk with rfl | rfl | rfl | ⟨h1, h2, h3⟩
  all_goals
    go_enter Try.func86, Try.ntmps86
    go_wp2
    go_region
    go_wp2
    refine bodyPost_ret (results_row2 (by rfl) _ _ _ _ _ _ _ _ _ _ _ rfl (by simp only [heap_at, heap_drew, heap_size]; repeat (first | exact if_pos rfl | exact if_pos trivial | rw [if_neg (by omega)])) rfl (by simp only [heap_at, heap_drew, heap_size]; repeat (first | exact if_pos rfl | exact if_pos trivial | rw [if_neg (by omega)])) Try.underlying56 rfl (by kernel_rfl) (by kernel_rfl)) rfl ?_
    refine ⟨?_, (((((Keep.refl w).alloc _).alloc _).alloc _).alloc _).drew⟩
    first | rfl | simp [deedV, leastV, mostP, mostV, mostG, h1, h2, h3]
theorem deedB_from (k p v g : Int) : deedB k p v g = (inB k 1 4 && inB p 0 (mostP k) && inB v (leastV k) (mostV k) && inB g 0 (mostG k)) := by
  have hk : k = 1 ∨ k = 2 ∨ k = 3 ∨ k = 4 ∨ ¬ (1 ≤ k ∧ k ≤ 4) := by omega
  rw [Bool.eq_iff_iff]
  rcases hk with rfl | rfl | rfl | rfl | h
  all_goals
    simp [deedB, inB, mostP, mostV, leastV, mostG]
    omega
theorem implDeedOk_any (k p v g : Int) (w : World) :
    Calls Try.prog 80 #[deedV k p v g] w fun e w' => e = .returned (.bool (deedB k p v g)) ∧ Keep w w' := by
  rw [deedB_from]
  unfold deedV
  go_enter Try.func80, Try.ntmps80
  go_wp2_with fail
  refine (limits_any _ _).mono ?_
  rintro e w1 ⟨rfl, k1⟩
  have hs := box_size k1
  have c0 : w1.cell? ⟨w.heap.size, 0, none⟩ = some (.int .i64 k) := box_cell k1 0
  have c1 : w1.cell? ⟨w.heap.size, 1, none⟩ = some (.int .i64 p) := box_cell k1 1
  have c2 : w1.cell? ⟨w.heap.size, 2, none⟩ = some (.int .i64 v) := box_cell k1 2
  have c3 : w1.cell? ⟨w.heap.size, 3, none⟩ = some (.int .i64 g) := box_cell k1 3
  have K1 : Keep w w1 := ((Keep.refl w).alloc _).trans k1
  clear k1
  go_wp2_with (go_at_call 19; refine (isFrom_any _ _ _ _).mono ?_; rintro e w' ⟨rfl, rfl⟩)
  all_goals
    go_ret
    exact ⟨ret_bool (by simp [*]), (K1.alloc _).alloc _⟩
end Go.Proofs.Ytgolhjmbloiakab

/- Contracts of the small methods on the program's sets: each answers as a plain function says and turns nothing. -/
namespace Go.Proofs.Ytgolhjmbloiakab
open Go.ChangeShapes Go.WideShapes Go.ChangeAt Go.RowKit

theorem inSize_any (x : Int) (w : World) :
    Calls Try.prog 85 #[.int .i64 x] w fun e w' => e = .returned (.bool (inB x 0 11)) ∧ w' = w := by
  go_enter Try.func85, Try.ntmps85
  go_wp2
  all_goals
    go_ret
    exact ⟨ret_bool (by rw [Bool.eq_iff_iff]; unfold inB; simp; omega), rfl⟩
theorem isOf_any (n s : Int) (w : World) :
    Calls Try.prog 87 #[.int .i64 s, .int .i64 n] w fun e w' => e = .returned (.bool (okB n s)) ∧ w' = w := by
  go_enter Try.func87, Try.ntmps87
  go_wp2
  · go_ret
    exact ⟨ret_bool (by rw [wrap64_pow n (by assumption) (by assumption), Bool.eq_iff_iff]; unfold okB; simp; omega), rfl⟩
  all_goals
    go_ret
    exact ⟨ret_bool (by rw [Bool.eq_iff_iff]; unfold okB; simp; omega), rfl⟩
theorem has_any (s i : Int) (w : World) :
    Calls Try.prog 81 #[.int .i64 s, .int .i64 i] w fun e w' => e = .returned (.bool (inSetB s i)) ∧ w' = w := by
  have key : okB 12 s = inB s 0 4095 := by rw [Bool.eq_iff_iff]; unfold okB inB; simp; omega
  cases hs : inB s 0 4095
  · have hk : okB 12 s = false := key.trans hs
    clear key
    go_enter Try.func81, Try.ntmps81
    go_wp2_with (go_at_call 87; refine (isOf_any _ _ _).mono ?_; rintro e w' ⟨rfl, rfl⟩)
    go_ret
    exact ⟨ret_bool (by simp [inSetB, hs]), rfl⟩
  · have hk : okB 12 s = true := key.trans hs
    clear key
    cases hi : inB i 0 11
    · go_enter Try.func81, Try.ntmps81
      go_wp2_with (first | (go_at_call 87; refine (isOf_any _ _ _).mono ?_; rintro e w' ⟨rfl, rfl⟩) | (go_at_call 85; refine (inSize_any _ _).mono ?_; rintro e w' ⟨rfl, rfl⟩))
      go_ret
      exact ⟨ret_bool (by simp [inSetB, hi]), rfl⟩
    · have hi' := hi
      simp only [inB, decide_eq_true_eq] at hi'
      obtain ⟨i1, i2⟩ := hi'
      go_enter Try.func81, Try.ntmps81
      go_wp2_with (first | (go_at_call 87; refine (isOf_any _ _ _).mono ?_; rintro e w' ⟨rfl, rfl⟩) | (go_at_call 85; refine (inSize_any _ _).mono ?_; rintro e w' ⟨rfl, rfl⟩))
      go_ret
      exact ⟨ret_bool (by simp [inSetB, hs, hi, bitB]), rfl⟩
end Go.Proofs.Ytgolhjmbloiakab

/- Contract of the program's set with one more member. -/
namespace Go.Proofs.Ytgolhjmbloiakab
open Go.ChangeShapes Go.WideShapes Go.ChangeAt Go.RowKit

theorem with_any (s i : Int) (w : World) :
    Calls Try.prog 79 #[.int .i64 s, .int .i64 i] w fun e w' => e = .returned (.int .i64 (gAdd s i)) ∧ w' = w := by
  by_cases hs : s = -1
  · subst hs
    go_enter Try.func79, Try.ntmps79
    go_wp2
    go_ret
    exact ⟨ret_int (gAdd_none i).symm, rfl⟩
  · have hsb : (s == -1) = false := by simp [hs]
    have HS : Hid (¬ s = -1) := hs
    clear hs
    cases hi : inB i 0 11
    · go_enter Try.func79, Try.ntmps79
      go_wp2_with (go_at_call 85; refine (inSize_any _ _).mono ?_; rintro e w' ⟨rfl, rfl⟩)
      go_ret
      exact ⟨ret_int (gAdd_bad s i hi).symm, rfl⟩
    · have hi' := hi
      simp only [inB, decide_eq_true_eq] at hi'
      obtain ⟨i1, i2⟩ := hi'
      go_enter Try.func79, Try.ntmps79
      go_wp2_with (go_at_call 85; refine (inSize_any _ _).mono ?_; rintro e w' ⟨rfl, rfl⟩)
      go_ret
      exact ⟨ret_int (by simp [gAdd, HS.out, hi]), rfl⟩
end Go.Proofs.Ytgolhjmbloiakab

/- Contracts of the program's deeds: how many they are, their events, their Groups, whether each is right. -/
namespace Go.Proofs.Ytgolhjmbloiakab
open Go.ChangeShapes Go.WideShapes Go.ChangeAt Go.RowKit

theorem setAnd_bits (s t : Int) (w : World) :
    Calls Try.prog 74 #[.int .i64 s, .int .i64 t] w fun e w' => e = .returned (.int .i64 (bits .and .i64 s t)) ∧ w' = w := by
  go_enter Try.func74, Try.ntmps74
  go_wp2
  go_ret
  exact ⟨rfl, rfl⟩
theorem setOr_bits (s t : Int) (w : World) :
    Calls Try.prog 70 #[.int .i64 s, .int .i64 t] w fun e w' => e = .returned (.int .i64 (bits .or .i64 s t)) ∧ w' = w := by
  go_enter Try.func70, Try.ntmps70
  go_wp2
  go_ret
  exact ⟨rfl, rfl⟩
theorem count_any (a : Option Addr) (n c : Nat) (w : World) :
    Calls Try.prog 57 #[.slice a n c] w fun e w' => e = .returned (.int .i64 (n : Int)) ∧ w' = w := by
  go_enter Try.func57, Try.ntmps57
  go_wp2
  go_ret
  exact ⟨rfl, rfl⟩
theorem evD_cases (d : Dd) : (d.1 = 3 ∧ evD d = 2) ∨ (d.1 = 1 ∧ evD d = 1) ∨ (d.1 = 2 ∧ evD d = 1) ∨ (¬ d.1 = 3 ∧ ¬ d.1 = 1 ∧ ¬ d.1 = 2 ∧ evD d = 0) := by
  unfold evD
  repeat' split
  all_goals omega
set_option maxRecDepth 100000 in
set_option maxHeartbeats 2000000 in
theorem events_any (w : World) (v : Value) (ds : List Dd) (h : RdD w v ds) (hx : ds.length ≤ 1048576) :
    Calls Try.prog 58 #[v] w fun e w' => e = .returned (.int .i64 (evK ds ds.length)) ∧ Keep w w' := by
  obtain ⟨a, c, rfl, h⟩ := h
  go_enter Try.func58, Try.ntmps58
  go_wp2
  go_loopw [3, 8] (fun n i wr => ∃ k : Nat, ∃ m : Int, k ≤ ds.length ∧ n = .int .i64 m ∧ i = .int .i64 k ∧ Hid (m = evK ds k) ∧ 0 ≤ m ∧ m ≤ 2 * k ∧ Keep w wr) (fun _ i _ => ds.length - (intOf i).toNat)
  case atStart => exact ⟨0, 0, Nat.zero_le _, rfl, rfl, Lib.hid rfl, by omega, by omega, Keep.refl _⟩
  case round =>
    obtain ⟨k, m, hk, rfl, rfl, hm, m0, m1, hK⟩ := hrel
    by_cases hlt : k < ds.length
    · rcases h with h | ⟨b, o, rfl, hb, hc⟩
      · exfalso; rw [h] at hlt; simp at hlt
      obtain ⟨A0, A1, A2, A3⟩ := (hc k hlt).keep hb hK
      clear hc
      have HE : Hid (m + evD (ds.getD k zD) = evK ds (k + 1)) := Lib.hid (by rw [evK, hm.out])
      have CS := evD_cases (ds.getD k zD)
      clear hm
      obtain ⟨d, hd⟩ : ∃ d, d = ds.getD k zD := ⟨_, rfl⟩
      rw [← hd] at A0 A1 A2 A3 HE CS
      clear hd
      obtain ⟨x0, x1, x2, x3⟩ := d
      simp only at A0 A1 A2 A3 CS
      have hbw : b < wr.heap.size := Nat.lt_of_lt_of_le hb hK.size
      have i1 : (0 : Int) ≤ (k : Int) := Int.natCast_nonneg _
      have i2 : (k : Int) < (ds.length : Int) := by omega
      rcases CS with ⟨rfl, e⟩ | ⟨rfl, e⟩ | ⟨rfl, e⟩ | ⟨n3, n1, n2, e⟩
      · rw [e] at HE
        clear e
        go_wp2
        go_roundw
        case rel => exact ⟨k + 1, m + 2, by omega, by go_num, by go_num, HE, by omega, by omega, hK.alloc _⟩
        case measure => simp [intOf]; omega
      · rw [e] at HE
        clear e
        go_wp2
        go_roundw
        case rel => exact ⟨k + 1, m + 1, by omega, by go_num, by go_num, HE, by omega, by omega, hK.alloc _⟩
        case measure => simp [intOf]; omega
      · rw [e] at HE
        clear e
        go_wp2
        go_roundw
        case rel => exact ⟨k + 1, m + 1, by omega, by go_num, by go_num, HE, by omega, by omega, hK.alloc _⟩
        case measure => simp [intOf]; omega
      · rw [e, Int.add_zero] at HE
        clear e
        have e3 : (x0 == 3) = false := by simp [n3]
        have e1 : (x0 == 1) = false := by simp [n1]
        have e2 : (x0 == 2) = false := by simp [n2]
        clear n3 n1 n2
        go_wp2
        go_roundw
        case rel => exact ⟨k + 1, m, by omega, by go_num, by go_num, HE, by omega, by omega, hK.alloc _⟩
        case measure => simp [intOf]; omega
    · obtain rfl : k = ds.length := by omega
      go_wp2
      go_ret
      exact ⟨by rw [hm.out]; rfl, hK⟩
set_option maxRecDepth 100000 in
set_option maxHeartbeats 2000000 in
theorem groups_any (w : World) (v : Value) (ds : List Dd) (h : RdD w v ds) (hx : ds.length ≤ 1048576) :
    Calls Try.prog 71 #[v] w fun e w' => e = .returned (.int .i64 (gC ds)) ∧ Keep w w' := by
  obtain ⟨a, c, rfl, h⟩ := h
  go_enter Try.func71, Try.ntmps71
  go_wp2
  go_loopw [3, 8] (fun n i wr => ∃ k : Nat, ∃ m : Int, k ≤ ds.length ∧ n = .int .i64 m ∧ i = .int .i64 k ∧ Hid (m = gK ds k) ∧ Keep w wr) (fun _ i _ => ds.length - (intOf i).toNat)
  case atStart => exact ⟨0, 0, Nat.zero_le _, rfl, rfl, Lib.hid rfl, Keep.refl _⟩
  case round =>
    obtain ⟨k, m, hk, rfl, rfl, hm, hK⟩ := hrel
    by_cases hlt : k < ds.length
    · rcases h with h | ⟨b, o, rfl, hb, hc⟩
      · exfalso; rw [h] at hlt; simp at hlt
      obtain ⟨A0, A1, A2, A3⟩ := (hc k hlt).keep hb hK
      clear hc
      have HE : Hid (gK ds (k + 1) = if grD (ds.getD k zD) = 0 then m else gAdd m (grD (ds.getD k zD))) := Lib.hid (by rw [gK, hm.out])
      clear hm
      obtain ⟨d, hd⟩ : ∃ d, d = ds.getD k zD := ⟨_, rfl⟩
      rw [← hd] at A0 A1 A2 A3 HE
      clear hd
      obtain ⟨x0, x1, x2, x3⟩ := d
      unfold grD at HE
      simp only at A0 A1 A2 A3 HE
      have hbw : b < wr.heap.size := Nat.lt_of_lt_of_le hb hK.size
      have i1 : (0 : Int) ≤ (k : Int) := Int.natCast_nonneg _
      have i2 : (k : Int) < (ds.length : Int) := by omega
      by_cases h0 : x3 = 0
      · subst h0
        go_wp2
        go_roundw
        case rel => exact ⟨k + 1, m, by omega, by go_num, by go_num, Lib.hid (by rw [HE.out, if_pos rfl]), hK.alloc _⟩
        case measure => simp [intOf]; omega
      · have e0 : (x3 != 0) = true := by simp [h0]
        have HF : Hid (gK ds (k + 1) = gAdd m x3) := Lib.hid (by rw [HE.out, if_neg h0])
        clear h0 HE
        go_wp2_with fail
        refine (with_any _ _ _).mono ?_
        rintro e wz ⟨rfl, rfl⟩
        go_wp2
        go_roundw
        case rel => exact ⟨k + 1, _, by omega, rfl, by go_num, Lib.hid HF.out.symm, hK.alloc _⟩
        case measure => simp [intOf]; omega
    · obtain rfl : k = ds.length := by omega
      go_wp2
      go_ret
      exact ⟨by rw [hm.out]; rfl, hK⟩
theorem all_moreC {α : Type} {f : α → Bool} {l : List α} {k : Nat} (z : α) (h : k < l.length) (h1 : (l.take k).all f = true) (h2 : f (l.getD k z) = true) : (l.take (k + 1)).all f = true := by
  rw [List.take_add_one, List.getElem?_eq_getElem h, List.all_append, h1]
  rw [List.getD_eq_getElem?_getD, List.getElem?_eq_getElem h] at h2
  simpa using h2
set_option maxRecDepth 100000 in
set_option maxHeartbeats 2000000 in
theorem areRight_any (w : World) (v : Value) (ds : List Dd) (h : RdD w v ds) (hx : ds.length ≤ 1048576) :
    Calls Try.prog 72 #[v] w fun e w' => e = .returned (.bool (ds.all okD)) ∧ Keep w w' := by
  obtain ⟨a, c, rfl, h⟩ := h
  go_enter Try.func72, Try.ntmps72
  go_wp2
  go_loopw [7] (fun i wr => ∃ k : Nat, k ≤ ds.length ∧ i = .int .i64 k ∧ Hid ((ds.take k).all okD = true) ∧ Keep w wr) (fun i _ => ds.length - (intOf i).toNat)
  case atStart => exact ⟨0, Nat.zero_le _, rfl, Lib.hid (by simp), Keep.refl _⟩
  case round =>
    obtain ⟨k, hk, rfl, hm, hK⟩ := hrel
    by_cases hlt : k < ds.length
    · rcases h with h | ⟨b, o, rfl, hb, hc⟩
      · exfalso; rw [h] at hlt; simp at hlt
      obtain ⟨A0, A1, A2, A3⟩ := (hc k hlt).keep hb hK
      clear hc
      have HT : okD (ds.getD k zD) = true → Hid ((ds.take (k + 1)).all okD = true) := fun e => Lib.hid (all_moreC zD hlt hm.out e)
      have HF : okD (ds.getD k zD) = false → Hid (ds.all okD = false) := fun e => Lib.hid (all_not zD k hlt e)
      clear hm
      obtain ⟨d, hd⟩ : ∃ d, d = ds.getD k zD := ⟨_, rfl⟩
      rw [← hd] at A0 A1 A2 A3 HT HF
      clear hd
      obtain ⟨x0, x1, x2, x3⟩ := d
      simp only at A0 A1 A2 A3
      have hbw : b < wr.heap.size := Nat.lt_of_lt_of_le hb hK.size
      have i1 : (0 : Int) ≤ (k : Int) := Int.natCast_nonneg _
      have i2 : (k : Int) < (ds.length : Int) := by omega
      cases hd : deedB x0 x1 x2 x3
      · have HE := HF hd
        clear HT HF
        go_wp2_with fail
        refine (implDeedOk_any _ _ _ _ _).mono ?_
        rintro e wz ⟨rfl, kk⟩
        go_wp2
        go_ret
        exact ⟨by rw [HE.out]; rfl, (hK.alloc _).trans kk⟩
      · have HE := HT hd
        clear HT HF
        go_wp2_with fail
        refine (implDeedOk_any _ _ _ _ _).mono ?_
        rintro e wz ⟨rfl, kk⟩
        go_wp2
        go_roundw
        case rel => exact ⟨k + 1, by omega, by go_num, HE, (hK.alloc _).trans kk⟩
        case measure => simp [intOf]; omega
    · obtain rfl : k = ds.length := by omega
      rw [List.take_length] at hm
      go_wp2
      go_ret
      exact ⟨by rw [hm.out]; rfl, hK⟩
end Go.Proofs.Ytgolhjmbloiakab

/- Contract of the program's areTogether: no Group begins a second time. -/
namespace Go.Proofs.Ytgolhjmbloiakab
open Go.ChangeShapes Go.WideShapes Go.ChangeAt Go.RowKit

abbrev boxD (x0 x1 x2 x3 : Int) : Obj := .cells #[.int .i64 x0, .int .i64 x1, .int .i64 x2, .int .i64 x3] 56
theorem RdD.cut {w : World} {b o : Nat} {ds : List Dd} {c k : Nat} (hk : k ≤ ds.length) (hb : b < w.heap.size) (hc : ∀ i, i < ds.length → AtD w b (o + i * 4) (ds.getD i zD)) :
    RdD w (.slice (some ⟨b, o, none⟩) k (ds.length + c)) (ds.take k) := by
  refine ⟨some ⟨b, o, none⟩, ds.length + c - k, ?_, .inr ⟨b, o, rfl, hb, fun i hi => ?_⟩⟩
  · rw [List.length_take, Nat.min_eq_left hk]
    congr 1
    omega
  · rw [List.length_take] at hi
    rw [take_getD ds k i zD (by omega)]
    exact hc i (by omega)
theorem tog_on {ds : List Dd} {k : Nat} (h : togK ds k = true) (hp : partK ds k = false) : togK ds (k + 1) = true := by rw [togK, h, hp]; rfl
theorem tog_off {ds : List Dd} {k : Nat} (hk : k < ds.length) (hp : partK ds k = true) : togK ds ds.length = false := by
  refine togK_false (k := k + 1) ?_ _ hk
  rw [togK, hp]; simp
set_option maxRecDepth 100000 in
set_option maxHeartbeats 4000000 in
theorem areTogether_any (w : World) (v : Value) (ds : List Dd) (h : RdD w v ds) (hx : ds.length ≤ 1048576) :
    Calls Try.prog 73 #[v] w fun e w' => e = .returned (.bool (togK ds ds.length)) ∧ Keep w w' := by
  obtain ⟨a, c, rfl, h⟩ := h
  go_enter Try.func73, Try.ntmps73
  go_wp2
  go_loopw [3, 7] (fun j i wr => ∃ k : Nat, k ≤ ds.length ∧ i = .int .i64 k ∧ Hid (togK ds k = true) ∧ Keep w wr) (fun _ i _ => ds.length - (intOf i).toNat)
  case atStart => exact ⟨0, Nat.zero_le _, rfl, Lib.hid rfl, Keep.refl _⟩
  case round =>
    obtain ⟨k, hk, rfl, hm, hK⟩ := hrel
    by_cases hlt : k < ds.length
    · rcases h with h | ⟨b, o, rfl, hb, hc⟩
      · exfalso; rw [h] at hlt; simp at hlt
      obtain ⟨A0, A1, A2, A3⟩ := (hc k hlt).keep hb hK
      have hbw : b < wr.heap.size := Nat.lt_of_lt_of_le hb hK.size
      have i1 : (0 : Int) ≤ (k : Int) := Int.natCast_nonneg _
      have i2 : (k : Int) < (ds.length : Int) := by omega
      have HP : Hid (partK ds k = (decide (0 < k) && (grD (ds.getD k zD) != grD (ds.getD (k - 1) zD)) && inSetB (gK ds k) (grD (ds.getD k zD)))) := Lib.hid rfl
      by_cases h0 : k = 0
      · have HT := Lib.hid (tog_on hm.out (by rw [HP.out]; simp [h0]))
        have d0 : decide (0 < k) = false := by simp [h0]
        clear hm HP hc
        obtain ⟨d, hd⟩ : ∃ d, d = ds.getD k zD := ⟨_, rfl⟩
        rw [← hd] at A0 A1 A2 A3
        clear hd h0
        obtain ⟨x0, x1, x2, x3⟩ := d
        simp only at A0 A1 A2 A3
        go_wp2
        go_quiet (fail)
        go_wp2
        go_roundw
        case rel => exact ⟨k + 1, by omega, by go_num, HT, (hK.alloc _).drewN _⟩
        case measure => simp [intOf]; omega
      · obtain ⟨r, rfl⟩ : ∃ r : Nat, k = r + 1 := ⟨k - 1, by omega⟩
        rw [Nat.add_sub_cancel] at HP
        have B3 := ((hc r (by omega)).keep hb hK).2.2.2
        have RT : RdD w (.slice (some ⟨b, o, none⟩) (r + 1) (ds.length + c)) (ds.take (r + 1)) := RdD.cut (by omega) hb hc
        have HG := Lib.hid (gC_take ds (r + 1) (by omega))
        have HL := Lib.hid (show (ds.take (r + 1)).length = r + 1 by rw [List.length_take]; omega)
        clear hc
        have j1 : (0 : Int) ≤ (r : Int) := Int.natCast_nonneg _
        have j2 : (r : Int) < (ds.length : Int) := by omega
        have d2 : (r : Int) + 1 < (ds.length : Int) := by omega
        have d5 : (r : Int) + 1 ≤ (ds.length : Int) + (c : Int) := by omega
        have d6 : (0 : Int) ≤ (r : Int) + 1 := by omega
        have d7 : ((r + 1 : Nat) : Int) ≤ ((ds.length + c : Nat) : Int) := by omega
        have d3 : IntKind.i64.wrap (r : Int) = (r : Int) := by rw [IntKind.wrap_i64]; omega
        have d4 : wrap64 (r : Int) = (r : Int) := wrap64_small _ (by omega) (by omega)
        obtain ⟨d, hd⟩ : ∃ d, d = ds.getD (r + 1) zD := ⟨_, rfl⟩
        rw [← hd] at A0 A1 A2 A3 HP
        clear hd
        obtain ⟨p, hp⟩ : ∃ p, p = (ds.getD r zD).2.2.2 := ⟨_, rfl⟩
        rw [← hp] at B3
        have HQ : Hid (grD (ds.getD r zD) = p) := Lib.hid (by rw [hp]; rfl)
        clear hp
        rw [HQ.out] at HP
        clear HQ
        obtain ⟨x0, x1, x2, x3⟩ := d
        unfold grD at HP
        simp only at A0 A1 A2 A3 HP
        by_cases he : x3 = p
        · subst he
          have HT := Lib.hid (tog_on hm.out (by rw [HP.out]; simp))
          have ne : (x3 != x3) = false := by simp
          clear HP hm
          go_wp2
          go_quiet (fail)
          go_wp2
          go_roundw
          case rel => exact ⟨r + 1 + 1, by omega, by go_num, HT, (hK.alloc _).drewN _⟩
          case measure => simp [intOf]; omega
        · have ne : (x3 != p) = true := by simp [he]
          clear he
          cases hin : inSetB (gK ds (r + 1)) x3
          · have HT := Lib.hid (tog_on hm.out (by rw [HP.out, hin]; simp))
            clear HP hm
            go_wp2
            have KK : Keep w ((wr.alloc (boxD x0 x1 x2 x3)).drew) := (hK.alloc _).drew
            have z1 : wr.heap.size < ((wr.alloc (boxD x0 x1 x2 x3)).drew).heap.size := by rw [heap_drew, heap_size]; omega
            have z2 : b < ((wr.alloc (boxD x0 x1 x2 x3)).drew).heap.size := by rw [heap_drew, heap_size]; omega
            go_region_held3 (fun w' => w'.cell? ⟨wr.heap.size, 3, none⟩ = some (.int .i64 x3) ∧ w'.cell? ⟨b, o + r * 4 + 3, none⟩ = some (.int .i64 p))
              (first | go_keep | (go_split_ands; refine ⟨?_, ?_⟩ <;> (rw [kk.cell (by assumption)]; assumption)))
              ((first
                | (go_at_call 71; refine (groups_any _ _ _ (RT.keep KK) (by rw [HL.out]; omega)).mono ?_; rw [HG.out]; rintro e wz ⟨rfl, kk⟩; have KK := KK.trans kk; have z1 := Nat.lt_of_lt_of_le z1 kk.size; have z2 := Nat.lt_of_lt_of_le z2 kk.size)
                | (go_at_call 81; refine (has_any _ _ _).mono ?_; rintro e wy ⟨rfl, rfl⟩)))
            all_goals
              go_wp2
              go_roundw
              case rel => exact ⟨r + 1 + 1, by omega, by go_num, HT, KK⟩
              case measure => simp [intOf]; omega
          · have HT := Lib.hid (tog_off hlt (by rw [HP.out, hin, ne]; simp))
            clear HP hm
            go_wp2
            have KK : Keep w ((wr.alloc (boxD x0 x1 x2 x3)).drew) := (hK.alloc _).drew
            have z1 : wr.heap.size < ((wr.alloc (boxD x0 x1 x2 x3)).drew).heap.size := by rw [heap_drew, heap_size]; omega
            have z2 : b < ((wr.alloc (boxD x0 x1 x2 x3)).drew).heap.size := by rw [heap_drew, heap_size]; omega
            go_region_held3 (fun w' => w'.cell? ⟨wr.heap.size, 3, none⟩ = some (.int .i64 x3) ∧ w'.cell? ⟨b, o + r * 4 + 3, none⟩ = some (.int .i64 p))
              (first | go_keep | (go_split_ands; refine ⟨?_, ?_⟩ <;> (rw [kk.cell (by assumption)]; assumption)))
              ((first
                | (go_at_call 71; refine (groups_any _ _ _ (RT.keep KK) (by rw [HL.out]; omega)).mono ?_; rw [HG.out]; rintro e wz ⟨rfl, kk⟩; have KK := KK.trans kk; have z1 := Nat.lt_of_lt_of_le z1 kk.size; have z2 := Nat.lt_of_lt_of_le z2 kk.size)
                | (go_at_call 81; refine (has_any _ _ _).mono ?_; rintro e wy ⟨rfl, rfl⟩)))
            all_goals
              go_wp2
              go_ret
              exact ⟨by rw [HT.out]; rfl, KK⟩
    · obtain rfl : k = ds.length := by omega
      go_wp2
      go_ret
      exact ⟨by rw [hm.out]; rfl, hK⟩
end Go.Proofs.Ytgolhjmbloiakab

/- A region that draws its order, walked by hand: one operation taken first, or passed by where its guard is false; the slot that it fills is named. -/
namespace Go.Proofs.Ytgolhjmbloiakab
open Go

section
variable {P : Program} {md : Region.Mode} {ops : Array Oper} {Q : Exit → Act → World → Prop} {S : World → Prop}
theorem takeH (i d : Nat) {oi : Oper} {v : Value} {fuel : Nat} {listed : Array Bool} {a : Act} {w : World} (hi : ops[i]? = some oi) (hd : oi.dst = some d)
    (hs : Region.noSelect ops = true) (hf : Region.free md ops listed i = true) (hr : (Region.ready md ops listed).contains i = true)
    (hQ : ∀ c a w, Q (.panic c) (a.put (some d) v) w → Q (.panic c) a w) (hw : Region.wanted oi (yielded ops a.tmps) = true) (hy : ∀ w, S w → (execOp a.eval oi).run P w = .ok (.value v) w) (hS : S w)
    (h : wpAnyH P md ops Q S fuel (listed.setIfInBounds i true) (a.put (some d) v) w) : wpAnyH P md ops Q S (fuel + 1) listed a w := by
  rw [← hd] at hQ h
  exact wpAnyH_take hi hs hf hr hQ (Or.inl ⟨hw, hy⟩) hS h
theorem skipH (i d : Nat) {oi : Oper} {fuel : Nat} {listed : Array Bool} {a : Act} {w : World} (hi : ops[i]? = some oi) (hd : oi.dst = some d)
    (hs : Region.noSelect ops = true) (hf : Region.free md ops listed i = true) (hr : (Region.ready md ops listed).contains i = true)
    (hQ : ∀ c a w, Q (.panic c) (a.put (some d) undef) w → Q (.panic c) a w) (hw : Region.wanted oi (yielded ops a.tmps) = false) (hS : S w)
    (h : wpAnyH P md ops Q S fuel (listed.setIfInBounds i true) (a.put (some d) undef) w) : wpAnyH P md ops Q S (fuel + 1) listed a w := by
  rw [← hd] at hQ h
  exact wpAnyH_take hi hs hf hr hQ (Or.inr ⟨hw, rfl⟩) hS h
end
end Go.Proofs.Ytgolhjmbloiakab

/- Contracts of the program's clerks: isRight, clerksOf. -/
namespace Go.Proofs.Ytgolhjmbloiakab
open Go.ChangeShapes Go.WideShapes Go.ChangeAt Go.RowKit

abbrev boxC (v : Value) (t : Int) : Obj := .cells #[v, .int .i64 t] 77
theorem right_true {ds : List Dd} {t : Int} (h5 : ds.length ≤ 5) (ha : ds.all okD = true) (ht : togK ds ds.length = true) (h0 : (bits .and .i64 (gC ds) t == 0) = true) : rightB ds t = true := by
  rw [rightB, decide_eq_true h5, ha, ht, h0]; rfl
set_option maxRecDepth 100000 in
set_option maxHeartbeats 8000000 in
theorem isRight_any (w : World) (v : Value) (t : Int) (ds : List Dd) (h : RdD w v ds) (hx : ds.length ≤ 1048576) :
    Calls Try.prog 56 #[.agg #[v, .int .i64 t]] w fun e w' => e = .returned (.bool (rightB ds t)) ∧ Keep w w' := by
  have KK : Keep w ((w.alloc (boxC v t)).drew) := ((Keep.refl w).alloc _).drew
  have z1 : w.heap.size < ((w.alloc (boxC v t)).drew).heap.size := by rw [heap_drew, heap_size]; omega
  obtain ⟨a, c, hv, -⟩ := id h
  subst hv
  by_cases h5 : ds.length ≤ 5
  · have e5 : decide (ds.length ≤ 5) = true := decide_eq_true h5
    have e5' : decide ((ds.length : Int) ≤ 5) = true := decide_eq_true (by omega)
    have g5 : (ds.length : Int) ≤ 5 := by omega
    cases ha : ds.all okD
    · have HE : Hid (rightB ds t = false) := Lib.hid (by rw [rightB, ha]; simp)
      go_enter Try.func56, Try.ntmps56
      go_wp2
      refine wp_region_held_drew (S := (fun w' => w'.cell? ⟨w.heap.size, 0, none⟩ = some (.slice a ds.length (ds.length + c)) ∧ w'.cell? ⟨w.heap.size, 1, none⟩ = some (.int .i64 t))) (by kernel_rfl) ?_ (fun hHeld => ?_)
      · go_keep
      refine takeH 0 3 (v := ?_) rfl rfl (by kernel_rfl) (by kernel_rfl) (by kernel_rfl) (fun _ _ _ h => h) (by rfl) ?_ (by assumption) ?_
      rotate_left
      · intro wx hSw
        try dsimp only at hSw
        go_simp
        with_reducible rfl
      simp only [Act.put, List.setIfInBounds_toArray, List.set_cons_zero, List.set_cons_succ]
      refine takeH 1 4 (v := ?_) rfl rfl (by kernel_rfl) (by kernel_rfl) (by kernel_rfl) (fun _ _ _ h => h) (by rfl) ?_ (by assumption) ?_
      rotate_left
      · intro wx hSw
        try dsimp only at hSw
        go_simp
        with_reducible rfl
      simp only [Act.put, List.setIfInBounds_toArray, List.set_cons_zero, List.set_cons_succ]
      refine wpAnyH_ready (rs := [2]) (by kernel_rfl) (by simp) ?_
      refine AllReadyH.cons rfl (fun K hK => ?_) AllReadyH.nil
      go_simp
      refine (count_any _ _ _ _).mono ?_
      rintro e wz ⟨rfl, rfl⟩
      go_wp2_with fail
      refine hK.out _ _ ?_ (fun hHeld => ?_)
      · exact hHeld
      clear hK K
      refine takeH 3 6 (v := ?_) rfl rfl (by kernel_rfl) (by kernel_rfl) (by kernel_rfl) (fun _ _ _ h => h) (by rfl) ?_ (by assumption) ?_
      rotate_left
      · intro wx hSw
        try dsimp only at hSw
        go_simp
        with_reducible rfl
      simp only [Act.put, List.setIfInBounds_toArray, List.set_cons_zero, List.set_cons_succ]
      refine takeH 4 7 (v := ?_) rfl rfl (by kernel_rfl) (by kernel_rfl) (by kernel_rfl) (fun _ _ _ h => h) (by rfl) ?_ (by assumption) ?_
      rotate_left
      · intro wx hSw
        try dsimp only at hSw
        go_simp
        with_reducible rfl
      simp only [Act.put, List.setIfInBounds_toArray, List.set_cons_zero, List.set_cons_succ]
      refine takeH 5 8 (v := ?_) rfl rfl (by kernel_rfl) (by kernel_rfl) (by kernel_rfl) (fun _ _ _ h => h) (by rfl) ?_ (by assumption) ?_
      rotate_left
      · intro wx hSw
        try dsimp only at hSw
        go_simp
        with_reducible rfl
      simp only [Act.put, List.setIfInBounds_toArray, List.set_cons_zero, List.set_cons_succ]
      refine takeH 6 9 (v := ?_) rfl rfl (by kernel_rfl) (by kernel_rfl) (by kernel_rfl) (fun _ _ _ h => h) (by rfl) ?_ (by assumption) ?_
      rotate_left
      · intro wx hSw
        try dsimp only at hSw
        go_simp
        with_reducible rfl
      simp only [Act.put, List.setIfInBounds_toArray, List.set_cons_zero, List.set_cons_succ]
      refine wpAnyH_ready (rs := [7]) (by kernel_rfl) (by simp) ?_
      refine AllReadyH.cons rfl (fun K hK => ?_) AllReadyH.nil
      go_simp
      refine (areRight_any _ _ _ (h.keep KK) hx).mono ?_
      rw [ha]
      rintro e wz1 ⟨rfl, kk⟩
      have z0 := z1
      have KK := KK.trans kk
      have z1 := Nat.lt_of_lt_of_le z1 kk.size
      go_wp2_with fail
      refine hK.out _ _ ?_ (fun hHeld => ?_)
      · exact ⟨(kk.cell z0).trans hHeld.1, (kk.cell z0).trans hHeld.2⟩
      clear hK K
      refine takeH 8 11 (v := ?_) rfl rfl (by kernel_rfl) (by kernel_rfl) (by kernel_rfl) (fun _ _ _ h => h) (by rfl) ?_ (by assumption) ?_
      rotate_left
      · intro wx hSw
        try dsimp only at hSw
        go_simp
        with_reducible rfl
      simp only [Act.put, List.setIfInBounds_toArray, List.set_cons_zero, List.set_cons_succ]
      refine takeH 9 12 (v := ?_) rfl rfl (by kernel_rfl) (by kernel_rfl) (by kernel_rfl) (fun _ _ _ h => h) (by rfl) ?_ (by assumption) ?_
      rotate_left
      · intro wx hSw
        try dsimp only at hSw
        go_simp
        with_reducible rfl
      simp only [Act.put, List.setIfInBounds_toArray, List.set_cons_zero, List.set_cons_succ]
      refine skipH 10 13 rfl rfl (by kernel_rfl) (by kernel_rfl) (by kernel_rfl) (fun _ _ _ h => h) (by rfl) (by assumption) ?_
      simp only [Act.put, List.setIfInBounds_toArray, List.set_cons_zero, List.set_cons_succ]
      refine skipH 11 14 rfl rfl (by kernel_rfl) (by kernel_rfl) (by kernel_rfl) (fun _ _ _ h => h) (by rfl) (by assumption) ?_
      simp only [Act.put, List.setIfInBounds_toArray, List.set_cons_zero, List.set_cons_succ]
      refine skipH 12 15 rfl rfl (by kernel_rfl) (by kernel_rfl) (by kernel_rfl) (fun _ _ _ h => h) (by rfl) (by assumption) ?_
      simp only [Act.put, List.setIfInBounds_toArray, List.set_cons_zero, List.set_cons_succ]
      refine takeH 13 16 (v := ?_) rfl rfl (by kernel_rfl) (by kernel_rfl) (by kernel_rfl) (fun _ _ _ h => h) (by rfl) ?_ (by assumption) ?_
      rotate_left
      · intro wx hSw
        try dsimp only at hSw
        go_simp
        with_reducible rfl
      simp only [Act.put, List.setIfInBounds_toArray, List.set_cons_zero, List.set_cons_succ]
      refine takeH 14 17 (v := ?_) rfl rfl (by kernel_rfl) (by kernel_rfl) (by kernel_rfl) (fun _ _ _ h => h) (by rfl) ?_ (by assumption) ?_
      rotate_left
      · intro wx hSw
        try dsimp only at hSw
        go_simp
        with_reducible rfl
      simp only [Act.put, List.setIfInBounds_toArray, List.set_cons_zero, List.set_cons_succ]
      refine skipH 15 18 rfl rfl (by kernel_rfl) (by kernel_rfl) (by kernel_rfl) (fun _ _ _ h => h) (by rfl) (by assumption) ?_
      simp only [Act.put, List.setIfInBounds_toArray, List.set_cons_zero, List.set_cons_succ]
      refine skipH 16 19 rfl rfl (by kernel_rfl) (by kernel_rfl) (by kernel_rfl) (fun _ _ _ h => h) (by rfl) (by assumption) ?_
      simp only [Act.put, List.setIfInBounds_toArray, List.set_cons_zero, List.set_cons_succ]
      refine skipH 17 20 rfl rfl (by kernel_rfl) (by kernel_rfl) (by kernel_rfl) (fun _ _ _ h => h) (by rfl) (by assumption) ?_
      simp only [Act.put, List.setIfInBounds_toArray, List.set_cons_zero, List.set_cons_succ]
      refine skipH 18 21 rfl rfl (by kernel_rfl) (by kernel_rfl) (by kernel_rfl) (fun _ _ _ h => h) (by rfl) (by assumption) ?_
      simp only [Act.put, List.setIfInBounds_toArray, List.set_cons_zero, List.set_cons_succ]
      refine skipH 19 22 rfl rfl (by kernel_rfl) (by kernel_rfl) (by kernel_rfl) (fun _ _ _ h => h) (by rfl) (by assumption) ?_
      simp only [Act.put, List.setIfInBounds_toArray, List.set_cons_zero, List.set_cons_succ]
      refine skipH 20 23 rfl rfl (by kernel_rfl) (by kernel_rfl) (by kernel_rfl) (fun _ _ _ h => h) (by rfl) (by assumption) ?_
      simp only [Act.put, List.setIfInBounds_toArray, List.set_cons_zero, List.set_cons_succ]
      refine skipH 21 24 rfl rfl (by kernel_rfl) (by kernel_rfl) (by kernel_rfl) (fun _ _ _ h => h) (by rfl) (by assumption) ?_
      simp only [Act.put, List.setIfInBounds_toArray, List.set_cons_zero, List.set_cons_succ]
      refine takeH 22 25 (v := ?_) rfl rfl (by kernel_rfl) (by kernel_rfl) (by kernel_rfl) (fun _ _ _ h => h) (by rfl) ?_ (by assumption) ?_
      rotate_left
      · intro wx hSw
        try dsimp only at hSw
        go_simp
        with_reducible rfl
      simp only [Act.put, List.setIfInBounds_toArray, List.set_cons_zero, List.set_cons_succ]
      refine takeH 23 2 (v := ?_) rfl rfl (by kernel_rfl) (by kernel_rfl) (by kernel_rfl) (fun _ _ _ h => h) (by rfl) ?_ (by assumption) ?_
      rotate_left
      · intro wx hSw
        try dsimp only at hSw
        go_simp
        with_reducible rfl
      simp only [Act.put, List.setIfInBounds_toArray, List.set_cons_zero, List.set_cons_succ]
      refine wpAnyH_done (by kernel_rfl) ?_ _
      go_wp2
      go_ret
      exact ⟨by rw [HE.out]; rfl, KK⟩
    · cases ht : togK ds ds.length
      · have HE : Hid (rightB ds t = false) := Lib.hid (by rw [rightB, ht]; simp)
        go_enter Try.func56, Try.ntmps56
        go_wp2
        refine wp_region_held_drew (S := (fun w' => w'.cell? ⟨w.heap.size, 0, none⟩ = some (.slice a ds.length (ds.length + c)) ∧ w'.cell? ⟨w.heap.size, 1, none⟩ = some (.int .i64 t))) (by kernel_rfl) ?_ (fun hHeld => ?_)
        · go_keep
        refine takeH 0 3 (v := ?_) rfl rfl (by kernel_rfl) (by kernel_rfl) (by kernel_rfl) (fun _ _ _ h => h) (by rfl) ?_ (by assumption) ?_
        rotate_left
        · intro wx hSw
          try dsimp only at hSw
          go_simp
          with_reducible rfl
        simp only [Act.put, List.setIfInBounds_toArray, List.set_cons_zero, List.set_cons_succ]
        refine takeH 1 4 (v := ?_) rfl rfl (by kernel_rfl) (by kernel_rfl) (by kernel_rfl) (fun _ _ _ h => h) (by rfl) ?_ (by assumption) ?_
        rotate_left
        · intro wx hSw
          try dsimp only at hSw
          go_simp
          with_reducible rfl
        simp only [Act.put, List.setIfInBounds_toArray, List.set_cons_zero, List.set_cons_succ]
        refine wpAnyH_ready (rs := [2]) (by kernel_rfl) (by simp) ?_
        refine AllReadyH.cons rfl (fun K hK => ?_) AllReadyH.nil
        go_simp
        refine (count_any _ _ _ _).mono ?_
        rintro e wz ⟨rfl, rfl⟩
        go_wp2_with fail
        refine hK.out _ _ ?_ (fun hHeld => ?_)
        · exact hHeld
        clear hK K
        refine takeH 3 6 (v := ?_) rfl rfl (by kernel_rfl) (by kernel_rfl) (by kernel_rfl) (fun _ _ _ h => h) (by rfl) ?_ (by assumption) ?_
        rotate_left
        · intro wx hSw
          try dsimp only at hSw
          go_simp
          with_reducible rfl
        simp only [Act.put, List.setIfInBounds_toArray, List.set_cons_zero, List.set_cons_succ]
        refine takeH 4 7 (v := ?_) rfl rfl (by kernel_rfl) (by kernel_rfl) (by kernel_rfl) (fun _ _ _ h => h) (by rfl) ?_ (by assumption) ?_
        rotate_left
        · intro wx hSw
          try dsimp only at hSw
          go_simp
          with_reducible rfl
        simp only [Act.put, List.setIfInBounds_toArray, List.set_cons_zero, List.set_cons_succ]
        refine takeH 5 8 (v := ?_) rfl rfl (by kernel_rfl) (by kernel_rfl) (by kernel_rfl) (fun _ _ _ h => h) (by rfl) ?_ (by assumption) ?_
        rotate_left
        · intro wx hSw
          try dsimp only at hSw
          go_simp
          with_reducible rfl
        simp only [Act.put, List.setIfInBounds_toArray, List.set_cons_zero, List.set_cons_succ]
        refine takeH 6 9 (v := ?_) rfl rfl (by kernel_rfl) (by kernel_rfl) (by kernel_rfl) (fun _ _ _ h => h) (by rfl) ?_ (by assumption) ?_
        rotate_left
        · intro wx hSw
          try dsimp only at hSw
          go_simp
          with_reducible rfl
        simp only [Act.put, List.setIfInBounds_toArray, List.set_cons_zero, List.set_cons_succ]
        refine wpAnyH_ready (rs := [7]) (by kernel_rfl) (by simp) ?_
        refine AllReadyH.cons rfl (fun K hK => ?_) AllReadyH.nil
        go_simp
        refine (areRight_any _ _ _ (h.keep KK) hx).mono ?_
        rw [ha]
        rintro e wz1 ⟨rfl, kk⟩
        have z0 := z1
        have KK := KK.trans kk
        have z1 := Nat.lt_of_lt_of_le z1 kk.size
        go_wp2_with fail
        refine hK.out _ _ ?_ (fun hHeld => ?_)
        · exact ⟨(kk.cell z0).trans hHeld.1, (kk.cell z0).trans hHeld.2⟩
        clear hK K
        refine takeH 8 11 (v := ?_) rfl rfl (by kernel_rfl) (by kernel_rfl) (by kernel_rfl) (fun _ _ _ h => h) (by rfl) ?_ (by assumption) ?_
        rotate_left
        · intro wx hSw
          try dsimp only at hSw
          go_simp
          with_reducible rfl
        simp only [Act.put, List.setIfInBounds_toArray, List.set_cons_zero, List.set_cons_succ]
        refine takeH 9 12 (v := ?_) rfl rfl (by kernel_rfl) (by kernel_rfl) (by kernel_rfl) (fun _ _ _ h => h) (by rfl) ?_ (by assumption) ?_
        rotate_left
        · intro wx hSw
          try dsimp only at hSw
          go_simp
          with_reducible rfl
        simp only [Act.put, List.setIfInBounds_toArray, List.set_cons_zero, List.set_cons_succ]
        refine takeH 10 13 (v := ?_) rfl rfl (by kernel_rfl) (by kernel_rfl) (by kernel_rfl) (fun _ _ _ h => h) (by rfl) ?_ (by assumption) ?_
        rotate_left
        · intro wx hSw
          try dsimp only at hSw
          go_simp
          with_reducible rfl
        simp only [Act.put, List.setIfInBounds_toArray, List.set_cons_zero, List.set_cons_succ]
        refine takeH 11 14 (v := ?_) rfl rfl (by kernel_rfl) (by kernel_rfl) (by kernel_rfl) (fun _ _ _ h => h) (by rfl) ?_ (by assumption) ?_
        rotate_left
        · intro wx hSw
          try dsimp only at hSw
          go_simp
          with_reducible rfl
        simp only [Act.put, List.setIfInBounds_toArray, List.set_cons_zero, List.set_cons_succ]
        refine wpAnyH_ready (rs := [12]) (by kernel_rfl) (by simp) ?_
        refine AllReadyH.cons rfl (fun K hK => ?_) AllReadyH.nil
        go_simp
        refine (areTogether_any _ _ _ (h.keep KK) hx).mono ?_
        rw [ht]
        rintro e wz2 ⟨rfl, kk⟩
        have z0 := z1
        have KK := KK.trans kk
        have z1 := Nat.lt_of_lt_of_le z1 kk.size
        go_wp2_with fail
        refine hK.out _ _ ?_ (fun hHeld => ?_)
        · exact ⟨(kk.cell z0).trans hHeld.1, (kk.cell z0).trans hHeld.2⟩
        clear hK K
        refine takeH 13 16 (v := ?_) rfl rfl (by kernel_rfl) (by kernel_rfl) (by kernel_rfl) (fun _ _ _ h => h) (by rfl) ?_ (by assumption) ?_
        rotate_left
        · intro wx hSw
          try dsimp only at hSw
          go_simp
          with_reducible rfl
        simp only [Act.put, List.setIfInBounds_toArray, List.set_cons_zero, List.set_cons_succ]
        refine takeH 14 17 (v := ?_) rfl rfl (by kernel_rfl) (by kernel_rfl) (by kernel_rfl) (fun _ _ _ h => h) (by rfl) ?_ (by assumption) ?_
        rotate_left
        · intro wx hSw
          try dsimp only at hSw
          go_simp
          with_reducible rfl
        simp only [Act.put, List.setIfInBounds_toArray, List.set_cons_zero, List.set_cons_succ]
        refine skipH 15 18 rfl rfl (by kernel_rfl) (by kernel_rfl) (by kernel_rfl) (fun _ _ _ h => h) (by rfl) (by assumption) ?_
        simp only [Act.put, List.setIfInBounds_toArray, List.set_cons_zero, List.set_cons_succ]
        refine skipH 16 19 rfl rfl (by kernel_rfl) (by kernel_rfl) (by kernel_rfl) (fun _ _ _ h => h) (by rfl) (by assumption) ?_
        simp only [Act.put, List.setIfInBounds_toArray, List.set_cons_zero, List.set_cons_succ]
        refine skipH 17 20 rfl rfl (by kernel_rfl) (by kernel_rfl) (by kernel_rfl) (fun _ _ _ h => h) (by rfl) (by assumption) ?_
        simp only [Act.put, List.setIfInBounds_toArray, List.set_cons_zero, List.set_cons_succ]
        refine skipH 18 21 rfl rfl (by kernel_rfl) (by kernel_rfl) (by kernel_rfl) (fun _ _ _ h => h) (by rfl) (by assumption) ?_
        simp only [Act.put, List.setIfInBounds_toArray, List.set_cons_zero, List.set_cons_succ]
        refine skipH 19 22 rfl rfl (by kernel_rfl) (by kernel_rfl) (by kernel_rfl) (fun _ _ _ h => h) (by rfl) (by assumption) ?_
        simp only [Act.put, List.setIfInBounds_toArray, List.set_cons_zero, List.set_cons_succ]
        refine skipH 20 23 rfl rfl (by kernel_rfl) (by kernel_rfl) (by kernel_rfl) (fun _ _ _ h => h) (by rfl) (by assumption) ?_
        simp only [Act.put, List.setIfInBounds_toArray, List.set_cons_zero, List.set_cons_succ]
        refine skipH 21 24 rfl rfl (by kernel_rfl) (by kernel_rfl) (by kernel_rfl) (fun _ _ _ h => h) (by rfl) (by assumption) ?_
        simp only [Act.put, List.setIfInBounds_toArray, List.set_cons_zero, List.set_cons_succ]
        refine takeH 22 25 (v := ?_) rfl rfl (by kernel_rfl) (by kernel_rfl) (by kernel_rfl) (fun _ _ _ h => h) (by rfl) ?_ (by assumption) ?_
        rotate_left
        · intro wx hSw
          try dsimp only at hSw
          go_simp
          with_reducible rfl
        simp only [Act.put, List.setIfInBounds_toArray, List.set_cons_zero, List.set_cons_succ]
        refine takeH 23 2 (v := ?_) rfl rfl (by kernel_rfl) (by kernel_rfl) (by kernel_rfl) (fun _ _ _ h => h) (by rfl) ?_ (by assumption) ?_
        rotate_left
        · intro wx hSw
          try dsimp only at hSw
          go_simp
          with_reducible rfl
        simp only [Act.put, List.setIfInBounds_toArray, List.set_cons_zero, List.set_cons_succ]
        refine wpAnyH_done (by kernel_rfl) ?_ _
        go_wp2
        go_ret
        exact ⟨by rw [HE.out]; rfl, KK⟩
      · cases h0 : (bits .and .i64 (gC ds) t == 0)
        · have HE : Hid (rightB ds t = false) := Lib.hid (by rw [rightB, h0]; simp)
          go_enter Try.func56, Try.ntmps56
          go_wp2
          go_region_held3 (fun w' => w'.cell? ⟨w.heap.size, 0, none⟩ = some (.slice a ds.length (ds.length + c)) ∧ w'.cell? ⟨w.heap.size, 1, none⟩ = some (.int .i64 t))
            (first | go_keep | (go_split_ands; refine ⟨?_, ?_⟩ <;> (rw [kk.cell (by assumption)]; assumption)))
            ((first
              | (go_at_call 57; refine (count_any _ _ _ _).mono ?_; rintro e wz ⟨rfl, rfl⟩)
              | (go_at_call 72; refine (areRight_any _ _ _ (h.keep KK) hx).mono ?_; rintro e wz ⟨rfl, kk⟩; have KK := KK.trans kk; have z1 := Nat.lt_of_lt_of_le z1 kk.size)
              | (go_at_call 73; refine (areTogether_any _ _ _ (h.keep KK) hx).mono ?_; rintro e wz ⟨rfl, kk⟩; have KK := KK.trans kk; have z1 := Nat.lt_of_lt_of_le z1 kk.size)
              | (go_at_call 71; refine (groups_any _ _ _ (h.keep KK) hx).mono ?_; rintro e wz ⟨rfl, kk⟩; have KK := KK.trans kk; have z1 := Nat.lt_of_lt_of_le z1 kk.size)
              | (go_at_call 74; refine (setAnd_bits _ _ _).mono ?_; rintro e wz ⟨rfl, rfl⟩)))
          all_goals
            go_wp2
            go_ret
            exact ⟨by rw [HE.out]; rfl, KK⟩
        · have HE : Hid (rightB ds t = true) := Lib.hid (right_true h5 ha ht h0)
          go_enter Try.func56, Try.ntmps56
          go_wp2
          go_region_held3 (fun w' => w'.cell? ⟨w.heap.size, 0, none⟩ = some (.slice a ds.length (ds.length + c)) ∧ w'.cell? ⟨w.heap.size, 1, none⟩ = some (.int .i64 t))
            (first | go_keep | (go_split_ands; refine ⟨?_, ?_⟩ <;> (rw [kk.cell (by assumption)]; assumption)))
            ((first
              | (go_at_call 57; refine (count_any _ _ _ _).mono ?_; rintro e wz ⟨rfl, rfl⟩)
              | (go_at_call 72; refine (areRight_any _ _ _ (h.keep KK) hx).mono ?_; rintro e wz ⟨rfl, kk⟩; have KK := KK.trans kk; have z1 := Nat.lt_of_lt_of_le z1 kk.size)
              | (go_at_call 73; refine (areTogether_any _ _ _ (h.keep KK) hx).mono ?_; rintro e wz ⟨rfl, kk⟩; have KK := KK.trans kk; have z1 := Nat.lt_of_lt_of_le z1 kk.size)
              | (go_at_call 71; refine (groups_any _ _ _ (h.keep KK) hx).mono ?_; rintro e wz ⟨rfl, kk⟩; have KK := KK.trans kk; have z1 := Nat.lt_of_lt_of_le z1 kk.size)
              | (go_at_call 74; refine (setAnd_bits _ _ _).mono ?_; rintro e wz ⟨rfl, rfl⟩)))
          all_goals
            go_wp2
            go_ret
            exact ⟨by rw [HE.out]; rfl, KK⟩
  · have e5 : decide (ds.length ≤ 5) = false := decide_eq_false h5
    have e5' : decide ((ds.length : Int) ≤ 5) = false := decide_eq_false (by omega)
    have HE : Hid (rightB ds t = false) := Lib.hid (by rw [rightB, e5]; rfl)
    go_enter Try.func56, Try.ntmps56
    go_wp2
    go_quiet ((go_at_call 57; exact Calls.quiet_of_same (count_any _ _ _ _)))
    go_wp2
    go_ret
    exact ⟨by rw [HE.out]; rfl, ((Keep.refl w).alloc _).drewN _⟩
end Go.Proofs.Ytgolhjmbloiakab

/- Contract of the program's clerksOf: a new list of clerks, each with its deeds and the Groups of those ahead. -/
namespace Go.Proofs.Ytgolhjmbloiakab
open Go.ChangeShapes Go.WideShapes Go.ChangeAt Go.RowKit

theorem Try.infoC : (Try.prog.info? 77).map (fun i => (i.zero, i.size, i.bytes)) = some (some (.agg #[.slice none 0 0, .int .i64 0]), 2, 32) := by kernel_rfl
abbrev boxC2 (v : Value) (t : Int) : Obj := .cells #[v, .int .i64 t] 77
/-- Clerks that can be read. -/
def RdC (w : World) (v : Value) (dss : List (List Dd)) : Prop :=
  ∃ (a : Option Addr) (cap : Nat), v = .slice a dss.length cap ∧
    (dss = [] ∨ ∃ b, a = some ⟨b, 0, none⟩ ∧ b < w.heap.size ∧ ∀ i, i < dss.length → ∃ vi, w.cell? ⟨b, i * 2, none⟩ = some vi ∧ RdD w vi (dss.getD i []) ∧ w.cell? ⟨b, i * 2 + 1, none⟩ = some (.int .i64 (takW dss i)))
theorem RdC.keep {w w' : World} {v : Value} {dss : List (List Dd)} (h : RdC w v dss) (k : Keep w w') : RdC w' v dss := by
  obtain ⟨a, cap, hv, h⟩ := h
  refine ⟨a, cap, hv, ?_⟩
  rcases h with h | ⟨b, ha, hb, hc⟩
  · exact .inl h
  · refine .inr ⟨b, ha, Nat.lt_of_lt_of_le hb k.size, fun i hi => ?_⟩
    obtain ⟨vi, h1, h2, h3⟩ := hc i hi
    exact ⟨vi, (k.cell hb).trans h1, h2.keep k, (k.cell hb).trans h3⟩
def cellC (V : Nat → Value) (dss : List (List Dd)) (k : Nat) : List Value := (List.range k).flatMap fun i => [V i, .int .i64 (takW dss i)]
theorem cellC_more (V : Nat → Value) (dss : List (List Dd)) (k : Nat) : cellC V dss (k + 1) = cellC V dss k ++ [V k, .int .i64 (takW dss k)] := by
  unfold cellC; rw [List.range_succ, List.flatMap_append]; simp
theorem cellC_len (V : Nat → Value) (dss : List (List Dd)) : ∀ k, (cellC V dss k).length = k * 2
  | 0 => rfl
  | k + 1 => by rw [cellC_more, List.length_append, cellC_len V dss k]; simp; omega
theorem cellC_at (V : Nat → Value) (dss : List (List Dd)) : ∀ k i, i < k → (cellC V dss k)[i * 2]? = some (V i) ∧ (cellC V dss k)[i * 2 + 1]? = some (.int .i64 (takW dss i))
  | 0, i, h => by omega
  | k + 1, i, h => by
    rw [cellC_more]
    by_cases e : i < k
    · have ih := cellC_at V dss k i e
      have hl := cellC_len V dss k
      rw [List.getElem?_append_left (by omega), List.getElem?_append_left (by omega)]
      exact ih
    · obtain rfl : i = k := by omega
      have hl := cellC_len V dss i
      rw [List.getElem?_append_right (by omega), List.getElem?_append_right (by omega), hl]
      simp
theorem rdC_of {w0 w : World} {base : Nat} {v : Value} {V : Nat → Value} {dss : List (List Dd)} (h : w.ownsRow base 77 2 v dss.length (cellC V dss dss.length)) (k : Keep w0 w) (hV : ∀ i, i < dss.length → RdD w0 (V i) (dss.getD i [])) : RdC w v dss := by
  have h2 := h
  have hlt := World.ownsRow.lt h
  rcases h.2 with ⟨rfl, hn⟩ | ⟨g, cap, cur, rfl, hb, hg, _, _, hs, _⟩
  · have : dss = [] := List.eq_nil_of_length_eq_zero hn
    subst this
    exact ⟨none, 0, rfl, .inl rfl⟩
  · refine ⟨_, _, rfl, .inr ⟨g, rfl, (hlt g rfl).2, fun i hi => ?_⟩⟩
    have hc := cellC_at V dss dss.length i hi
    have c1 := World.ownsRow.cellAt h2 (i * 2) (by omega)
    have c2 := World.ownsRow.cellAt h2 (i * 2 + 1) (by omega)
    exact ⟨V i, by rw [c1, hc.1], (hV i hi).keep k, by rw [c2, hc.2]⟩
set_option maxRecDepth 100000 in
set_option maxHeartbeats 4000000 in
theorem clerksOf_own (w0 w : World) (kw : Keep w0 w) (v : Value) (dss : List (List Dd)) (h : RdW w0 v dss) (hx : dss.length ≤ 3) (hm : ∀ i, i < dss.length → (dss.getD i []).length ≤ 1048576) :
    Calls Try.prog 55 #[v] w fun e w' => ∃ v', e = .returned v' ∧ (∃ V : Nat → Value, w'.ownsRow w.heap.size 77 2 v' dss.length (cellC V dss dss.length) ∧ ∀ i, i < dss.length → RdD w0 (V i) (dss.getD i [])) ∧ Keep w w' := by
  obtain ⟨a, c, rfl, h⟩ := h
  have start : (w.alloc (.cells #[] 77)).ownsRow w.heap.size 77 2 (.slice (some ⟨w.heap.size, 0, none⟩) 0 0) 0 [] := World.ownsRow_lit w #[] 0 (Nat.le_refl _) (by decide) rfl
  obtain ⟨i0, hi, hz0, hz1, hz2⟩ := info_parts Try.infoC
  obtain ⟨V, hV⟩ : ∃ V : Nat → Value, ∀ i, i < dss.length → RdD w0 (V i) (dss.getD i []) ∧ ∀ b o, a = some ⟨b, o, none⟩ → b < w0.heap.size ∧ w0.cell? ⟨b, o + i, none⟩ = some (V i) := by
    rcases h with h | ⟨b, o, rfl, hb, hc⟩
    · exact ⟨fun _ => Value.bool false, fun i hi => by rw [h] at hi; simp at hi⟩
    · obtain ⟨V, hV⟩ := Deep.choose_lt hc
      refine ⟨V, fun i hi => ⟨(hV i hi).2, fun b' o' e => ?_⟩⟩
      simp only [Option.some.injEq, Addr.mk.injEq, and_true] at e
      obtain ⟨rfl, rfl⟩ := e
      exact ⟨hb, (hV i hi).1⟩
  have hA : dss.length = 0 ∨ ∃ b o, a = some ⟨b, o, none⟩ := by
    rcases h with h | ⟨b, o, rfl, hb, hc⟩
    · left; rw [h]; rfl
    · exact .inr ⟨b, o, rfl⟩
  clear h
  go_enter Try.func55, Try.ntmps55
  go_wp2
  go_loopw [3, 4, 11] (fun x t i wr => ∃ k : Nat, k ≤ dss.length ∧ i = .int .i64 k ∧ t = .int .i64 (takW dss k) ∧ wr.ownsRow w.heap.size 77 2 x k (cellC V dss k) ∧ Keep w wr) (fun _ _ i _ => dss.length - (intOf i).toNat)
  case atStart => exact ⟨0, Nat.zero_le _, rfl, rfl, start, (Keep.refl w).alloc _⟩
  case round =>
    obtain ⟨k, hk, rfl, rfl, ho, hK⟩ := hrel
    clear start
    by_cases hlt : k < dss.length
    · obtain ⟨b, o, rfl⟩ : ∃ b o, a = some ⟨b, o, none⟩ := hA.resolve_left (by omega)
      obtain ⟨hR, hC⟩ := hV k hlt
      obtain ⟨hb, hC⟩ := hC b o rfl
      have hmk := hm k hlt
      have HM := Lib.hid (cellC_more V dss k)
      have HT : Hid (takW dss (k + 1) = bits .or .i64 (takW dss k) (gC (dss.getD k []))) := Lib.hid rfl
      have HV := Lib.hid hV
      clear hV hm hA
      obtain ⟨ds, hds⟩ : ∃ ds, ds = dss.getD k [] := ⟨_, rfl⟩
      rw [← hds] at hR hmk HT
      clear hds
      generalize takW dss k = t at HM HT
      have hK0 := kw.trans hK
      have d1 := (hK0.cell hb).trans hC
      have R1 := hR.keep hK0
      obtain ⟨u, hu⟩ : ∃ u, u = V k := ⟨_, rfl⟩
      rw [← hu] at d1 R1 HM
      have R0 := hR
      rw [← hu] at R0
      clear hu hC hR
      obtain ⟨ai, ci, rfl, -⟩ := id R1
      have hbw : b < wr.heap.size := Nat.lt_of_lt_of_le hb hK0.size
      have hsz := hK.size
      have i1 : (0 : Int) ≤ (k : Int) := Int.natCast_nonneg _
      have i2 : (k : Int) < (dss.length : Int) := by omega
      have ho2 := World.ownsRow.kept ho (((Keep.refl wr).alloc (boxC2 (.slice ai ds.length (ds.length + ci)) t)).alloc (.cells #[.slice ai ds.length (ds.length + ci), .int .i64 t] 77)).grownBy (by cases u3.ownBlock <;> simp)
      go_wp2_with (at_builtin; refine wpList_append_own_at _ rfl _ _ 72 rfl w.heap.size 77 i0 (.agg #[.slice none 0 0, .int .i64 0]) 2 32 Try.underlying72 hi hz0 hz1 hz2 rfl (by decide) _ _ _ rfl ho2 ⟨_, 0, none⟩ 1 1 [.slice ai ds.length (ds.length + ci), .int .i64 t] rfl rfl ?c1 ?c2 ?c3 ?c4 ?c5 ?_)
      case c1 =>
        intro j u hj
        match j, hj with
        | 0, hj => simp at hj; subst hj; simp [Addr.add]
        | 1, hj => simp at hj; subst hj; simp [Addr.add]
        | n + 2, hj => simp at hj
      case c2 => intro u hu; simp at hu; rcases hu with rfl | rfl <;> rfl
      case c3 => unfold maxLen; first | omega | (simp; omega)
      case c4 => first | omega | (simp; omega)
      case c5 => first | omega | (simp; omega)
      intro v' w2 hown' hgrow _ _
      rw [← HM.out] at hown'
      have hK2 : Keep w w2 := ((hK.alloc _).alloc _).grown hgrow (fun g hg => (World.ownsRow.lt ho g hg).1)
      have hbox : w2.heap[wr.heap.size]? = some (boxC2 (.slice ai ds.length (ds.length + ci)) t) :=
        (hgrow.block wr.heap.size (by rw [heap_size, heap_size]; omega) (fun e => by have := (World.ownsRow.lt ho _ e.symm).2; omega)).trans (by rw [heap_at, if_neg (by rw [heap_size]; omega), heap_at, if_pos rfl])
      have b0 : w2.cell? ⟨wr.heap.size, 0, none⟩ = some (.slice ai ds.length (ds.length + ci)) := by rw [cell_of_row w2 _ 0 _ _ (0, 0) hbox]; rfl
      have R2 := R0.keep (kw.trans hK2)
      clear hgrow hbox
      go_wp2_with fail
      refine (groups_any _ _ _ R2 hmk).mono ?_
      rintro e w3 ⟨rfl, k3⟩
      have ho3 := World.ownsRow.kept hown' k3.grownBy (by cases v'.ownBlock <;> simp)
      go_wp2_with fail
      refine (setOr_bits _ _ _).mono ?_
      rintro e w4 ⟨rfl, rfl⟩
      go_wp2
      go_roundw
      case rel => exact ⟨k + 1, by omega, by go_num, by rw [HT.out], ho3, hK2.trans k3⟩
      case measure => simp [intOf]; omega
    · obtain rfl : k = dss.length := by omega
      go_wp2
      go_ret
      exact ⟨_, rfl, ⟨V, ho, fun i hi => (hV i hi).1⟩, hK⟩
theorem clerksOf_any (w : World) (v : Value) (dss : List (List Dd)) (h : RdW w v dss) (hx : dss.length ≤ 3) (hm : ∀ i, i < dss.length → (dss.getD i []).length ≤ 1048576) :
    Calls Try.prog 55 #[v] w fun e w' => ∃ v', e = .returned v' ∧ RdC w' v' dss ∧ Keep w w' :=
  (clerksOf_own w w (Keep.refl w) v dss h hx hm).mono fun _ _ ⟨v', he, ⟨_, ho, hV⟩, hK⟩ => ⟨v', he, rdC_of ho hK hV, hK⟩
/-- The clerks lie in a block of their own, their deeds where they lay ahead of it. -/
def ClksAt (w0 wc w : World) (v : Value) (dss : List (List Dd)) : Prop :=
  ∃ (b c : Nat) (V : Nat → Value), v = .slice (some ⟨b, 0, none⟩) dss.length c ∧ wc.heap.size ≤ b ∧ b < w.heap.size ∧
    ∀ i, i < dss.length → RdD w0 (V i) (dss.getD i []) ∧ w.cell? ⟨b, i * 2, none⟩ = some (V i) ∧ w.cell? ⟨b, i * 2 + 1, none⟩ = some (.int .i64 (takW dss i))
theorem clerksOf_at (w0 w : World) (kw : Keep w0 w) (v : Value) (dss : List (List Dd)) (h : RdW w0 v dss) (h1 : 1 ≤ dss.length) (hx : dss.length ≤ 3) (hm : ∀ i, i < dss.length → (dss.getD i []).length ≤ 1048576) :
    Calls Try.prog 55 #[v] w fun e w' => ∃ v', e = .returned v' ∧ ClksAt w0 w w' v' dss ∧ Keep w w' := by
  refine (clerksOf_own w0 w kw v dss h hx hm).mono fun _ w' ⟨v', he, ⟨V, ho, hV⟩, hK⟩ => ⟨v', he, ?_, hK⟩
  have hlt := World.ownsRow.lt ho
  have h2 := ho
  rcases ho.2 with ⟨_, hn⟩ | ⟨g, cap, cur, rfl, hb, hg, _, _, hs, _⟩
  · omega
  · refine ⟨g, cap, V, rfl, hb, (hlt g rfl).2, fun i hi => ?_⟩
    have hc := cellC_at V dss dss.length i hi
    have c1 := World.ownsRow.cellAt h2 (i * 2) (by omega)
    have c2 := World.ownsRow.cellAt h2 (i * 2 + 1) (by omega)
    exact ⟨hV i hi, by rw [c1, hc.1], by rw [c2, hc.2]⟩
end Go.Proofs.Ytgolhjmbloiakab

/- Contract of the program's WorkOk. -/
namespace Go.Proofs.Ytgolhjmbloiakab
open Go.ChangeShapes Go.WideShapes Go.ChangeAt Go.RowKit

theorem lenW_moreC (d : List Dd) : ∀ l : List (List Dd), lenW (l ++ [d]) = lenW l + d.length
  | [] => by simp [lenW]
  | x :: r => by rw [List.cons_append, lenW, lenW, lenW_moreC d r]; omega
theorem take_moreC {α : Type} (l : List α) (k : Nat) (z : α) (h : k < l.length) : l.take (k + 1) = l.take k ++ [l.getD k z] := by
  rw [List.take_add_one, List.getElem?_eq_getElem h, List.getD_eq_getElem?_getD, List.getElem?_eq_getElem h]
  rfl
theorem rightB_len {ds : List Dd} {t : Int} (h : rightB ds t = true) : ds.length ≤ 5 := by
  simp only [rightB, Bool.and_eq_true, decide_eq_true_eq] at h
  exact h.1.1.1
set_option maxRecDepth 100000 in
set_option maxHeartbeats 4000000 in
theorem implWorkOk_any (w : World) (v : Value) (dss : List (List Dd)) (h : RdW w v dss) (hx : dss.length ≤ 1048576) (hm : ∀ i, i < dss.length → (dss.getD i []).length ≤ 1048576) :
    Calls Try.prog 37 #[v] w fun e w' => e = .returned (.bool (workB dss)) ∧ Keep w w' := by
  have RW := h
  obtain ⟨a, c, rfl, h⟩ := h
  clear h
  have HW := Lib.hid (work_rights dss)
  cases hb : inB (dss.length : Int) 1 3
  · have HE : Hid (workB dss = false) := by
      refine Lib.hid ?_
      simp [inB] at hb
      rw [HW.out, decide_eq_false (by omega)]
      rfl
    go_enter Try.func37, Try.ntmps37
    go_wp2_with (go_at_call 19; refine (isFrom_any _ _ _ _).mono ?_; rintro e w' ⟨rfl, rfl⟩)
    go_ret
    exact ⟨by rw [HE.out]; rfl, Keep.refl _⟩
  · have h13 : 1 ≤ dss.length ∧ dss.length ≤ 3 := by simp [inB] at hb; omega
    have HW2 : Hid (workB dss = (rightsW dss dss.length && decide (lenW dss ≤ 12) && decide (evW dss dss.length ≤ 6))) := Lib.hid (by rw [HW.out, decide_eq_true h13]; rfl)
    have h3 := h13.2
    clear h13 HW
    go_enter Try.func37, Try.ntmps37
    go_wp2_with fail
    refine (isFrom_any _ _ _ _).mono ?_
    rintro e w' ⟨rfl, rfl⟩
    go_wp2_with fail
    refine (clerksOf_any _ _ _ RW h3 hm).mono ?_
    rintro e w1 ⟨v1, rfl, rc, k1⟩
    clear hb RW
    obtain ⟨a1, c1, rfl, rc⟩ := rc
    go_wp2
    go_loopw [3, 4, 14] (fun n m i wr => ∃ k x : Nat, ∃ y : Int, k ≤ dss.length ∧ n = .int .i64 x ∧ m = .int .i64 y ∧ i = .int .i64 k ∧ Hid (x = lenW (dss.take k) ∧ y = evW dss k ∧ rightsW dss k = true) ∧ x ≤ 5 * k ∧ 0 ≤ y ∧ y ≤ 10 * k ∧ Keep w1 wr) (fun _ _ i _ => dss.length - (intOf i).toNat)
    case atStart => exact ⟨0, 0, 0, Nat.zero_le _, rfl, rfl, rfl, Lib.hid ⟨by simp [lenW], rfl, rfl⟩, by omega, by omega, by omega, Keep.refl _⟩
    case round =>
      obtain ⟨k, x, y, hk, rfl, rfl, rfl, hM, x5, y0, y1, hK⟩ := hrel
      by_cases hlt : k < dss.length
      · rcases rc with h | ⟨b, rfl, hb, hc⟩
        · exfalso; rw [h] at hlt; simp at hlt
        obtain ⟨vi, e1, r1, e2⟩ := hc k hlt
        have hmk := hm k hlt
        clear hc hm
        have HR : Hid (rightsW dss (k + 1) = (rightsW dss k && rightB (dss.getD k []) (takW dss k))) := Lib.hid rfl
        have HV : Hid (evW dss (k + 1) = evW dss k + evK (dss.getD k []) (dss.getD k []).length) := Lib.hid rfl
        have HN : Hid (lenW (dss.take (k + 1)) = lenW (dss.take k) + (dss.getD k []).length) := Lib.hid (by rw [take_moreC dss k [] hlt, lenW_moreC])
        obtain ⟨ds, hds⟩ : ∃ ds, ds = dss.getD k [] := ⟨_, rfl⟩
        rw [← hds] at r1 hmk HR HV HN
        clear hds
        generalize takW dss k = t at e2 HR
        have d1 := (hK.cell hb).trans e1
        have d2 := (hK.cell hb).trans e2
        have r1 := r1.keep hK
        obtain ⟨ai, ci, rfl, -⟩ := id r1
        have hbw : b < wr.heap.size := Nat.lt_of_lt_of_le hb hK.size
        have i1 : (0 : Int) ≤ (k : Int) := Int.natCast_nonneg _
        have i2 : (k : Int) < (dss.length : Int) := by omega
        clear e1 e2
        cases hr : rightB ds t
        · have HE : Hid (workB dss = false) := Lib.hid (by
            rw [HW2.out, rightsW_false (k := k + 1) (by rw [HR.out, hr]; simp) _ hlt]
            rfl)
          have HRR := Lib.hid hr
          clear hr
          go_wp2_with fail
          refine (isRight_any _ _ _ _ (r1.keep ((Keep.refl _).alloc _)) hmk).mono ?_
          rw [HRR.out]
          rintro e wz ⟨rfl, kk⟩
          go_wp2
          go_ret
          exact ⟨by rw [HE.out]; rfl, k1.trans ((hK.alloc _).trans kk)⟩
        · have l5 := rightB_len hr
          have HRR := Lib.hid hr
          have EK := evK_in ds ds.length
          clear hr
          go_wp2_with fail
          refine (isRight_any _ _ _ _ (r1.keep ((Keep.refl _).alloc _)) hmk).mono ?_
          rw [HRR.out]
          rintro e wz ⟨rfl, kk⟩
          have b0 : wz.cell? ⟨wr.heap.size, 0, none⟩ = some (.slice ai ds.length (ds.length + ci)) := box_cell kk 0
          have bs : wr.heap.size < wz.heap.size := box_size kk
          have r2 := r1.keep (((Keep.refl _).alloc _).trans kk)
          have hKz := (hK.alloc (.cells #[.slice ai ds.length (ds.length + ci), .int .i64 t] 77)).trans kk
          clear d1 d2 kk
          go_wp2_with fail
          refine (count_any _ _ _ _).mono ?_
          rintro e w3 ⟨rfl, rfl⟩
          go_wp2_with fail
          refine (events_any _ _ _ r2 hmk).mono ?_
          rintro e w4 ⟨rfl, k4⟩
          have HH : Hid (x + ds.length = lenW (dss.take (k + 1)) ∧ y + evK ds ds.length = evW dss (k + 1) ∧ rightsW dss (k + 1) = true) := Lib.hid ⟨by rw [HN.out, hM.out.1], by rw [HV.out, hM.out.2.1], by rw [HR.out, hM.out.2.2, HRR.out]; rfl⟩
          generalize evK ds ds.length = ev at EK HH
          go_wp2
          go_roundw
          case rel => exact ⟨k + 1, x + ds.length, y + ev, by omega, by go_num, by go_num, by go_num, HH, by omega, by omega, by omega, hKz.trans k4⟩
          case measure => simp [intOf]; omega
      · obtain rfl : k = dss.length := by omega
        rw [List.take_length] at hM
        have HE : Hid (workB dss = (decide (x ≤ 12) && decide (y ≤ 6))) := Lib.hid (by rw [HW2.out, hM.out.2.2, hM.out.1, hM.out.2.1]; rfl)
        clear hM HW2 rc hm
        by_cases h12 : x ≤ 12
        · have e12 : (x : Int) ≤ 12 := by omega
          by_cases h6 : y ≤ 6
          · go_wp2
            go_ret
            exact ⟨by rw [HE.out, decide_eq_true h12, decide_eq_true h6]; rfl, k1.trans hK⟩
          · have e6 : (6 : Int) < y := by omega
            go_wp2
            go_ret
            exact ⟨by rw [HE.out, decide_eq_true h12, decide_eq_false (show ¬ y ≤ 6 by omega)]; rfl, k1.trans hK⟩
        · have e12 : (12 : Int) < (x : Int) := by omega
          go_wp2
          go_ret
          exact ⟨by rw [HE.out, decide_eq_false (show ¬ x ≤ 12 by omega)]; rfl, k1.trans hK⟩
end Go.Proofs.Ytgolhjmbloiakab

/- Contracts of the program's eventOf: of a reading and of a writing. -/
namespace Go.Proofs.Ytgolhjmbloiakab
open Go.ChangeShapes Go.WideShapes Go.ChangeAt Go.RowKit

abbrev rdV (p : Int) : Value := .iface 99 (.agg #[.int .i64 p])
abbrev wrV (p v : Int) : Value := .iface 97 (.agg #[.int .i64 p, .int .i64 v])
abbrev evA (x0 x1 : Int) (r : Bool) (x3 x4 x5 : Int) : Value := .agg #[.int .i64 x0, .int .i64 x1, .bool r, .int .i64 x3, .int .i64 x4, .int .i64 x5]
theorem at_rd (p : Int) (w : World) : (method 223 99 (.agg #[.int .i64 p]) "loop.example/g00411/impl.at").run Try.prog w = .ok (104, .agg #[.int .i64 p]) w := by kernel_rfl
theorem at_wr (p v : Int) (w : World) : (method 223 97 (.agg #[.int .i64 p, .int .i64 v]) "loop.example/g00411/impl.at").run Try.prog w = .ok (103, .agg #[.int .i64 p, .int .i64 v]) w := by kernel_rfl
theorem atRd_any (p : Int) (w : World) : Calls Try.prog 104 #[.agg #[.int .i64 p]] w fun e w' => e = .returned (.int .i64 p) ∧ Keep w w' := by
  go_enter Try.func104, Try.ntmps104
  go_wp2
  go_ret
  exact ⟨rfl, (Keep.refl w).alloc _⟩
theorem atWr_any (p v : Int) (w : World) : Calls Try.prog 103 #[.agg #[.int .i64 p, .int .i64 v]] w fun e w' => e = .returned (.int .i64 p) ∧ Keep w w' := by
  go_enter Try.func103, Try.ntmps103
  go_wp2
  go_ret
  exact ⟨rfl, (Keep.refl w).alloc _⟩
theorem as_rd (p : Int) (w : World) : (Instr.typeAssert (rdV p) 87 99 true).run Try.prog w = .ok (.tuple #[.agg #[.int .i64 p], .bool true]) w := by kernel_rfl
theorem as_wr (p v : Int) (w : World) : (Instr.typeAssert (wrV p v) 87 99 true).run Try.prog w = .ok (.tuple #[.agg #[.int .i64 0], .bool false]) w := by kernel_rfl
theorem as_wr2 (p v : Int) (w : World) : (Instr.typeAssert (wrV p v) 87 97 true).run Try.prog w = .ok (.tuple #[.agg #[.int .i64 p, .int .i64 v], .bool true]) w := by kernel_rfl
/-- Six cells of a block, one after the other. -/
abbrev put6W (w : World) (B : Nat) (a0 a1 a2 a3 a4 a5 : Value) : World :=
  (((((w.setCell ⟨B, 0, none⟩ a0).setCell ⟨B, 1, none⟩ a1).setCell ⟨B, 2, none⟩ a2).setCell ⟨B, 3, none⟩ a3).setCell ⟨B, 4, none⟩ a4).setCell ⟨B, 5, none⟩ a5
theorem set6 {w : World} {B : Nat} {T : TypeId} {b0 b1 b2 b3 b4 b5 : Value} (h : w.heap[B]? = some (.cells #[b0, b1, b2, b3, b4, b5] T)) (a0 a1 a2 a3 a4 a5 : Value) :
    (put6W w B a0 a1 a2 a3 a4 a5).heap[B]? = some (.cells #[a0, a1, a2, a3, a4, a5] T) := by
  have h0 := heap_setCell_same w B 0 _ _ a0 h
  have h1 := heap_setCell_same _ B 1 _ _ a1 h0
  have h2 := heap_setCell_same _ B 2 _ _ a2 h1
  have h3 := heap_setCell_same _ B 3 _ _ a3 h2
  have h4 := heap_setCell_same _ B 4 _ _ a4 h3
  exact heap_setCell_same _ B 5 _ _ a5 h4
theorem keep1 {w wr : World} (h : Keep w wr) {g : Nat} (hg : w.heap.size ≤ g) (i : Nat) (x : Value) : Keep w (wr.setCell ⟨g, i, none⟩ x) :=
  h.grown (row := some g) ⟨rfl, rfl, rfl, by simp, fun k _ hk => heap_setCell_other wr ⟨g, i, none⟩ k x (fun e => hk (by simp [e]))⟩ (fun k hk => by simp at hk; omega)
theorem keep6 {w wr : World} (h : Keep w wr) (a0 a1 a2 a3 a4 a5 : Value) : Keep w (put6W wr w.heap.size a0 a1 a2 a3 a4 a5) :=
  keep1 (keep1 (keep1 (keep1 (keep1 (keep1 h (Nat.le_refl _) 0 a0) (Nat.le_refl _) 1 a1) (Nat.le_refl _) 2 a2) (Nat.le_refl _) 3 a3) (Nat.le_refl _) 4 a4) (Nat.le_refl _) 5 a5
theorem size6 (w : World) (B : Nat) (a0 a1 a2 a3 a4 a5 : Value) : (put6W w B a0 a1 a2 a3 a4 a5).heap.size = w.heap.size := by simp
set_option maxRecDepth 100000 in
set_option maxHeartbeats 1000000 in
theorem eventOf_rd (p : Int) (w : World) :
    Calls Try.prog 65 #[rdV p] w fun e w' => e = .returned (evA 0 0 true p 0 0) ∧ Keep w w' := by
  have hm := at_rd p
  have ha := as_rd p
  go_enter Try.func65, Try.ntmps65
  go_wp2_with fail
  refine (atRd_any _ _).mono ?_
  rintro e w1 ⟨rfl, k1⟩
  have hb := box_size k1
  have hh := box_heap k1
  have b0 := box_cell k1 0
  have b1 := box_cell k1 1
  have b2 := box_cell k1 2
  have b3 := box_cell k1 3
  have b4 := box_cell k1 4
  have b5 := box_cell k1 5
  have hfr := fun j => frozen_of_row w1 w.heap.size j _ _ (box_heap k1)
  have S := set6 hh (.int .i64 0) (.int .i64 0) (.bool true) (.int .i64 p) (.int .i64 0) (.int .i64 0)
  have K := keep6 (((Keep.refl w).alloc _).trans k1) (.int .i64 0) (.int .i64 0) (.bool true) (.int .i64 p) (.int .i64 0) (.int .i64 0)
  have Z := size6 w1 w.heap.size (.int .i64 0) (.int .i64 0) (.bool true) (.int .i64 p) (.int .i64 0) (.int .i64 0)
  go_wp2
  refine bodyPost_ret (results_row (by rfl) _ _ w.heap.size _ _ _ _ rfl (by rw [heap_at, if_neg (by rw [heap_size, Z]; omega), heap_at, if_neg (by rw [Z]; omega)]; exact S) Try.underlying69 rfl (by kernel_rfl)) rfl ?_
  exact ⟨rfl, (K.alloc _).alloc _⟩
set_option maxRecDepth 100000 in
set_option maxHeartbeats 1000000 in
theorem eventOf_wr (p v : Int) (w : World) :
    Calls Try.prog 65 #[wrV p v] w fun e w' => e = .returned (evA 0 0 false p v 0) ∧ Keep w w' := by
  have hm := at_wr p v
  have ha := as_wr p v
  have hc := as_wr2 p v
  go_enter Try.func65, Try.ntmps65
  go_wp2_with fail
  refine (atWr_any _ _ _).mono ?_
  rintro e w1 ⟨rfl, k1⟩
  have hb := box_size k1
  have hh := box_heap k1
  have b0 := box_cell k1 0
  have b1 := box_cell k1 1
  have b2 := box_cell k1 2
  have b3 := box_cell k1 3
  have b4 := box_cell k1 4
  have b5 := box_cell k1 5
  have hfr := fun j => frozen_of_row w1 w.heap.size j _ _ (box_heap k1)
  have S := set6 hh (.int .i64 0) (.int .i64 0) (.bool false) (.int .i64 p) (.int .i64 v) (.int .i64 0)
  have K := keep6 (((Keep.refl w).alloc _).trans k1) (.int .i64 0) (.int .i64 0) (.bool false) (.int .i64 p) (.int .i64 v) (.int .i64 0)
  have Z := size6 w1 w.heap.size (.int .i64 0) (.int .i64 0) (.bool false) (.int .i64 p) (.int .i64 v) (.int .i64 0)
  go_wp2
  refine bodyPost_ret (results_row (by rfl) _ _ w.heap.size _ _ _ _ rfl (by rw [heap_at, if_neg (by rw [heap_size, Z]; omega), heap_at, if_neg (by rw [Z]; omega)]; exact S) Try.underlying69 rfl (by kernel_rfl)) rfl ?_
  exact ⟨rfl, (K.alloc _).alloc _⟩
end Go.Proofs.Ytgolhjmbloiakab

/- A list of events that grows, beside blocks that stay as they are. -/
namespace Go.Proofs.Ytgolhjmbloiakab
open Go.ChangeShapes Go.WideShapes Go.ChangeAt Go.RowKit

/-- The list x has the events es; none of the blocks in P is its own, and each is as told. -/
structure LP (w0 wr : World) (x : Value) (es : List Ev) (P : List (Nat × Obj)) : Prop where
  app : AppE wr w0.heap.size x es
  keep : Keep w0 wr
  held : ∀ n o, (n, o) ∈ P → x.ownBlock ≠ some n ∧ wr.heap[n]? = some o
theorem LP.more {w0 wr wr' : World} {x : Value} {es : List Ev} {P : List (Nat × Obj)} (h : LP w0 wr x es P) (k : Keep wr wr') : LP w0 wr' x es P :=
  ⟨h.app.keep k, h.keep.trans k, fun n o hn => ⟨(h.held n o hn).1, (Below.block k n (Array.getElem?_eq_some_iff.1 (h.held n o hn).2).1).trans (h.held n o hn).2⟩⟩
theorem LP.add {w0 wr : World} {x : Value} {es : List Ev} {P : List (Nat × Obj)} (h : LP w0 wr x es P) (n : Nat) (o : Obj) (hx : x.ownBlock ≠ some n) (ho : wr.heap[n]? = some o) : LP w0 wr x es ((n, o) :: P) :=
  ⟨h.app, h.keep, fun m q hm => by
    rcases List.mem_cons.1 hm with e | e
    · injection e with e1 e2; subst e1 e2; exact ⟨hx, ho⟩
    · exact h.held m q e⟩
theorem LP.new {w0 wr : World} {x : Value} {es : List Ev} {P : List (Nat × Obj)} (h : LP w0 wr x es P) (o : Obj) : LP w0 (wr.alloc o) x es ((wr.heap.size, o) :: P) :=
  (h.more ((Keep.refl wr).alloc o)).add _ _ (fun e => by have := (h.app.lt _ e).2; omega) (heap_alloc_new wr o)
/-- A block that was made later than the list. -/
theorem LP.later {w0 wr wr' : World} {x : Value} {es : List Ev} {P : List (Nat × Obj)} (h : LP w0 wr x es P) (k : Keep wr wr') {B : Nat} {o : Obj} (hB : wr.heap.size ≤ B) (ho : wr'.heap[B]? = some o) : LP w0 wr' x es ((B, o) :: P) :=
  (h.more k).add _ _ (fun e => by have := (h.app.lt _ e).2; omega) ho
theorem LP.less {w0 wr : World} {x : Value} {es : List Ev} {P Q : List (Nat × Obj)} (h : LP w0 wr x es P) (hs : ∀ y, y ∈ Q → y ∈ P) : LP w0 wr x es Q :=
  ⟨h.app, h.keep, fun n o hn => h.held n o (hs _ hn)⟩
theorem LP.hit {w0 wr w' : World} {x v' : Value} {es : List Ev} {P : List (Nat × Obj)} (h : LP w0 wr x es P) (e : Ev)
    (ho : w'.ownsRow w0.heap.size 69 6 v' (es.length + 1) (es.flatMap cE ++ cE e)) (hg : wr.grownBy w' x.ownBlock) (hb : v'.ownBlock = x.ownBlock ∨ v'.ownBlock = some wr.heap.size) : LP w0 w' v' (es ++ [e]) P := by
  refine ⟨appT_hit ho, h.keep.grown hg h.app.ge, fun n o hn => ?_⟩
  obtain ⟨h1, h2⟩ := h.held n o hn
  have hlt := (Array.getElem?_eq_some_iff.1 h2).1
  refine ⟨fun e => ?_, (hg.block n hlt (fun e => h1 e.symm)).trans h2⟩
  rcases hb with hb | hb
  · exact h1 (hb ▸ e)
  · rw [hb] at e; have := Option.some.inj e; omega
theorem LP.lt {w0 wr : World} {x : Value} {es : List Ev} {P : List (Nat × Obj)} (h : LP w0 wr x es P) {n : Nat} {o : Obj} (hn : (n, o) ∈ P) : n < wr.heap.size := (Array.getElem?_eq_some_iff.1 (h.held n o hn).2).1
theorem LP.cell {w0 wr : World} {x : Value} {es : List Ev} {P : List (Nat × Obj)} (h : LP w0 wr x es P) {n : Nat} {cs : Array Value} {t : TypeId} (hn : (n, .cells cs t) ∈ P) (i : Nat) : wr.cell? ⟨n, i, none⟩ = cs[i]? :=
  cell_of_row wr n i cs t (0, 0) (h.held n _ hn).2
theorem app_base {w : World} {base base' : Nat} {v : Value} {es : List Ev} (h : AppE w base v es) (hb : base' ≤ base) : AppE w base' v es := by
  refine ⟨h.1, ?_⟩
  rcases h.2 with h | ⟨g, cap, cur, hv, hg, rest⟩
  · exact .inl h
  · exact .inr ⟨g, cap, cur, hv, Nat.le_trans hb hg, rest⟩
abbrev eO (i k : Int) (r : Bool) (p v c : Int) : Obj := .cells #[.int .i64 i, .int .i64 k, .bool r, .int .i64 p, .int .i64 v, .int .i64 c] 69
theorem cE_oneP (e : Ev) : ∀ u ∈ cE e, u.oneCell' = true := by
  intro u hu
  simp only [cE, List.mem_cons, List.not_mem_nil, or_false] at hu
  rcases hu with rfl | rfl | rfl | rfl | rfl | rfl <;> rfl
theorem cE_newP (w : World) (n : Nat) (hn : w.heap.size = n) (i q : Int) (r : Bool) (pl vl c : Int) : ∀ j u, (cE (i, q, r, pl, vl, c))[j]? = some u → (w.alloc (eO i q r pl vl c)).cell? ((⟨n, 0, none⟩ : Addr).add j) = some u := by
  subst hn
  intro j u hj
  match j, hj with
  | 0, hj => simp [cE] at hj; subst hj; simp [Addr.add]
  | 1, hj => simp [cE] at hj; subst hj; simp [Addr.add]
  | 2, hj => simp [cE] at hj; subst hj; simp [Addr.add]
  | 3, hj => simp [cE] at hj; subst hj; simp [Addr.add]
  | 4, hj => simp [cE] at hj; subst hj; simp [Addr.add]
  | 5, hj => simp [cE] at hj; subst hj; simp [Addr.add]
end Go.Proofs.Ytgolhjmbloiakab

/- Contract of the program's beginnings: the three events that were there ahead of all work. -/
namespace Go.Proofs.Ytgolhjmbloiakab
open Go.ChangeShapes Go.WideShapes Go.ChangeAt Go.RowKit

set_option maxRecDepth 100000 in
set_option maxHeartbeats 2000000 in
theorem beginnings_any (w : World) :
    Calls Try.prog 61 #[] w fun e w' => ∃ v', e = .returned v' ∧ AppE w' w.heap.size v' evBeg ∧ Keep w w' := by
  obtain ⟨j0, hj, hy0, hy1, hy2⟩ := info_parts Try.infoE
  have A0 : AppE (w.alloc (.cells #[] 69)) w.heap.size (.slice (some ⟨w.heap.size, 0, none⟩) 0 0) [] := appT_empty w
  go_enter Try.func61, Try.ntmps61
  go_wp2
  go_loopw [1, 5] (fun v i wr => ∃ k : Nat, ∃ m : Int, ∃ es : List Ev, k ≤ 3 ∧ i = .int .i64 m ∧ m = (k : Int) ∧ Hid (es = evBeg.take k) ∧ es.length ≤ k ∧ LP w wr v es []) (fun _ i _ => 3 - (intOf i).toNat)
  case atStart => exact ⟨0, 0, [], Nat.zero_le _, rfl, rfl, Lib.hid rfl, Nat.le_refl _, A0, (Keep.refl _).alloc _, by simp⟩
  case round =>
    obtain ⟨k, m, es, hk, rfl, hm, hE, hel, hL⟩ := hrel
    clear A0
    by_cases hlt : k < 3
    · subst hm
      have HM : Hid (es ++ [((-1 : Int), (-1 : Int), false, (k : Int), 0, (k : Int))] = evBeg.take (k + 1)) := Lib.hid (by
        rw [hE.out]
        have : k = 0 ∨ k = 1 ∨ k = 2 := by omega
        rcases this with rfl | rfl | rfl <;> rfl)
      clear hE
      go_wp2_with fail
      refine (eventOf_wr _ _ _).mono ?_
      rintro e w2 ⟨rfl, k2⟩
      have L2 := hL.more k2
      have hsz := L2.keep.size
      have L3 := (L2.more ((Keep.refl w2).alloc (eO (-1) (-1) false k 0 k))).more ((Keep.refl _).alloc (eO (-1) (-1) false k 0 k))
      go_wp2_with (at_builtin; refine wpList_append_own_at _ rfl _ _ 49 rfl w.heap.size 69 j0 (.agg #[.int .i64 0, .int .i64 0, .bool false, .int .i64 0, .int .i64 0, .int .i64 0]) 6 48 Try.underlying49 hj hy0 hy1 hy2 rfl (by decide) _ _ _ rfl L3.app ⟨_, 0, none⟩ 1 1 (cE ((-1 : Int), (-1 : Int), false, (k : Int), 0, (k : Int))) rfl rfl ?c1 ?c2 ?c3 ?c4 ?c5 ?_)
      case c1 => exact cE_newP _ _ (heap_size _ _) _ _ _ _ _ _
      case c2 => exact cE_oneP _
      case c3 => unfold maxLen; omega
      case c4 => omega
      case c5 => simp; omega
      intro v' w1 hown' hgrow _ hblk
      have L4 := L3.hit _ hown' hgrow (by rw [heap_size, heap_size]; exact hblk)
      clear hgrow hown' hblk L3 L2 hL
      go_wp2
      go_roundw
      case rel => exact ⟨k + 1, _, _, by omega, rfl, by omega, HM, by simp; omega, L4⟩
      case measure => simp [intOf]; omega
    obtain rfl : m = 3 := by omega
    have HB : Hid (es = evBeg) := Lib.hid (by rw [hE.out, show k = 3 by omega]; rfl)
    clear hE hm
    go_wp2
    go_ret
    exact ⟨_, rfl, by rw [← HB.out]; exact hL.app, hL.keep⟩
end Go.Proofs.Ytgolhjmbloiakab

/- Plain mathematics of events as the program lists them: a deed of the Group of the deed ahead has the class of the last event. Of a right work that is what the specification lists. -/
namespace Go.Proofs.Ytgolhjmbloiakab

/-- Does the deed k go on with the Group of the deed ahead? -/
def goB (ds : List Dd) (k : Nat) : Bool := decide (0 < k) && ((ds.getD k zD).2.2.2 != 0) && ((ds.getD k zD).2.2.2 == (ds.getD (k - 1) zD).2.2.2)
def lastC (out : List Ev) : Int := csE (out.getD (out.length - 1) zE)
def ncE (out : List Ev) (go : Bool) : Int := if go = true then lastC out else (out.length : Int)
def clkP (i : Nat) (ds : List Dd) (out : List Ev) : Nat → List Ev
  | 0 => out
  | k + 1 => clkP i ds out k ++ oneE i k (ds.getD k zD) (ncE (clkP i ds out k) (goB ds k))
def evsP (dss : List (List Dd)) : Nat → List Ev
  | 0 => evBeg
  | i + 1 => clkP i (dss.getD i []) (evsP dss i) (dss.getD i []).length
/-- Deeds of one Group stand side by side. -/
def Tog (ds : List Dd) : Prop := ∀ k j, k < ds.length → j < k → (ds.getD k zD).2.2.2 ≠ 0 → (ds.getD j zD).2.2.2 = (ds.getD k zD).2.2.2 → (ds.getD (k - 1) zD).2.2.2 = (ds.getD k zD).2.2.2
theorem grpK_own {i : Nat} {own : List Int} {ds : List Dd} (hl : own.length = 10) : ∀ (k : Nat) (o : List Int), grpK i own ds k = some o → (∀ j, j < k → okD (ds.getD j zD) = true) →
    ∀ j, j < k → (ds.getD j zD).2.2.2 ≠ 0 → o.getD (ds.getD j zD).2.2.2.toNat 0 = (i : Int) + 1
  | 0, o, h, _, j, hj, _ => by omega
  | k + 1, o', h, hok, j, hj, h0 => by
    rw [grpK] at h
    cases hq : grpK i own ds k with
    | none => rw [hq] at h; cases h
    | some o =>
      rw [hq] at h
      have ih := grpK_own hl k o hq (fun j hj => hok j (by omega))
      have hol := grpK_len hq
      simp only at h
      have okj := okD_restE (hok j hj)
      split at h
      · rename_i hz
        simp only [Option.some.injEq] at h
        subst h
        by_cases e : j = k
        · subst e; exact absurd hz h0
        · exact ih j (by omega) h0
      · rename_i hz
        split at h
        · cases h
        · simp only [Option.some.injEq] at h
          subst h
          have okk := okD_restE (hok k (by omega))
          rw [getD_setE o _ _ _ (by omega)]
          by_cases e : (ds.getD k zD).2.2.2.toNat = (ds.getD j zD).2.2.2.toNat
          · rw [if_pos e]
          · rw [if_neg e]
            by_cases e2 : j = k
            · subst e2; exact absurd rfl e
            · exact ih j (by omega) h0
theorem grpK_tog {i : Nat} {own : List Int} {ds : List Dd} (hl : own.length = 10) {o : List Int} (h : grpK i own ds ds.length = some o) (hok : ∀ j, j < ds.length → okD (ds.getD j zD) = true) : Tog ds := by
  intro k j hk hj h0 he
  have step : ∃ o', grpK i own ds (k + 1) = some o' := by
    cases hq : grpK i own ds (k + 1) with
    | none => rw [grpK_none hq ds.length (by omega)] at h; cases h
    | some o' => exact ⟨o', rfl⟩
  obtain ⟨o', ho'⟩ := step
  rw [grpK] at ho'
  cases hq : grpK i own ds k with
  | none => rw [hq] at ho'; cases ho'
  | some o1 =>
    rw [hq] at ho'
    have hown := grpK_own hl k o1 hq (fun j hj => hok j (by omega)) j hj (by rw [he]; exact h0)
    rw [he] at hown
    simp only at ho'
    rw [if_neg h0] at ho'
    split at ho'
    · cases ho'
    · rename_i hn
      apply Classical.byContradiction
      intro hc
      exact hn ⟨by rw [hown]; omega, .inr (.inr hc)⟩
theorem work_tog {dss : List (List Dd)} (hb : workB dss = true) : ∀ i, i < dss.length → Tog (dss.getD i []) := by
  intro i hi
  simp only [workB, Bool.and_eq_true, decide_eq_true_eq] at hb
  obtain ⟨⟨⟨⟨_, h2⟩, _⟩, _⟩, hg⟩ := hb
  have hok := all_get [] h2 i hi
  simp only [okL, Bool.and_eq_true, decide_eq_true_eq] at hok
  have hs : ∀ n, n ≤ dss.length → ∃ o, grpW dss n = some o := by
    intro n hn
    cases hq : grpW dss n with
    | none => rw [grpB, grpW_none hq dss.length hn] at hg; cases hg
    | some o => exact ⟨o, rfl⟩
  obtain ⟨o, ho⟩ := hs i (by omega)
  obtain ⟨o', ho'⟩ := hs (i + 1) (by omega)
  rw [grpW, ho] at ho'
  exact grpK_tog (grpW_len ho) ho' (fun j hj => all_get zD hok.1 j hj)
theorem last_snoc (out t : List Ev) (e : Ev) : lastC (out ++ (t ++ [e])) = csE e := by
  unfold lastC
  rw [← List.append_assoc, List.length_append, List.getD_eq_getElem?_getD]
  simp
theorem clkP_same {i : Nat} {ds : List Dd} {out : List Ev} (ht : Tog ds) (hok : ∀ j, j < ds.length → okD (ds.getD j zD) = true) (ho : 1 ≤ out.length) :
    ∀ k : Nat, k ≤ ds.length → clkP i ds out k = (clkE i ds out k).1 ∧ (clkE i ds out k).2.length = 10 ∧ 1 ≤ (clkE i ds out k).1.length ∧
      (∀ g : Nat, 0 < g → g < 10 → (∀ j, j < k → (ds.getD j zD).2.2.2 ≠ (g : Int)) → (clkE i ds out k).2.getD g 0 = 0) ∧
      (∀ j, j < k → (ds.getD j zD).2.2.2 ≠ 0 → (clkE i ds out k).2.getD (ds.getD j zD).2.2.2.toNat 0 ≠ 0) ∧
      (0 < k → (ds.getD (k - 1) zD).2.2.2 ≠ 0 → (clkE i ds out k).2.getD (ds.getD (k - 1) zD).2.2.2.toNat 0 = lastC (clkE i ds out k).1)
  | 0, _ => ⟨rfl, by simp [clkE], ho, fun g _ hg _ => by simp only [clkE]; rw [List.getD_eq_getElem?_getD, List.getElem?_replicate, if_pos hg]; rfl, fun j hj => by omega, fun h => by omega⟩
  | k + 1, hk => by
    obtain ⟨h1, h2, h3, h4, h5, h6⟩ := clkP_same ht hok ho k (by omega)
    have hd := hok k (by omega)
    obtain ⟨r0, r1, r2, r3, r4⟩ := okD_restE hd
    have hkd := okD_kindE hd
    rw [clkP, clkE, h1, Nat.add_sub_cancel]
    generalize hS : clkE i ds out k = S at h2 h3 h4 h5 h6
    obtain ⟨L, f⟩ := S
    simp only at h2 h3 h4 h5 h6
    generalize hdd : ds.getD k zD = d at hd r0 r1 r2 r3 r4 hkd
    have hg : goB ds k = (decide (0 < k) && (d.2.2.2 != 0) && (d.2.2.2 == (ds.getD (k - 1) zD).2.2.2)) := by rw [goB, hdd]
    -- deeds ahead that have Group 0 or not
    have old5 : ∀ j, j < k → (ds.getD j zD).2.2.2 ≠ 0 → (ds.getD j zD).2.2.2.toNat < 10 := fun j hj _ => by
      have := okD_restE (hok j (by omega)); omega
    by_cases h4k : d.1 = 4
    · have g0 : d.2.2.2 = 0 := r4 (by omega)
      have e1 : oneE i k d (ncE L (goB ds k)) = [] := by unfold oneE; rw [if_pos h4k]
      rw [stepE, if_pos h4k, e1, List.append_nil]
      refine ⟨rfl, h2, h3, fun g hg0 hg10 hn => h4 g hg0 hg10 (fun j hj => hn j (by omega)), fun j hj hne => ?_, fun _ hne => absurd g0 hne⟩
      by_cases e : j = k
      · subst e; rw [hdd] at hne; exact absurd g0 hne
      · exact h5 j (by omega) hne
    · rw [stepE, if_neg h4k]
      by_cases g0 : d.2.2.2 = 0
      · have e1 : ncE L (goB ds k) = clsE d.2.2.2 L.length f := by
          rw [hg, g0]
          simp [ncE, clsE]
        have e2 : fstE d.2.2.2 L.length f = f := by unfold fstE; rw [if_neg (by rw [g0]; omega)]
        rw [e1]
        simp only
        rw [e2]
        refine ⟨by trivial, h2, by rw [List.length_append]; omega, fun g hg0 hg10 hn => h4 g hg0 hg10 (fun j hj => hn j (by omega)), fun j hj hne => ?_, fun _ hne => absurd g0 hne⟩
        by_cases e : j = k
        · subst e; rw [hdd] at hne; exact absurd g0 hne
        · exact h5 j (by omega) hne
      · have gp : (0 : Int) < d.2.2.2 := by omega
        have k2 : d.1 = 1 ∨ d.1 = 2 := by
          apply Classical.byContradiction
          intro hn
          exact g0 (r4 (by omega))
        have one : ∀ c, ∃ e, oneE i k d c = [e] ∧ csE e = c := by
          intro c
          unfold oneE
          rcases k2 with e | e
          · exact ⟨_, by rw [if_neg h4k, if_neg (by omega), if_neg (by omega)], rfl⟩
          · exact ⟨_, by rw [if_neg h4k, if_neg (by omega), if_pos e], rfl⟩
        have fin : ∀ c, lastC (L ++ oneE i k d c) = c := fun c => by
          obtain ⟨e, he, hc⟩ := one c
          rw [he, ← hc]
          exact last_snoc L [] e
        by_cases hgo : 0 < k ∧ (ds.getD (k - 1) zD).2.2.2 = d.2.2.2
        · obtain ⟨k0, hgo⟩ := hgo
          have e0 : goB ds k = true := by rw [hg, hgo]; simp [k0, g0]
          have f0 : f.getD d.2.2.2.toNat 0 ≠ 0 := by have := h5 (k - 1) (by omega) (by rw [hgo]; exact g0); rw [hgo] at this; exact this
          have f1 : f.getD d.2.2.2.toNat 0 = lastC L := by have := h6 k0 (by rw [hgo]; exact g0); rw [hgo] at this; exact this
          have e2 : fstE d.2.2.2 L.length f = f := by unfold fstE; rw [if_neg (fun h => f0 h.2)]
          have e1 : ncE L (goB ds k) = clsE d.2.2.2 L.length f := by
            rw [e0]
            unfold ncE clsE
            rw [if_pos rfl, if_pos gp, e2, f1]
          have e3 : clsE d.2.2.2 L.length f = f.getD d.2.2.2.toNat 0 := by unfold clsE; rw [if_pos gp, e2]
          rw [e1]
          simp only
          rw [e2]
          refine ⟨by trivial, h2, by rw [List.length_append]; omega, fun g hg0 hg10 hn => h4 g hg0 hg10 (fun j hj => hn j (by omega)), fun j hj hne => ?_, fun _ _ => ?_⟩
          · by_cases e : j = k
            · subst e; rw [hdd]; exact f0
            · exact h5 j (by omega) hne
          · rw [fin, e3]
        · have none : ∀ j, j < k → (ds.getD j zD).2.2.2 ≠ d.2.2.2 := by
            intro j hj he
            refine hgo ⟨by omega, ?_⟩
            have := ht k j (by omega) hj (by rw [hdd]; exact g0) (by rw [hdd]; exact he)
            rw [hdd] at this
            exact this
          obtain ⟨g, hgg⟩ := Int.eq_ofNat_of_zero_le r2
          have g10 : g < 10 := by omega
          have f0 : f.getD d.2.2.2.toNat 0 = 0 := by
            rw [hgg, Int.toNat_natCast]
            exact h4 g (by omega) g10 (fun j hj => by rw [← hgg]; exact none j hj)
          have e0 : goB ds k = false := by
            rw [hg]
            by_cases k0 : 0 < k
            · have : ¬ (d.2.2.2 = (ds.getD (k - 1) zD).2.2.2) := fun e => hgo ⟨k0, e.symm⟩
              have e : (d.2.2.2 == (ds.getD (k - 1) zD).2.2.2) = false := by simpa using this
              rw [e, Bool.and_false]
            · simp [k0]
          have e2 : fstE d.2.2.2 L.length f = f.set d.2.2.2.toNat (L.length : Int) := by unfold fstE; rw [if_pos ⟨gp, f0⟩]
          have e3 : clsE d.2.2.2 L.length f = (L.length : Int) := by
            unfold clsE
            rw [if_pos gp, e2, getD_setE f _ _ _ (by omega), if_pos rfl]
          have e1 : ncE L (goB ds k) = clsE d.2.2.2 L.length f := by rw [e0, e3]; simp [ncE]
          rw [e1]
          simp only
          rw [e2]
          refine ⟨by trivial, by rw [List.length_set]; exact h2, by rw [List.length_append]; omega, fun q hq0 hq10 hn => ?_, fun j hj hne => ?_, fun _ _ => ?_⟩
          · have hqk := hn k (by omega)
            rw [hdd] at hqk
            rw [getD_setE f _ _ _ (by omega), if_neg (by omega)]
            exact h4 q hq0 hq10 (fun j hj => hn j (by omega))
          · by_cases e : j = k
            · subst e
              rw [hdd, getD_setE f _ _ _ (by omega), if_pos rfl]
              omega
            · have nj := none j (by omega)
              have okj := okD_restE (hok j (by omega))
              rw [getD_setE f _ _ _ (by omega), if_neg (by omega)]
              exact h5 j (by omega) hne
          · rw [fin, e3, getD_setE f _ _ _ (by omega), if_pos rfl]
theorem evsP_same {dss : List (List Dd)} (hb : workB dss = true) : ∀ n : Nat, n ≤ dss.length → evsP dss n = evsW dss n ∧ 1 ≤ (evsW dss n).length
  | 0, _ => ⟨rfl, by simp [evsW, evBeg]⟩
  | n + 1, h => by
    obtain ⟨h1, h2⟩ := evsP_same hb n (by omega)
    have ht := work_tog hb n (by omega)
    simp only [workB, Bool.and_eq_true, decide_eq_true_eq] at hb
    obtain ⟨⟨⟨⟨_, ha⟩, _⟩, _⟩, _⟩ := hb
    have hok := all_get [] ha n (by omega)
    simp only [okL, Bool.and_eq_true, decide_eq_true_eq] at hok
    obtain ⟨q1, _, q3, _⟩ := clkP_same (i := n) ht (fun j hj => all_get zD hok.1 j hj) h2 (dss.getD n []).length (Nat.le_refl _)
    rw [evsP, evsW, h1, q1]
    exact ⟨rfl, q3⟩
end Go.Proofs.Ytgolhjmbloiakab

/- Contracts of the program's shapesOf, goesOn, nextClass. -/
namespace Go.Proofs.Ytgolhjmbloiakab
open Go.ChangeShapes Go.WideShapes Go.ChangeAt Go.RowKit

/-- What shapesOf hands back: a new row of these values. -/
def Shp (w w' : World) (e : Ending) (vs : Array Value) : Prop :=
  ∃ B, e = .returned (.slice (some ⟨B, 0, none⟩) vs.size vs.size) ∧ w'.heap[B]? = some (.cells vs 87) ∧ w.heap.size ≤ B ∧ Keep w w'
set_option maxHeartbeats 1000000 in
theorem shapes_rd (p v g : Int) (w : World) : Calls Try.prog 64 #[deedV 1 p v g] w fun e w' => Shp w w' e #[rdV p] := by
  go_enter Try.func64, Try.ntmps64
  go_wp2
  go_ret
  exact ⟨w.heap.size + 1, rfl, by rw [heap_at, if_pos (heap_size w _).symm], by omega, ((Keep.refl w).alloc _).alloc _⟩
set_option maxHeartbeats 1000000 in
theorem shapes_wr (p v g : Int) (w : World) : Calls Try.prog 64 #[deedV 2 p v g] w fun e w' => Shp w w' e #[wrV p v] := by
  go_enter Try.func64, Try.ntmps64
  go_wp2
  go_ret
  exact ⟨w.heap.size + 1, rfl, by rw [heap_at, if_pos (heap_size w _).symm], by omega, ((Keep.refl w).alloc _).alloc _⟩
set_option maxHeartbeats 1000000 in
theorem shapes_sw (p v g : Int) (w : World) : Calls Try.prog 64 #[deedV 3 p v g] w fun e w' => Shp w w' e #[rdV p, wrV p v] := by
  go_enter Try.func64, Try.ntmps64
  go_wp2
  go_ret
  exact ⟨w.heap.size + 1, rfl, by rw [heap_at, if_pos (heap_size w _).symm], by omega, ((Keep.refl w).alloc _).alloc _⟩
set_option maxHeartbeats 1000000 in
theorem shapes_wa (p v g : Int) (w : World) : Calls Try.prog 64 #[deedV 4 p v g] w fun e w' => Shp w w' e #[] := by
  go_enter Try.func64, Try.ntmps64
  go_wp2
  go_ret
  exact ⟨w.heap.size + 1, rfl, by rw [heap_at, if_pos (heap_size w _).symm], by omega, ((Keep.refl w).alloc _).alloc _⟩
set_option maxRecDepth 100000 in
set_option maxHeartbeats 2000000 in
theorem goesOn_any (w : World) (v : Value) (ds : List Dd) (h : RdD w v ds) (k : Nat) (hk : k < ds.length) (hx : ds.length ≤ 1048576) :
    Calls Try.prog 63 #[v, .int .i64 k] w fun e w' => e = .returned (.bool (goB ds k)) ∧ Keep w w' := by
  obtain ⟨a, c, rfl, h⟩ := h
  rcases h with h | ⟨b, o, rfl, hb, hc⟩
  · exfalso; rw [h] at hk; simp at hk
  have A3 := (hc k hk).2.2.2
  have i1 : (0 : Int) ≤ (k : Int) := Int.natCast_nonneg _
  have i2 : (k : Int) < (ds.length : Int) := by omega
  have HP : Hid (goB ds k = (decide (0 < k) && ((ds.getD k zD).2.2.2 != 0) && ((ds.getD k zD).2.2.2 == (ds.getD (k - 1) zD).2.2.2))) := Lib.hid rfl
  by_cases h0 : k = 0
  · have HT : Hid (goB ds k = false) := Lib.hid (by rw [HP.out]; simp [h0])
    have d0 : decide (0 < k) = false := by simp [h0]
    generalize (ds.getD k zD).2.2.2 = x3 at A3
    clear HP hc h0
    go_enter Try.func63, Try.ntmps63
    go_wp2
    go_quiet (fail)
    go_wp2
    go_ret
    exact ⟨by rw [HT.out]; rfl, (Keep.refl w).drewN _⟩
  · obtain ⟨r, rfl⟩ : ∃ r : Nat, k = r + 1 := ⟨k - 1, by omega⟩
    rw [Nat.add_sub_cancel] at HP
    have B3 := (hc r (by omega)).2.2.2
    clear hc h0
    have j1 : (0 : Int) ≤ (r : Int) := Int.natCast_nonneg _
    have j2 : (r : Int) < (ds.length : Int) := by omega
    have d2 : (r : Int) + 1 < (ds.length : Int) := by omega
    have d6 : (0 : Int) ≤ (r : Int) + 1 := by omega
    have d3 : IntKind.i64.wrap (r : Int) = (r : Int) := by rw [IntKind.wrap_i64]; omega
    have d4 : wrap64 (r : Int) = (r : Int) := wrap64_small _ (by omega) (by omega)
    generalize (ds.getD (r + 1) zD).2.2.2 = x3 at A3 HP
    generalize (ds.getD r zD).2.2.2 = y3 at B3 HP
    by_cases e0 : x3 = 0
    · have HT : Hid (goB ds (r + 1) = false) := Lib.hid (by rw [HP.out]; simp [e0])
      have q0 : (x3 != 0) = false := by simp [e0]
      clear HP e0
      go_enter Try.func63, Try.ntmps63
      go_wp2
      go_quiet (fail)
      go_wp2
      go_ret
      exact ⟨by rw [HT.out]; rfl, (Keep.refl w).drewN _⟩
    · have q0 : (x3 != 0) = true := by simp [e0]
      have q1 : (decide (0 < r + 1)) = true := by simp
      have HT : Hid (goB ds (r + 1) = (x3 == y3)) := Lib.hid (by rw [HP.out, q0, q1]; simp)
      clear HP e0 q1
      go_enter Try.func63, Try.ntmps63
      go_wp2
      go_quiet (fail)
      go_wp2
      go_ret
      exact ⟨by rw [HT.out]; rfl, (Keep.refl w).drewN _⟩
set_option maxHeartbeats 1000000 in
theorem nextClass_any (w : World) (v : Value) (es : List Ev) (h : RdE w v es) (hx : es.length ≤ 1048576) (h1 : 1 ≤ es.length) (go : Bool) :
    Calls Try.prog 62 #[v, .bool go] w fun e w' => e = .returned (.int .i64 (ncE es go)) ∧ Keep w w' := by
  obtain ⟨a, c, rfl, h⟩ := h
  rcases h with h | ⟨b, o, rfl, hb, hc⟩
  · exfalso; rw [h] at h1; simp at h1
  cases go
  · have HT : Hid (ncE es false = (es.length : Int)) := Lib.hid (by simp [ncE])
    go_enter Try.func62, Try.ntmps62
    go_wp2
    go_ret
    exact ⟨by rw [HT.out]; rfl, Keep.refl w⟩
  · obtain ⟨m, hm⟩ : ∃ m, es.length = m + 1 := ⟨es.length - 1, by omega⟩
    have AT := hc m _ (evs_get (by omega))
    have HT : Hid (ncE es true = csE (es.getD m zE)) := Lib.hid (by simp [ncE, lastC, hm])
    generalize es.getD m zE = e at AT HT
    obtain ⟨x0, x1, x2, x3, x4, x5⟩ := e
    obtain ⟨-, -, -, -, -, A5⟩ := atE AT
    clear AT hc
    rw [hm]
    have j1 : (0 : Int) ≤ (m : Int) := Int.natCast_nonneg _
    have d3 : IntKind.i64.wrap (m : Int) = (m : Int) := by rw [IntKind.wrap_i64]; omega
    have d4 : wrap64 (m : Int) = (m : Int) := wrap64_small _ (by omega) (by omega)
    clear hm
    go_enter Try.func62, Try.ntmps62
    go_wp2
    go_ret
    exact ⟨by rw [HT.out]; rfl, Keep.refl w⟩
end Go.Proofs.Ytgolhjmbloiakab

/- Contract of the program's EventsOf: the events of a right work, in order; of all else nothing. (Written by mkevi.py.) -/
namespace Go.Proofs.Ytgolhjmbloiakab
open Go.ChangeShapes Go.WideShapes Go.ChangeAt Go.RowKit

theorem workB_useE {dss : List (List Dd)} (h : workB dss = true) : 1 ≤ dss.length ∧ dss.length ≤ 3 ∧ ∀ i, i < dss.length → okL (dss.getD i []) = true := by
  simp only [workB, Bool.and_eq_true, decide_eq_true_eq] at h
  obtain ⟨⟨⟨⟨h1, h2⟩, _⟩, _⟩, _⟩ := h
  exact ⟨h1.1, h1.2, fun i hi => all_get [] h2 i hi⟩
abbrev cO (v : Value) (t : Int) : Obj := .cells #[v, .int .i64 t] 77
abbrev dO (k p v g : Int) : Obj := .cells #[.int .i64 k, .int .i64 p, .int .i64 v, .int .i64 g] 56
set_option maxRecDepth 100000 in
set_option maxHeartbeats 8000000 in
theorem implEventsOf_any (w : World) (v : Value) (dss : List (List Dd)) (h : RdW w v dss) (hx : dss.length ≤ 1048576) (hm : ∀ i, i < dss.length → (dss.getD i []).length ≤ 1048576) :
    Calls Try.prog 41 #[v] w fun e w' => ∃ v', e = .returned v' ∧ AppE w' w.heap.size v' (eventsB dss) ∧ Keep w w' := by
  cases hb : workB dss
  · have HE : Hid (eventsB dss = []) := Lib.hid (by rw [eventsB, hb]; rfl)
    have O : ∀ w1 : World, Keep w w1 → AppE (w1.alloc (.cells #[] 69)) w.heap.size (.slice (some ⟨w1.heap.size, 0, none⟩) 0 0) [] := fun w1 k1 => World.ownsRow_lit w1 #[] 0 k1.size (by decide) (by simp)
    go_enter Try.func41, Try.ntmps41
    go_wp2_with fail
    refine (implWorkOk_any _ _ _ h hx hm).mono ?_
    rintro e w1 ⟨rfl, k1⟩
    go_wp2
    go_ret
    exact ⟨_, rfl, by rw [HE.out]; exact O w1 k1, k1.alloc _⟩
  · obtain ⟨h1, h3, u2⟩ := workB_useE hb
    have HE : Hid (eventsB dss = evsP dss dss.length) := Lib.hid (by rw [eventsB, if_pos hb, (evsP_same hb dss.length (Nat.le_refl _)).1])
    obtain ⟨j0, hj, hy0, hy1, hy2⟩ := info_parts Try.infoE
    go_enter Try.func41, Try.ntmps41
    go_wp2_with fail
    refine (implWorkOk_any _ _ _ h hx hm).mono ?_
    rintro e w0 ⟨rfl, k0⟩
    go_wp2_with fail
    refine (beginnings_any _).mono ?_
    rintro e w1 ⟨x1, rfl, a1, k1⟩
    go_wp2_with fail
    refine (clerksOf_at w _ (k0.trans k1) _ _ h h1 h3 hm).mono ?_
    rintro e w2 ⟨v2, rfl, rc, k2⟩
    have K01 : Keep w0 w2 := k1.trans k2
    have hsz0 := k0.size
    clear hb h hm hx
    obtain ⟨b, c1, V, rfl, hbl, hbu, hc⟩ := rc
    have HR : ∀ i, i < dss.length → RdD w (V i) (dss.getD i []) := fun i hi => (hc i hi).1
    obtain ⟨ob, hob⟩ : ∃ ob, w2.heap[b]? = some ob := ⟨_, Array.getElem?_eq_getElem hbu⟩
    have HC : ∀ wq : World, wq.heap[b]? = some ob → ∀ i, i < dss.length → wq.cell? ⟨b, i * 2, none⟩ = some (V i) ∧ wq.cell? ⟨b, i * 2 + 1, none⟩ = some (.int .i64 (takW dss i)) := fun wq hq i hi => by
      have e : wq.heap[b]? = w2.heap[b]? := hq.trans hob.symm
      have f : ∀ j, wq.cell? ⟨b, j, none⟩ = w2.cell? ⟨b, j, none⟩ := fun j => by simp only [World.cell?, e]
      exact ⟨(f _).trans (hc i hi).2.1, (f _).trans (hc i hi).2.2⟩
    clear hc
    have L0 : LP w0 w2 x1 evBeg [(b, ob)] := LP.add ⟨a1.keep k2, K01, by simp⟩ b ob (fun e => by have := (a1.lt _ e).2; omega) hob
    clear a1 hob hbl
    go_wp2
    go_loopw [3, 20] (fun x i wr => ∃ k : Nat, ∃ es : List Ev, k ≤ dss.length ∧ i = .int .i64 k ∧ Hid (es = evsP dss k) ∧ 1 ≤ es.length ∧ es.length ≤ 3 + 10 * k ∧ LP w0 wr x es [(b, ob)]) (fun _ i _ => dss.length - (intOf i).toNat)
    case atStart => exact ⟨0, evBeg, Nat.zero_le _, rfl, Lib.hid rfl, by decide, by decide, L0⟩
    case round =>
      clear L0 K01 k2 hbu
      obtain ⟨k, es, hk, rfl, hE, he1, hel, hL⟩ := hrel
      by_cases hlt : k < dss.length
      · have r1 := HR k hlt
        have hKw : Keep w wr := k0.trans hL.keep
        obtain ⟨d1, d2⟩ := HC wr (hL.held b ob (by simp)).2 k hlt
        have hbw := hL.lt (n := b) (o := ob) (by simp)
        have okk := u2 k hlt
        have HV : Hid (evsP dss (k + 1) = clkP k (dss.getD k []) es (dss.getD k []).length) := Lib.hid (by rw [evsP, hE.out])
        obtain ⟨ds, hds⟩ : ∃ ds, ds = dss.getD k [] := ⟨_, rfl⟩
        rw [← hds] at r1 okk HV
        clear hds
        generalize takW dss k = t at d2
        obtain ⟨u, hu⟩ : ∃ u, u = V k := ⟨_, rfl⟩
        rw [← hu] at d1 r1
        clear hu
        have R1 := r1
        obtain ⟨ai, ci, rfl, r1⟩ := r1
        have hl5 : ds.length ≤ 5 := by simp [okL] at okk; omega
        have i1 : (0 : Int) ≤ (k : Int) := Int.natCast_nonneg _
        have i2 : (k : Int) < (dss.length : Int) := by omega
        obtain ⟨wo, hwo⟩ : ∃ wo : World, wo = wr := ⟨_, rfl⟩
        subst hwo
        have L1 := hL.new (cO (.slice ai ds.length (ds.length + ci)) t)
        go_wp2
        go_loopw [3, 28] (fun x i wq => ∃ q : Nat, ∃ evs : List Ev, q ≤ ds.length ∧ i = .int .i64 q ∧ Hid (evs = clkP k ds es q) ∧ 1 ≤ evs.length ∧ evs.length ≤ 3 + 10 * k + 2 * q ∧ LP w0 wq x evs [(wo.heap.size, cO (.slice ai ds.length (ds.length + ci)) t), (b, ob)]) (fun _ i _ => ds.length - (intOf i).toNat)
        case atStart => exact ⟨0, es, Nat.zero_le _, rfl, Lib.hid rfl, he1, by omega, L1⟩
        case round =>
          clear L1 d1 d2
          obtain ⟨q, evs, hq, rfl, hC, hv1, hev, hI⟩ := hrel
          by_cases hlq : q < ds.length
          · have hKq : Keep w wr := k0.trans hI.keep
            have R2 := R1.keep hKq
            rcases r1 with h | ⟨b2, o2, rfl, hb2, hc2⟩
            · exfalso; rw [h] at hlq; simp at hlq
            have AT := (hc2 q hlq).keep hb2 hKq
            have okq : okD (ds.getD q zD) = true := by
              simp only [okL, Bool.and_eq_true] at okk
              exact all_get zD okk.1 q hlq
            clear hc2 okk
            have hb3 : b2 < wr.heap.size := Nat.lt_of_lt_of_le hb2 hKq.size
            have HST : Hid (clkP k ds es (q + 1) = evs ++ oneE k q (ds.getD q zD) (ncE evs (goB ds q))) := Lib.hid (by rw [clkP, hC.out])
            clear hC
            obtain ⟨d, hd⟩ : ∃ d, d = ds.getD q zD := ⟨_, rfl⟩
            rw [← hd] at AT okq HST
            clear hd
            have KD := okD_kindE okq
            obtain ⟨x0, x1, x2, x3⟩ := d
            obtain ⟨A0, A1, A2, A3⟩ := AT
            simp only at A0 A1 A2 A3 KD
            have j1 : (0 : Int) ≤ (q : Int) := Int.natCast_nonneg _
            have j2 : (q : Int) < (ds.length : Int) := by omega
            have z5 := hI.lt (n := wo.heap.size) (o := cO (.slice (some ⟨b2, o2, none⟩) ds.length (ds.length + ci)) t) (by simp)
            have c5 : wr.cell? ⟨wo.heap.size, 0, none⟩ = some (.slice (some ⟨b2, o2, none⟩) ds.length (ds.length + ci)) := (hI.held wo.heap.size (cO (.slice (some ⟨b2, o2, none⟩) ds.length (ds.length + ci)) t) (by simp)) |>.2 |> fun h => cell_of_row wr _ 0 _ _ (0, 0) h
            clear okq
            rcases KD with rfl | rfl | rfl | rfl
            · have HS : Hid (clkP k ds es (q + 1) = evs ++ oneE k q (1, x1, x2, x3) (ncE evs (goB ds q))) := HST
              clear HST
              have L2 := hI.new (dO 1 x1 x2 x3)
              have K2 : Keep wr (wr.alloc (dO 1 x1 x2 x3)) := (Keep.refl wr).alloc _
              have R3 := R2.keep K2
              go_wp2_with fail
              refine (goesOn_any _ _ _ R3 q hlq (by omega)).mono ?_
              rintro e w3 ⟨rfl, k3⟩
              have L3 := L2.more k3
              go_wp2_with fail
              refine (nextClass_any _ _ _ L3.app.rd (by omega) hv1 _).mono ?_
              generalize goB ds q = go at HS
              generalize hcl : ncE evs go = cl at HS
              clear hcl
              rintro e w4 ⟨rfl, k4⟩
              have L4 := L3.more k4
              have z7 := L4.lt (n := wr.heap.size) (o := dO 1 x1 x2 x3) (by simp)
              have s0 : w4.cell? ⟨wr.heap.size, 0, none⟩ = some (.int .i64 1) := L4.cell (n := wr.heap.size) (cs := #[.int .i64 1, .int .i64 x1, .int .i64 x2, .int .i64 x3]) (t := 56) (by simp) 0
              have s1 : w4.cell? ⟨wr.heap.size, 1, none⟩ = some (.int .i64 x1) := L4.cell (n := wr.heap.size) (cs := #[.int .i64 1, .int .i64 x1, .int .i64 x2, .int .i64 x3]) (t := 56) (by simp) 1
              have s2 : w4.cell? ⟨wr.heap.size, 2, none⟩ = some (.int .i64 x2) := L4.cell (n := wr.heap.size) (cs := #[.int .i64 1, .int .i64 x1, .int .i64 x2, .int .i64 x3]) (t := 56) (by simp) 2
              have s3 : w4.cell? ⟨wr.heap.size, 3, none⟩ = some (.int .i64 x3) := L4.cell (n := wr.heap.size) (cs := #[.int .i64 1, .int .i64 x1, .int .i64 x2, .int .i64 x3]) (t := 56) (by simp) 3
              clear A0 A1 A2 A3 c5 L2 L3 R3 K2
              go_wp2_with fail
              refine (shapes_rd _ _ _ _).mono ?_
              rintro e w5 ⟨B, rfl, hB, hBl, k5⟩
              have L5 := L4.later k5 hBl hB
              clear L4 s0 s1 s2 s3 z7 hI
              have z8 := L5.lt (n := B) (o := .cells #[rdV x1] 87) (by simp)
              have c6 : w5.cell? ⟨B, 0, none⟩ = some (rdV x1) := L5.cell (n := B) (cs := #[rdV x1]) (t := 87) (by simp) 0
              go_wp2
              refine wp_loop_rounds 2 ?_
              rw [rounds_succ]
              go_wp2_with fail
              refine (eventOf_rd _ _).mono ?_
              rintro e wa0 ⟨rfl, ka0⟩
              have La0 := L5.more ka0
              have Lb0 := (La0.more ((Keep.refl wa0).alloc (eO k q true x1 0 cl))).more ((Keep.refl _).alloc (eO k q true x1 0 cl))
              have hs0 : w0.heap.size ≤ wa0.heap.size := La0.keep.size
              go_wp2_with (at_builtin; refine wpList_append_own_at _ rfl _ _ 49 rfl w0.heap.size 69 j0 (.agg #[.int .i64 0, .int .i64 0, .bool false, .int .i64 0, .int .i64 0, .int .i64 0]) 6 48 Try.underlying49 hj hy0 hy1 hy2 rfl (by decide) _ _ _ rfl Lb0.app ⟨_, 0, none⟩ 1 1 (cE ((k : Int), (q : Int), true, x1, 0, cl)) rfl rfl ?c1_0 ?c2_0 ?c3_0 ?c4_0 ?c5_0 ?_)
              case c1_0 => exact cE_newP _ _ (heap_size _ _) _ _ _ _ _ _
              case c2_0 => exact cE_oneP _
              case c3_0 => unfold maxLen; first | omega | (simp; omega)
              case c4_0 => first | omega | (simp; omega)
              case c5_0 => first | omega | (simp; omega)
              intro v0' wb0 hown' hgrow _ hblk
              have Lc0 := Lb0.hit _ hown' hgrow (by rw [heap_size, heap_size]; exact hblk)
              clear hgrow hown' hblk Lb0 La0 L5
              go_wp2
              rw [rounds_succ]
              go_wp2
              go_roundw
              case rel => exact ⟨q + 1, _, by omega, by go_num, Lib.hid (by rw [HS.out]; simp [oneE]), by first | omega | (simp <;> omega), by first | omega | (simp <;> omega), Lc0.less (fun y hy => by simp only [List.mem_cons, List.not_mem_nil, or_false] at hy ⊢; rcases hy with rfl | rfl <;> simp)⟩
              case measure => simp [intOf]; omega
            · have HS : Hid (clkP k ds es (q + 1) = evs ++ oneE k q (2, x1, x2, x3) (ncE evs (goB ds q))) := HST
              clear HST
              have L2 := hI.new (dO 2 x1 x2 x3)
              have K2 : Keep wr (wr.alloc (dO 2 x1 x2 x3)) := (Keep.refl wr).alloc _
              have R3 := R2.keep K2
              go_wp2_with fail
              refine (goesOn_any _ _ _ R3 q hlq (by omega)).mono ?_
              rintro e w3 ⟨rfl, k3⟩
              have L3 := L2.more k3
              go_wp2_with fail
              refine (nextClass_any _ _ _ L3.app.rd (by omega) hv1 _).mono ?_
              generalize goB ds q = go at HS
              generalize hcl : ncE evs go = cl at HS
              clear hcl
              rintro e w4 ⟨rfl, k4⟩
              have L4 := L3.more k4
              have z7 := L4.lt (n := wr.heap.size) (o := dO 2 x1 x2 x3) (by simp)
              have s0 : w4.cell? ⟨wr.heap.size, 0, none⟩ = some (.int .i64 2) := L4.cell (n := wr.heap.size) (cs := #[.int .i64 2, .int .i64 x1, .int .i64 x2, .int .i64 x3]) (t := 56) (by simp) 0
              have s1 : w4.cell? ⟨wr.heap.size, 1, none⟩ = some (.int .i64 x1) := L4.cell (n := wr.heap.size) (cs := #[.int .i64 2, .int .i64 x1, .int .i64 x2, .int .i64 x3]) (t := 56) (by simp) 1
              have s2 : w4.cell? ⟨wr.heap.size, 2, none⟩ = some (.int .i64 x2) := L4.cell (n := wr.heap.size) (cs := #[.int .i64 2, .int .i64 x1, .int .i64 x2, .int .i64 x3]) (t := 56) (by simp) 2
              have s3 : w4.cell? ⟨wr.heap.size, 3, none⟩ = some (.int .i64 x3) := L4.cell (n := wr.heap.size) (cs := #[.int .i64 2, .int .i64 x1, .int .i64 x2, .int .i64 x3]) (t := 56) (by simp) 3
              clear A0 A1 A2 A3 c5 L2 L3 R3 K2
              go_wp2_with fail
              refine (shapes_wr _ _ _ _).mono ?_
              rintro e w5 ⟨B, rfl, hB, hBl, k5⟩
              have L5 := L4.later k5 hBl hB
              clear L4 s0 s1 s2 s3 z7 hI
              have z8 := L5.lt (n := B) (o := .cells #[wrV x1 x2] 87) (by simp)
              have c6 : w5.cell? ⟨B, 0, none⟩ = some (wrV x1 x2) := L5.cell (n := B) (cs := #[wrV x1 x2]) (t := 87) (by simp) 0
              go_wp2
              refine wp_loop_rounds 2 ?_
              rw [rounds_succ]
              go_wp2_with fail
              refine (eventOf_wr _ _ _).mono ?_
              rintro e wa0 ⟨rfl, ka0⟩
              have La0 := L5.more ka0
              have Lb0 := (La0.more ((Keep.refl wa0).alloc (eO k q false x1 x2 cl))).more ((Keep.refl _).alloc (eO k q false x1 x2 cl))
              have hs0 : w0.heap.size ≤ wa0.heap.size := La0.keep.size
              go_wp2_with (at_builtin; refine wpList_append_own_at _ rfl _ _ 49 rfl w0.heap.size 69 j0 (.agg #[.int .i64 0, .int .i64 0, .bool false, .int .i64 0, .int .i64 0, .int .i64 0]) 6 48 Try.underlying49 hj hy0 hy1 hy2 rfl (by decide) _ _ _ rfl Lb0.app ⟨_, 0, none⟩ 1 1 (cE ((k : Int), (q : Int), false, x1, x2, cl)) rfl rfl ?c1_0 ?c2_0 ?c3_0 ?c4_0 ?c5_0 ?_)
              case c1_0 => exact cE_newP _ _ (heap_size _ _) _ _ _ _ _ _
              case c2_0 => exact cE_oneP _
              case c3_0 => unfold maxLen; first | omega | (simp; omega)
              case c4_0 => first | omega | (simp; omega)
              case c5_0 => first | omega | (simp; omega)
              intro v0' wb0 hown' hgrow _ hblk
              have Lc0 := Lb0.hit _ hown' hgrow (by rw [heap_size, heap_size]; exact hblk)
              clear hgrow hown' hblk Lb0 La0 L5
              go_wp2
              rw [rounds_succ]
              go_wp2
              go_roundw
              case rel => exact ⟨q + 1, _, by omega, by go_num, Lib.hid (by rw [HS.out]; simp [oneE]), by first | omega | (simp <;> omega), by first | omega | (simp <;> omega), Lc0.less (fun y hy => by simp only [List.mem_cons, List.not_mem_nil, or_false] at hy ⊢; rcases hy with rfl | rfl <;> simp)⟩
              case measure => simp [intOf]; omega
            · have HS : Hid (clkP k ds es (q + 1) = evs ++ oneE k q (3, x1, x2, x3) (ncE evs (goB ds q))) := HST
              clear HST
              have L2 := hI.new (dO 3 x1 x2 x3)
              have K2 : Keep wr (wr.alloc (dO 3 x1 x2 x3)) := (Keep.refl wr).alloc _
              have R3 := R2.keep K2
              go_wp2_with fail
              refine (goesOn_any _ _ _ R3 q hlq (by omega)).mono ?_
              rintro e w3 ⟨rfl, k3⟩
              have L3 := L2.more k3
              go_wp2_with fail
              refine (nextClass_any _ _ _ L3.app.rd (by omega) hv1 _).mono ?_
              generalize goB ds q = go at HS
              generalize hcl : ncE evs go = cl at HS
              clear hcl
              rintro e w4 ⟨rfl, k4⟩
              have L4 := L3.more k4
              have z7 := L4.lt (n := wr.heap.size) (o := dO 3 x1 x2 x3) (by simp)
              have s0 : w4.cell? ⟨wr.heap.size, 0, none⟩ = some (.int .i64 3) := L4.cell (n := wr.heap.size) (cs := #[.int .i64 3, .int .i64 x1, .int .i64 x2, .int .i64 x3]) (t := 56) (by simp) 0
              have s1 : w4.cell? ⟨wr.heap.size, 1, none⟩ = some (.int .i64 x1) := L4.cell (n := wr.heap.size) (cs := #[.int .i64 3, .int .i64 x1, .int .i64 x2, .int .i64 x3]) (t := 56) (by simp) 1
              have s2 : w4.cell? ⟨wr.heap.size, 2, none⟩ = some (.int .i64 x2) := L4.cell (n := wr.heap.size) (cs := #[.int .i64 3, .int .i64 x1, .int .i64 x2, .int .i64 x3]) (t := 56) (by simp) 2
              have s3 : w4.cell? ⟨wr.heap.size, 3, none⟩ = some (.int .i64 x3) := L4.cell (n := wr.heap.size) (cs := #[.int .i64 3, .int .i64 x1, .int .i64 x2, .int .i64 x3]) (t := 56) (by simp) 3
              clear A0 A1 A2 A3 c5 L2 L3 R3 K2
              go_wp2_with fail
              refine (shapes_sw _ _ _ _).mono ?_
              rintro e w5 ⟨B, rfl, hB, hBl, k5⟩
              have L5 := L4.later k5 hBl hB
              clear L4 s0 s1 s2 s3 z7 hI
              have z8 := L5.lt (n := B) (o := .cells #[rdV x1, wrV x1 x2] 87) (by simp)
              have c6 : w5.cell? ⟨B, 0, none⟩ = some (rdV x1) := L5.cell (n := B) (cs := #[rdV x1, wrV x1 x2]) (t := 87) (by simp) 0
              have c7 : w5.cell? ⟨B, 1, none⟩ = some (wrV x1 x2) := L5.cell (n := B) (cs := #[rdV x1, wrV x1 x2]) (t := 87) (by simp) 1
              go_wp2
              refine wp_loop_rounds 3 ?_
              rw [rounds_succ]
              go_wp2_with fail
              refine (eventOf_rd _ _).mono ?_
              rintro e wa0 ⟨rfl, ka0⟩
              have La0 := L5.more ka0
              have Lb0 := (La0.more ((Keep.refl wa0).alloc (eO k q true x1 0 cl))).more ((Keep.refl _).alloc (eO k q true x1 0 cl))
              have hs0 : w0.heap.size ≤ wa0.heap.size := La0.keep.size
              go_wp2_with (at_builtin; refine wpList_append_own_at _ rfl _ _ 49 rfl w0.heap.size 69 j0 (.agg #[.int .i64 0, .int .i64 0, .bool false, .int .i64 0, .int .i64 0, .int .i64 0]) 6 48 Try.underlying49 hj hy0 hy1 hy2 rfl (by decide) _ _ _ rfl Lb0.app ⟨_, 0, none⟩ 1 1 (cE ((k : Int), (q : Int), true, x1, 0, cl)) rfl rfl ?c1_0 ?c2_0 ?c3_0 ?c4_0 ?c5_0 ?_)
              case c1_0 => exact cE_newP _ _ (heap_size _ _) _ _ _ _ _ _
              case c2_0 => exact cE_oneP _
              case c3_0 => unfold maxLen; first | omega | (simp; omega)
              case c4_0 => first | omega | (simp; omega)
              case c5_0 => first | omega | (simp; omega)
              intro v0' wb0 hown' hgrow _ hblk
              have Lc0 := Lb0.hit _ hown' hgrow (by rw [heap_size, heap_size]; exact hblk)
              clear hgrow hown' hblk Lb0 La0 L5
              obtain ⟨ev1, hev1⟩ : ∃ ev1, ev1 = evs ++ [((k : Int), (q : Int), true, x1, 0, cl)] := ⟨_, rfl⟩
              rw [← hev1] at Lc0
              have HV1 := Lib.hid hev1
              have hl1 : ev1.length ≤ evs.length + 1 := by rw [hev1]; simp
              clear hev1
              clear c6 c7 z8
              have z8 := Lc0.lt (n := B) (o := .cells #[rdV x1, wrV x1 x2] 87) (by simp)
              have c7 : wb0.cell? ⟨B, 1, none⟩ = some (wrV x1 x2) := Lc0.cell (n := B) (cs := #[rdV x1, wrV x1 x2]) (t := 87) (by simp) 1
              go_wp2
              rw [rounds_succ]
              go_wp2_with fail
              refine (eventOf_wr _ _ _).mono ?_
              rintro e wa1 ⟨rfl, ka1⟩
              have La1 := Lc0.more ka1
              have Lb1 := (La1.more ((Keep.refl wa1).alloc (eO k q false x1 x2 cl))).more ((Keep.refl _).alloc (eO k q false x1 x2 cl))
              have hs1 : w0.heap.size ≤ wa1.heap.size := La1.keep.size
              go_wp2_with (at_builtin; refine wpList_append_own_at _ rfl _ _ 49 rfl w0.heap.size 69 j0 (.agg #[.int .i64 0, .int .i64 0, .bool false, .int .i64 0, .int .i64 0, .int .i64 0]) 6 48 Try.underlying49 hj hy0 hy1 hy2 rfl (by decide) _ _ _ rfl Lb1.app ⟨_, 0, none⟩ 1 1 (cE ((k : Int), (q : Int), false, x1, x2, cl)) rfl rfl ?c1_1 ?c2_1 ?c3_1 ?c4_1 ?c5_1 ?_)
              case c1_1 => exact cE_newP _ _ (heap_size _ _) _ _ _ _ _ _
              case c2_1 => exact cE_oneP _
              case c3_1 => unfold maxLen; first | omega | (simp; omega)
              case c4_1 => first | omega | (simp; omega)
              case c5_1 => first | omega | (simp; omega)
              intro v1' wb1 hown' hgrow _ hblk
              have Lc1 := Lb1.hit _ hown' hgrow (by rw [heap_size, heap_size]; exact hblk)
              clear hgrow hown' hblk Lb1 La1 Lc0
              go_wp2
              rw [rounds_succ]
              go_wp2
              go_roundw
              case rel => exact ⟨q + 1, _, by omega, by go_num, Lib.hid (by rw [HS.out, HV1.out]; simp [oneE]), by first | omega | (simp <;> omega), by first | omega | (simp <;> omega), Lc1.less (fun y hy => by simp only [List.mem_cons, List.not_mem_nil, or_false] at hy ⊢; rcases hy with rfl | rfl <;> simp)⟩
              case measure => simp [intOf]; omega
            · have HS : Hid (clkP k ds es (q + 1) = evs ++ oneE k q (4, x1, x2, x3) (ncE evs (goB ds q))) := HST
              clear HST
              have L2 := hI.new (dO 4 x1 x2 x3)
              have K2 : Keep wr (wr.alloc (dO 4 x1 x2 x3)) := (Keep.refl wr).alloc _
              have R3 := R2.keep K2
              go_wp2_with fail
              refine (goesOn_any _ _ _ R3 q hlq (by omega)).mono ?_
              rintro e w3 ⟨rfl, k3⟩
              have L3 := L2.more k3
              go_wp2_with fail
              refine (nextClass_any _ _ _ L3.app.rd (by omega) hv1 _).mono ?_
              generalize goB ds q = go at HS
              generalize hcl : ncE evs go = cl at HS
              clear hcl
              rintro e w4 ⟨rfl, k4⟩
              have L4 := L3.more k4
              have z7 := L4.lt (n := wr.heap.size) (o := dO 4 x1 x2 x3) (by simp)
              have s0 : w4.cell? ⟨wr.heap.size, 0, none⟩ = some (.int .i64 4) := L4.cell (n := wr.heap.size) (cs := #[.int .i64 4, .int .i64 x1, .int .i64 x2, .int .i64 x3]) (t := 56) (by simp) 0
              have s1 : w4.cell? ⟨wr.heap.size, 1, none⟩ = some (.int .i64 x1) := L4.cell (n := wr.heap.size) (cs := #[.int .i64 4, .int .i64 x1, .int .i64 x2, .int .i64 x3]) (t := 56) (by simp) 1
              have s2 : w4.cell? ⟨wr.heap.size, 2, none⟩ = some (.int .i64 x2) := L4.cell (n := wr.heap.size) (cs := #[.int .i64 4, .int .i64 x1, .int .i64 x2, .int .i64 x3]) (t := 56) (by simp) 2
              have s3 : w4.cell? ⟨wr.heap.size, 3, none⟩ = some (.int .i64 x3) := L4.cell (n := wr.heap.size) (cs := #[.int .i64 4, .int .i64 x1, .int .i64 x2, .int .i64 x3]) (t := 56) (by simp) 3
              clear A0 A1 A2 A3 c5 L2 L3 R3 K2
              go_wp2_with fail
              refine (shapes_wa _ _ _ _).mono ?_
              rintro e w5 ⟨B, rfl, hB, hBl, k5⟩
              have L5 := L4.later k5 hBl hB
              clear L4 s0 s1 s2 s3 z7 hI
              have z8 := L5.lt (n := B) (o := .cells #[] 87) (by simp)
              go_wp2
              refine wp_loop_rounds 1 ?_
              rw [rounds_succ]
              go_wp2
              go_roundw
              case rel => exact ⟨q + 1, _, by omega, by go_num, Lib.hid (by rw [HS.out]; simp [oneE]), by first | omega | (simp <;> omega), by first | omega | (simp <;> omega), L5.less (fun y hy => by simp only [List.mem_cons, List.not_mem_nil, or_false] at hy ⊢; rcases hy with rfl | rfl <;> simp)⟩
              case measure => simp [intOf]; omega
          · obtain rfl : q = ds.length := by omega
            go_wp2
            go_roundw
            case rel => exact ⟨k + 1, evs, by omega, by go_num, Lib.hid (by rw [HV.out]; exact hC.out), hv1, by omega, hI.less (fun y hy => by simp only [List.mem_cons, List.not_mem_nil, or_false] at hy ⊢; subst hy; simp)⟩
            case measure => simp [intOf]; omega
      · obtain rfl : k = dss.length := by omega
        go_wp2
        go_ret
        exact ⟨_, rfl, by rw [HE.out, ← hE.out]; exact app_base hL.app hsz0, k0.trans hL.keep⟩
end Go.Proofs.Ytgolhjmbloiakab
