/- Gathered texts. -/
import Derived.Test.YtgakfkjjkobpiaaMH
import Derived.Deep.RegionLaw
import Derived.RegionTactic
import Derived.Deep.Cut
import Derived.BigRegion
import Derived.Lib.Hide
import Derived.OwnWalk
import Derived.Deep.QuietTactic
import Derived.BigQuiet
import Derived.Deep.CutRange
set_option maxRecDepth 100000
set_option maxHeartbeats 8000000
namespace Go.Proofs.Ytgakfkjjkobpiaa
open Go.ChangeShapes Go.WideShapes Go.ChangeAt Go.RowKit
theorem l15Ink_any (w : World) (m D : Nat) (v : BV) (nv rv : List Value) (bs N : Nat) (dss : List (List Dd)) (b : Bd) (p : Nat) (x ev : Int) (h : OwnBd w m D v nv rv bs N dss b) (hp : p < b.plc.length) (hl : p < b.lst.length) (hr : p < b.rws.length) (ht : (b.rws.getD p []).length ≤ 1048576) :
    Calls Try.prog 81 #[.pointer (some ⟨D, 0, none⟩), .int .i64 p, .int .i64 x, .int .i64 ev] w fun e w' => e = .returned (.tuple #[]) ∧ ∃ rv', OwnBd w' m D v nv rv' bs N dss (inkM b p x ev) ∧ TurnB w w' (blkB D v nv rv) (blkB D v nv rv') := by
  obtain ⟨i0, hi, hz0, hz1, hz2⟩ := info_parts Try.infoI
  obtain ⟨vW, vP, vL, vN, vX, vS, vF, vR⟩ := v
  obtain ⟨gp, cp, eP, lp, dp, fp⟩ := h.oP.lit hp
  obtain ⟨gl, cl, eL, -, -, -⟩ := h.oL.lit hl
  obtain ⟨aR, cR, eR, hR⟩ := h.hR
  rcases hR with h0 | ⟨gr, rfl, -, -⟩
  · exfalso; rw [h0] at hr; simp at hr
  simp only at eP eL eR
  subst eP eL eR
  have c1 : w.cell? ⟨D, 1, none⟩ = some (.slice (some ⟨gp, 0, none⟩) b.plc.length cp) := h.cells.2.1
  have d1 := dp p hp
  have f1 := fp p
  have mb := h.base
  have mP := h.ge .plc trivial gp rfl
  have mL := h.ge .lst trivial gl rfl
  have mR := h.ge .rws trivial gr rfl
  have i1 : (0 : Int) ≤ (p : Int) := Int.natCast_nonneg _
  have i2 : (p : Int) < (b.plc.length : Int) := by omega
  have i3 : (p : Int) < (b.lst.length : Int) := by omega
  have i4 : (p : Int) < (b.rws.length : Int) := by omega
  have H1 := h.putP (k := p) (x := x) rfl
  have B1 := (TurnB.refl w (blkB D ⟨vW, .slice (some ⟨gp, 0, none⟩) b.plc.length cp, .slice (some ⟨gl, 0, none⟩) b.lst.length cl, vN, vX, vS, vF, .slice (some ⟨gr, 0, none⟩) b.rws.length cR⟩ nv rv)).grown (grown_set w gp p (.int .i64 x)) (fun g hg => ⟨.plc, trivial, hg⟩)
  have HD := Lib.hid h
  clear dp fp h
  go_enter Try.func81, Try.ntmps81
  go_upto_region 1 with fail
  obtain ⟨w1, hw⟩ : ∃ W : World, W = w.setCell ⟨gp, p, none⟩ (.int .i64 x) := ⟨_, rfl⟩
  rw [← hw] at H1 B1 ⊢
  clear hw c1 d1 f1
  obtain ⟨gl', cl', eL', ll, dl, fl⟩ := H1.oL.lit hl
  simp only [Value.slice.injEq, Option.some.injEq, Addr.mk.injEq, and_true, true_and] at eL'
  obtain ⟨rfl, rfl⟩ := eL'
  have c2 : w1.cell? ⟨D, 2, none⟩ = some (.slice (some ⟨gl, 0, none⟩) b.lst.length cl) := H1.cells.2.2.1
  have d2 := dl p hl
  have f2 := fl p
  have H2 := H1.putL (k := p) (x := ev) rfl
  have B2 := B1.grown (grown_set w1 gl p (.int .i64 ev)) (fun g hg => ⟨.lst, trivial, hg⟩)
  clear dl fl
  go_upto_region 2 with fail
  obtain ⟨w2, hw⟩ : ∃ W : World, W = w1.setCell ⟨gl, p, none⟩ (.int .i64 ev) := ⟨_, rfl⟩
  rw [← hw] at H2 B2 ⊢
  clear hw c2 d2 f2 H1 B1
  have H3 : OwnBd (w2.drew.alloc (.cells #[.int .i64 ev] 2)) m D _ nv rv bs N dss _ := H2.drew.keep ((Keep.refl _).alloc _)
  obtain ⟨aR', cR', eR', hR'⟩ := H2.drew.hR
  simp only [Value.slice.injEq, true_and] at eR'
  obtain ⟨rfl, rfl⟩ := eR'
  rcases hR' with h0 | ⟨gr', er, lr, dr⟩
  · exfalso; rw [h0] at hr; simp at hr
  simp only [Option.some.injEq, Addr.mk.injEq, and_true] at er
  subst er
  have c3 : w2.drew.cell? ⟨D, 7, none⟩ = some (.slice (some ⟨gr, 0, none⟩) b.rws.length cR) := H2.drew.cells.2.2.2.2.2.2.2
  have d3 := dr p hr
  have ow := H3.oR hr
  have zD := H2.drew.base.2
  have B3 := B2.keep (((Keep.refl w2).drew).alloc (.cells #[.int .i64 ev] 2))
  obtain ⟨au, cu, hu⟩ : ∃ a c, rv.getD p nilS = .slice a (b.rws.getD p []).length c := by obtain ⟨a, c, e, _⟩ := ow.rd; exact ⟨a, c, e⟩
  have HU := Lib.hid hu
  rw [hu] at d3
  have o3 : (w2.drew.alloc (.cells #[.int .i64 ev] 2)).ownsRow m 2 1 (.slice au (b.rws.getD p []).length cu) (b.rws.getD p []).length ((b.rws.getD p []).map (Value.int .i64)) := by rw [← hu]; exact ow
  have s3 : m ≤ (w2.drew.alloc (.cells #[.int .i64 ev] 2)).heap.size := by have := H3.base; omega
  have RL : Hid ((b.rws.getD p []).length ≤ 1048576) := Lib.hid ht
  have c4 : w2.cell? ⟨D, 7, none⟩ = some (.slice (some ⟨gr, 0, none⟩) b.rws.length cR) := c3
  have d4 : w2.cell? ⟨gr, p, none⟩ = some (.slice au (b.rws.getD p []).length cu) := d3
  have l4 : gr < w2.heap.size := lr
  have z4 : D < w2.heap.size := zD
  have c5 : (w2.alloc (.cells #[.int .i64 ev] 2)).cell? ⟨D, 7, none⟩ = some (.slice (some ⟨gr, 0, none⟩) b.rws.length cR) := (((Keep.refl w2).alloc _).cell z4).trans c4
  have d5 : (w2.alloc (.cells #[.int .i64 ev] 2)).cell? ⟨gr, p, none⟩ = some (.slice au (b.rws.getD p []).length cu) := (((Keep.refl w2).alloc _).cell l4).trans d4
  clear ow dr hu
  generalize hZ : b.rws.getD p [] = Z at *
  have HZ := Lib.hid hZ
  clear hZ
  go_wp2_with fail
  go_region_law ((first
    | (refine step_append_at rfl (.tmp 33) (.tmp 35) 25 rfl m 2 i0 (.int .i64 0) 1 8 Try.underlying25 hi hz0 hz1 hz2 rfl (by decide) (.slice au Z.length cu) Z.length (Z.map (Value.int .i64)) rfl o3 ⟨_, 0, none⟩ 1 1 [.int .i64 ev] rfl rfl (fun j u hj => by match j, hj with | 0, hj => simp at hj; subst hj; simp [Addr.add]) (fun u hu => by simp at hu; subst hu; rfl) (by unfold maxLen; omega) (by omega) s3 ?_
       intro v' w5 hown' hgrow hblk
       have HH := H3.headR hr (u := v') (zs := Z ++ [ev]) (by rw [HU.out]; exact hgrow) (by rw [HU.out]; rcases hblk with h | h; exact .inl h; exact .inr (.inl h)) (own_hit hown') rfl
       obtain ⟨HO, hcell, hfr⟩ := HH
       have c6 : w5.cell? ⟨D, 7, none⟩ = some (.slice (some ⟨gr, 0, none⟩) b.rws.length cR) := (H3.stay (.rw p) (by show p < rv.length; rw [H3.lr]; exact hr) (by simp) (by show World.grownBy _ _ (rv.getD p nilS).ownBlock; rw [HU.out]; exact hgrow) 7).trans c5
       obtain ⟨a5, q5, hv5, -⟩ := (own_hit hown').rd
       rw [List.length_append, List.length_singleton] at hv5
       subst hv5)))
  all_goals
    go_wp2
    go_end0
    refine ⟨rfl, rv.set p (.slice a5 (Z.length + 1) q5), ?_, ?_⟩
    · have e : inkM b p x ev = { b with plc := b.plc.set p x, lst := b.lst.set p ev, rws := b.rws.set p (Z ++ [ev]) } := by rw [inkM, HZ.out]
      rw [e]
      exact HO
    · have hpr : p < rv.length := by rw [H3.lr]; exact hr
      refine ((B3.grown hgrow (fun k hk => ⟨.rw p, hpr, by show (rv.getD p nilS).ownBlock = _; rw [HU.out]; exact hk⟩)).grown (grown_set _ gr p _) (fun g hg => ⟨.rws, trivial, hg⟩)).more (fun g hg => ?_)
      obtain ⟨i, hi, e⟩ := hg
      cases i with
      | rw q =>
        have hq : q < rv.length := by simpa [liveB] using hi
        by_cases eq : q = p
        · subst eq
          have e : ((rv.set q (.slice a5 (Z.length + 1) q5)).getD q nilS).ownBlock = some g := e
          rw [getD_setV _ _ _ _ hq, if_pos rfl] at e
          rcases hblk with hb | hb
          · left; exact ⟨.rw q, hq, by show (rv.getD q nilS).ownBlock = _; rw [HU.out, ← hb]; exact e⟩
          · right
            rw [hb] at e
            have e2 : (w2.drew.alloc (.cells #[.int .i64 ev] 2)).heap.size = g := Option.some.inj e
            rw [← e2]
            exact B3.size
        · have e : ((rv.set p (.slice a5 (Z.length + 1) q5)).getD q nilS).ownBlock = some g := e
          rw [getD_setV _ _ _ _ hpr, if_neg eq] at e
          exact .inl ⟨.rw q, hq, e⟩
      | nt q => exact .inl ⟨.nt q, hi, e⟩
      | bd => exact .inl ⟨.bd, trivial, e⟩
      | plc => exact .inl ⟨.plc, trivial, e⟩
      | lst => exact .inl ⟨.lst, trivial, e⟩
      | nts => exact .inl ⟨.nts, trivial, e⟩
      | nxt => exact .inl ⟨.nxt, trivial, e⟩
      | sn => exact .inl ⟨.sn, trivial, e⟩
      | fr => exact .inl ⟨.fr, trivial, e⟩
      | rws => exact .inl ⟨.rws, trivial, e⟩
theorem specReadsOf_any (w : World) (v : Value) (es : List Ev) (h : RdE w v es) (hx : es.length ≤ 1048576) :
    Calls Try.prog 43 #[v] w fun e w' => ∃ v', e = .returned v' ∧ Own w' w.heap.size v' (idxB rdE es) ∧ Keep w w' := by
  have hown0 : Own (w.alloc (.cells #[] 2)) w.heap.size (.slice (some ⟨w.heap.size, 0, none⟩) 0 0) [] := World.ownsRow_lit w #[] 0 (Nat.le_refl _) (by decide) rfl
  obtain ⟨a, cap, rfl, h⟩ := h
  by_cases hl : 12 < es.length
  · have HE : Hid (idxB rdE es = []) := Lib.hid (by unfold idxB; rw [if_neg (by omega)])
    have l1 : (12 : Int) < (es.length : Int) := by omega
    go_enter Try.func43, Try.ntmps43
    go_wp2
    refine wp_loop_rounds 1 ?_
    rw [rounds_succ]
    go_wp2
    go_ret
    exact ⟨_, rfl, by rw [HE.out]; exact hown0, (Keep.refl _).alloc _⟩
  have l1 : es.length ≤ 12 := by omega
  clear hl
  have HE : Hid (idxB rdE es = idxK rdE es es.length) := Lib.hid (by unfold idxB; rw [if_pos l1])
  obtain ⟨i0, hi, hz0, hz1, hz2⟩ := info_parts Try.infoI
  go_enter Try.func43, Try.ntmps43
  go_wp2
  go_loopw [3, 4] (fun v i wr => ∃ k : Nat, k ≤ es.length ∧ i = .int .i64 k ∧ Own wr w.heap.size v (idxK rdE es k) ∧ Keep w wr) (fun _ i _ => es.length - (intOf i).toNat)
  case atStart => exact ⟨0, Nat.zero_le _, rfl, hown0, (Keep.refl _).alloc _⟩
  case round =>
    obtain ⟨k, hk, rfl, ho, hK⟩ := hrel
    clear hown0
    by_cases hlt : k < es.length
    · rcases h with h | ⟨b, off, rfl, hb, hc⟩
      · exfalso; rw [h] at hlt; simp at hlt
      have AT := (hc k _ (evs_get hlt)).keep hb hK
      have hbw : b < wr.heap.size := Nat.lt_of_lt_of_le hb hK.size
      clear hc
      have hml : (idxK rdE es k).length ≤ k := idxK_len rdE es k
      have hsz := hK.size
      have i1 : (0 : Int) ≤ (k : Int) := Int.natCast_nonneg _
      have i2 : (k : Int) < (es.length : Int) := by omega
      have l2 : (es.length : Int) ≤ 12 := by omega
      have HP : Hid (idxK rdE es (k + 1) = if rdE (es.getD k zE) = true then idxK rdE es k ++ [(k : Int)] else idxK rdE es k) := Lib.hid rfl
      obtain ⟨e, he⟩ : ∃ e, e = es.getD k zE := ⟨_, rfl⟩
      rw [← he] at AT HP
      clear he
      obtain ⟨x0, x1, x2, x3, x4, x5⟩ := e
      obtain ⟨-, -, A2, -, -, -⟩ := atE AT
      clear AT
      cases x2
      · have HM : Hid (idxK rdE es (k + 1) = idxK rdE es k) := Lib.hid (by rw [HP.out]; rfl)
        clear HP
        go_wp2
        go_roundw
        case rel => exact ⟨k + 1, by omega, by go_num, by rw [HM.out]; exact ho, hK⟩
        case measure => simp [intOf]; omega
      · have HM : Hid (idxK rdE es (k + 1) = idxK rdE es k ++ [(k : Int)]) := Lib.hid (by rw [HP.out]; rfl)
        clear HP
        go_wp2_with (at_builtin; refine wpList_append_own _ rfl _ _ 25 rfl w.heap.size 2 i0 (.int .i64 0) 1 8 Try.underlying25 hi hz0 hz1 hz2 rfl (by decide) _ _ _ rfl (World.ownsRow.alloc ho _) ⟨_, 0, none⟩ 1 1 [.int .i64 k] rfl rfl ?c1 ?c2 ?c3 ?c4 ?c5 ?_)
        case c1 =>
          intro j u hj
          match j, hj with
          | 0, hj => simp at hj; subst hj; simp [Addr.add]
        case c2 => intro u hu; simp at hu; subst hu; rfl
        case c3 => unfold maxLen; omega
        case c4 => omega
        case c5 => simp; omega
        intro v' w1 hown' hgrow _
        have hK1 : Keep w w1 := (hK.alloc _).grown hgrow ho.ge
        clear hgrow
        go_wp2
        go_roundw
        case rel => exact ⟨k + 1, by omega, by go_num, by rw [HM.out]; exact own_hit hown', hK1⟩
        case measure => simp [intOf]; omega
    · obtain rfl : k = es.length := by omega
      go_wp2
      go_ret
      exact ⟨_, rfl, by rw [HE.out]; exact ho, hK⟩
theorem l15See_any (w : World) (m D : Nat) (v : BV) (nv rv : List Value) (bs N : Nat) (dss : List (List Dd)) (b : Bd) (ve : Value) (es : List Ev) (ev x f : Int) (h : OwnBd w m D v nv rv bs N dss b) (he : RdE w ve es) (hl : es.length ≤ 12) (hs : b.sn.length = (idxB rdE es).length) (hf : b.fr.length = (idxB rdE es).length) :
    Calls Try.prog 108 #[.pointer (some ⟨D, 0, none⟩), ve, .int .i64 ev, .int .i64 x, .int .i64 f] w fun e w' => e = .returned (.tuple #[]) ∧ OwnBd w' m D v nv rv bs N dss (seeM (idxB rdE es) b ev x f) ∧ TurnB w w' (blkB D v nv rv) (blkB D v nv rv) := by
  have hb := h.base
  have HE : Hid (seeM (idxB rdE es) b ev x f = { b with sn := setK (idxB rdE es) ev x b.sn (idxB rdE es).length, fr := setK (idxB rdE es) ev f b.fr (idxB rdE es).length }) := Lib.hid (by rw [seeM, setK_same hs, setK_same hf])
  generalize seeM (idxB rdE es) b ev x f = B' at HE ⊢
  have r12 : (idxB rdE es).length ≤ 12 := by
    unfold idxB
    rw [if_pos hl]
    have := idxK_len rdE es es.length
    omega
  have HS5 : Hid (∀ k, v.S.ownBlock = some k → k < w.heap.size) := Lib.hid (fun k hk => (h.fam.lt (i := .sn) trivial k hk).2)
  have HF6 : Hid (∀ k, v.F.ownBlock = some k → k < w.heap.size) := Lib.hid (fun k hk => (h.fam.lt (i := .fr) trivial k hk).2)
  obtain ⟨vW, vP, vL, vN, vX, vS, vF, vR⟩ := v
  have HS := Lib.hid hs
  have HFL := Lib.hid hf
  go_enter Try.func108, Try.ntmps108
  go_wp2_with fail
  refine (specReadsOf_any _ _ _ he (by omega)).mono ?_
  rintro e w1 ⟨v1, rfl, o1, k1⟩
  have H1 := h.keep k1
  have B1 : TurnB w w1 (blkB D ⟨vW, vP, vL, vN, vX, vS, vF, vR⟩ nv rv) (blkB D ⟨vW, vP, vL, vN, vX, vS, vF, vR⟩ nv rv) := (TurnB.refl _ _).keep k1
  have s1 := k1.size
  generalize idxB rdE es = rs at *
  obtain ⟨a1, c1, rfl, -⟩ := o1.rd
  clear h he hs hf
  go_wp2
  go_loopw [11] (fun i wr => ∃ k : Nat, k ≤ rs.length ∧ i = .int .i64 k ∧ OwnBd wr m D ⟨vW, vP, vL, vN, vX, vS, vF, vR⟩ nv rv bs N dss { b with sn := setK rs ev x b.sn k, fr := setK rs ev f b.fr k } ∧ Own wr w.heap.size (.slice a1 rs.length c1) rs ∧ TurnB w wr (blkB D ⟨vW, vP, vL, vN, vX, vS, vF, vR⟩ nv rv) (blkB D ⟨vW, vP, vL, vN, vX, vS, vF, vR⟩ nv rv)) (fun i _ => rs.length - (intOf i).toNat)
  case atStart => exact ⟨0, Nat.zero_le _, rfl, H1, o1, B1⟩
  case round =>
    obtain ⟨k, hk, rfl, H, ho, B⟩ := hrel
    clear H1 B1
    by_cases hlt : k < rs.length
    · obtain ⟨a', c', e', hc⟩ := ho.rd
      simp only [Value.slice.injEq, true_and] at e'
      obtain ⟨rfl, rfl⟩ := e'
      rcases hc with h0 | ⟨br, or', rfl, hbr, hcr⟩
      · exfalso; rw [h0] at hlt; simp at hlt
      have d1 := hcr k hlt
      have i1 : (0 : Int) ≤ (k : Int) := Int.natCast_nonneg _
      have i2 : (k : Int) < (rs.length : Int) := by omega
      have HH : rs.getD k 0 = ev → Hid (setK rs ev x b.sn (k + 1) = (setK rs ev x b.sn k).set k x ∧ setK rs ev f b.fr (k + 1) = (setK rs ev f b.fr k).set k f) := fun e => Lib.hid ⟨by rw [setK, if_pos (decide_eq_true e)], by rw [setK, if_pos (decide_eq_true e)]⟩
      have HZ : rs.getD k 0 ≠ ev → Hid (setK rs ev x b.sn (k + 1) = setK rs ev x b.sn k ∧ setK rs ev f b.fr (k + 1) = setK rs ev f b.fr k) := fun e => Lib.hid ⟨by rw [setK, if_neg (by simpa using e)], by rw [setK, if_neg (by simpa using e)]⟩
      generalize rs.getD k 0 = r at d1 HH HZ
      clear hcr
      by_cases er : r = ev
      · have HM := HH er
        have be : (r == ev) = true := by simp [er]
        subst er
        clear HH HZ
        have ls : (setK rs r x b.sn k).length = b.sn.length := setK_len _ _ _ _ _
        have lf : (setK rs r f b.fr k).length = b.fr.length := setK_len _ _ _ _ _
        have hks : k < (setK rs r x b.sn k).length := by rw [ls, HS.out]; exact hlt
        have hkf : k < (setK rs r f b.fr k).length := by rw [lf, HFL.out]; exact hlt
        generalize setK rs r x b.sn k = SN at *
        generalize setK rs r f b.fr k = FR at *
        obtain ⟨gs, cs, eS, lgs, dS, fS⟩ := H.oS.lit hks
        obtain ⟨gf, cf, eF, -, -, -⟩ := H.oF.lit hkf
        simp only at eS eF
        subst eS eF
        have c5 : wr.cell? ⟨D, 5, none⟩ = some (.slice (some ⟨gs, 0, none⟩) SN.length cs) := H.cells.2.2.2.2.2.1
        have d5 := dS k hks
        have f5 := fS k
        have i3 : (k : Int) < (SN.length : Int) := by omega
        have i4 : (k : Int) < (FR.length : Int) := by omega
        have lS : gs < w.heap.size := HS5.out gs rfl
        have lF : gf < w.heap.size := HF6.out gf rfl
        have nS : (Value.slice (some ⟨br, or', none⟩) rs.length c1).ownBlock = none ∨ (Value.slice (some ⟨br, or', none⟩) rs.length c1).ownBlock ≠ some gs := .inr (fun e => by have := ho.ge gs e; omega)
        have nF : (Value.slice (some ⟨br, or', none⟩) rs.length c1).ownBlock = none ∨ (Value.slice (some ⟨br, or', none⟩) rs.length c1).ownBlock ≠ some gf := .inr (fun e => by have := ho.ge gf e; omega)
        have H2 := H.putS (k := k) (x := x) rfl
        have B2 := B.grown (grown_set wr gs k (.int .i64 x)) (fun g hg => ⟨.sn, trivial, hg⟩)
        have o2 := ho.kept (grown_set wr gs k (.int .i64 x)) nS
        clear dS fS
        go_upto_region 6 with fail
        obtain ⟨w2, hw⟩ : ∃ W : World, W = wr.setCell ⟨gs, k, none⟩ (.int .i64 x) := ⟨_, rfl⟩
        rw [← hw] at H2 B2 o2 ⊢
        clear hw c5 d5 f5 d1 H B ho
        obtain ⟨gf', cf', eF', lgf, dF, fF⟩ := H2.oF.lit hkf
        simp only [Value.slice.injEq, Option.some.injEq, Addr.mk.injEq, and_true, true_and] at eF'
        obtain ⟨rfl, rfl⟩ := eF'
        have c6 : w2.cell? ⟨D, 6, none⟩ = some (.slice (some ⟨gf, 0, none⟩) FR.length cf) := H2.cells.2.2.2.2.2.2.1
        have d6 := dF k hkf
        have f6 := fF k
        have H3 := H2.putF (k := k) (x := f) rfl
        have B3 := B2.grown (grown_set w2 gf k (.int .i64 f)) (fun g hg => ⟨.fr, trivial, hg⟩)
        have o3 := o2.kept (grown_set w2 gf k (.int .i64 f)) nF
        clear dF fF
        go_wp2
        go_roundw
        case rel => exact ⟨k + 1, by omega, by go_num, by rw [HM.out.1, HM.out.2]; exact H3, o3, B3⟩
        case measure => simp [intOf]; omega
      · have HM := HZ er
        have be : (r == ev) = false := by simp [er]
        clear HH HZ
        go_wp2
        go_roundw
        case rel => exact ⟨k + 1, by omega, by go_num, by rw [HM.out.1, HM.out.2]; exact H, ho, B⟩
        case measure => simp [intOf]; omega
    · obtain rfl : k = rs.length := by omega
      go_wp2
      go_end0
      exact ⟨rfl, by rw [HE.out]; exact H, B⟩
theorem l15Event_any (w : World) (v : Value) (es : List Ev) (c k : Nat) (h : RdE w v es) (hl : es.length ≤ 12) :
    Calls Try.prog 106 #[v, .int .i64 c, .int .i64 k] w fun e w' => e = .returned (.int .i64 (evM es c k)) ∧ Keep w w' := by
  obtain ⟨a, cp, rfl, h⟩ := h
  go_enter Try.func106, Try.ntmps106
  go_wp2
  go_loopw [7] (fun i wr => ∃ q : Nat, 3 ≤ q ∧ (q ≤ es.length ∨ q = 3) ∧ i = .int .i64 q ∧ Hid (∀ j, 3 ≤ j → j < q → evT es c k j = false) ∧ Keep w wr) (fun i _ => es.length - (intOf i).toNat)
  case atStart => exact ⟨3, Nat.le_refl _, .inr rfl, rfl, Lib.hid (fun j h1 h2 => by omega), Keep.refl _⟩
  case round =>
    obtain ⟨q, h3, hq, rfl, HN, hK⟩ := hrel
    by_cases hlt : q < es.length
    · rcases h with h0 | ⟨b, off, rfl, hb, hc⟩
      · exfalso; rw [h0] at hlt; simp at hlt
      have AT := (hc q _ (evs_get hlt)).keep hb hK
      have HY : evT es c k q = true → Hid (evM es c k = (q : Int)) := fun e => Lib.hid (evM_hit h3 hlt HN.out e)
      have HX : evT es c k q = false → Hid (∀ j, 3 ≤ j → j < q + 1 → evT es c k j = false) := fun e => Lib.hid (fun j h1 h2 => by
        by_cases ej : j = q
        · subst ej; exact e
        · exact HN.out j h1 (by omega))
      unfold evT at HY
      have HX : (((es.getD q zE).1 == (c : Int)) && ((es.getD q zE).2.1 == (k : Int))) = false → Hid (∀ j, 3 ≤ j → j < q + 1 → evT es c k j = false) := HX
      generalize es.getD q zE = y at AT HY HX
      obtain ⟨y0, y1, y2, y3, y4, y5⟩ := y
      obtain ⟨q0, q1, -, -, -, -⟩ := atE AT
      simp only at HY HX q0 q1
      have i1 : (0 : Int) ≤ (q : Int) := Int.natCast_nonneg _
      have i2 : (q : Int) < (es.length : Int) := by omega
      clear hc AT HN
      cases e0 : (y0 == (c : Int))
      · have HE := HX (by rw [e0]; rfl)
        clear HX HY
        go_wp2
        go_roundw
        case rel => exact ⟨q + 1, by omega, .inl (by omega), by go_num, HE, hK⟩
        case measure => simp [intOf]; omega
      · cases e1 : (y1 == (k : Int))
        · have HE := HX (by rw [e0, e1]; rfl)
          clear HX HY
          go_wp2
          go_roundw
          case rel => exact ⟨q + 1, by omega, .inl (by omega), by go_num, HE, hK⟩
          case measure => simp [intOf]; omega
        · have HE := HY (by rw [e0, e1]; rfl)
          clear HX HY
          go_wp2
          go_ret
          exact ⟨by rw [HE.out]; rfl, hK⟩
    · have HE : Hid (evM es c k = -1) := Lib.hid (evM_none (fun j h1 h2 => HN.out j h1 (by omega)))
      have i2 : ¬ ((q : Int) < (es.length : Int)) := by omega
      clear HN
      go_wp2
      go_ret
      exact ⟨by rw [HE.out]; rfl, hK⟩
theorem rev_find {ns : List Nt} {p : Int} {j : Nat} (hj : j < ns.length) (hno : ∀ q, j < q → q < ns.length → (ns.getD q (0, 0, 0)).1 ≠ p) (he : (ns.getD j (0, 0, 0)).1 = p) : ns.reverse.find? (fun x => x.1 == p) = some (ns.getD j (0, 0, 0)) := by
  have e : ns = ns.take j ++ (ns.getD j (0, 0, 0) :: ns.drop (j + 1)) := by
    rw [List.getD_eq_getElem?_getD, List.getElem?_eq_getElem hj]
    show ns = ns.take j ++ ns[j] :: ns.drop (j + 1)
    rw [← List.drop_eq_getElem_cons hj, List.take_append_drop]
  have hd : (ns.drop (j + 1)).reverse.find? (fun x => x.1 == p) = none := by
    rw [List.find?_eq_none]
    intro x hx
    rw [List.mem_reverse] at hx
    obtain ⟨i, hi, ei⟩ := List.getElem_of_mem hx
    rw [List.length_drop] at hi
    have := hno (j + 1 + i) (by omega) (by omega)
    rw [List.getElem_drop] at ei
    rw [List.getD_eq_getElem?_getD, List.getElem?_eq_getElem (by omega)] at this
    simp only [Option.getD_some] at this
    rw [ei] at this
    simpa using this
  conv => lhs; rw [e]
  rw [List.reverse_append, List.reverse_cons, List.append_assoc, List.find?_append, hd]
  generalize ns.getD j (0, 0, 0) = y at he ⊢
  have hy : (y.1 == p) = true := by simp [he]
  simp [hy]
theorem rev_none {ns : List Nt} {p : Int} (hno : ∀ q, q < ns.length → (ns.getD q (0, 0, 0)).1 ≠ p) : ns.reverse.find? (fun x => x.1 == p) = none := by
  rw [List.find?_eq_none]
  intro x hx
  rw [List.mem_reverse] at hx
  obtain ⟨i, hi, ei⟩ := List.getElem_of_mem hx
  have := hno i hi
  rw [List.getD_eq_getElem?_getD, List.getElem?_eq_getElem hi] at this
  simp only [Option.getD_some] at this
  rw [ei] at this
  simpa using this
theorem l14Reading_any (w : World) (v : BV) (dss : List (List Dd)) (b : Bd) (c p : Nat) (h : RdBd w v dss b) (hc : c < b.nts.length) (hp : p < b.plc.length) (hq : p < b.lst.length) (hn : (b.nts.getD c []).length ≤ 1048576) :
    Calls Try.prog 107 #[v.agg, .int .i64 c, .int .i64 p] w fun e w' => e = .returned (.tuple #[.int .i64 (rdgM b c p).1, .int .i64 (rdgM b c p).2]) ∧ Keep w w' := by
  obtain ⟨aW, aP, aL, aN, aX, aS, aF, aR, cW, cP, cL, cN, cX, cS, cF, cR, rfl⟩ := h.shapes
  have KW : Keep w (w.alloc (.cells #[.slice aW dss.length cW, .slice aP b.plc.length cP, .slice aL b.lst.length cL, .slice aN b.nts.length cN, .slice aX b.nxt.length cX, .slice aS b.sn.length cS, .slice aF b.fr.length cF, .slice aR b.rws.length cR] 29)) := (Keep.refl w).alloc _
  have h' := h.keep KW
  obtain ⟨a', c', he', hN⟩ := h'.N
  simp only [Value.slice.injEq, true_and] at he'
  obtain ⟨rfl, rfl⟩ := he'
  rcases hN with h0 | ⟨bn, on, rfl, hbn, hcn⟩
  · exfalso; rw [h0] at hc; simp at hc
  obtain ⟨a', c', he', hP⟩ := h'.P
  simp only [Value.slice.injEq, true_and] at he'
  obtain ⟨rfl, rfl⟩ := he'
  rcases hP with h0 | ⟨bp, op, rfl, hbp, hcp⟩
  · exfalso; rw [h0] at hp; simp at hp
  obtain ⟨a', c', he', hL⟩ := h'.L
  simp only [Value.slice.injEq, true_and] at he'
  obtain ⟨rfl, rfl⟩ := he'
  rcases hL with h0 | ⟨bl, ol, rfl, hbl, hcl⟩
  · exfalso; rw [h0] at hq; simp at hq
  obtain ⟨vn, d3, r3⟩ := hcn c hc
  have d1 := hcp p hp
  have d2 := hcl p hq
  have HS : Hid (∀ x, (b.nts.getD c []).reverse.find? (fun x => x.1 == (p : Int)) = some x → rdgM b c p = x.2) := Lib.hid (fun x e => by unfold rdgM; rw [e])
  have HZ : Hid ((b.nts.getD c []).reverse.find? (fun x => x.1 == (p : Int)) = none → rdgM b c p = (b.plc.getD p 0, b.lst.getD p 0)) := Lib.hid (fun e => by unfold rdgM; rw [e])
  obtain ⟨an, cn, rfl, r3⟩ := r3
  generalize b.nts.getD c [] = ns at *
  generalize b.plc.getD p 0 = xp at d1 HZ
  generalize b.lst.getD p 0 = xl at d2 HZ
  generalize rdgM b c p = ANS at HS HZ ⊢
  have j1 : (0 : Int) ≤ (c : Int) := Int.natCast_nonneg _
  have j2 : (c : Int) < (b.nts.length : Int) := by omega
  have j3 : (0 : Int) ≤ (p : Int) := Int.natCast_nonneg _
  have j4 : (p : Int) < (b.plc.length : Int) := by omega
  have j5 : (p : Int) < (b.lst.length : Int) := by omega
  have i0 : IntKind.i64.wrap ((ns.length : Int) - 1) = (ns.length : Int) - 1 := by rw [IntKind.wrap_i64]; omega
  clear hcn hcp hcl h h'
  go_enter Try.func107, Try.ntmps107
  go_wp2
  go_loop [9] (fun i => ∃ j : Nat, j ≤ ns.length ∧ i = .int .i64 ((j : Int) - 1) ∧ Hid (∀ q, j ≤ q → q < ns.length → (ns.getD q (0, 0, 0)).1 ≠ (p : Int))) (fun i => (intOf i + 1).toNat)
  case atStart => exact ⟨ns.length, Nat.le_refl _, rfl, Lib.hid (fun q h1 h2 => by omega)⟩
  case round =>
    obtain ⟨j, hj, rfl, hno⟩ := hrel
    cases j with
    | zero =>
      have HE : Hid (ANS = (xp, xl)) := Lib.hid (HZ.out (rev_none (fun q hq => hno.out q (Nat.zero_le _) hq)))
      go_wp2
      go_quiet (fail)
      go_wp2
      go_ret2
      exact ⟨by rw [HE.out]; rfl, KW.drewN _⟩
    | succ q =>
      have ej : ((q + 1 : Nat) : Int) - 1 = (q : Int) := by omega
      rw [ej]
      have hql : q < ns.length := hj
      rcases r3 with h0 | ⟨bq, oq, rfl, hbq, hcq⟩
      · exfalso; rw [h0] at hql; simp at hql
      obtain ⟨g0, g1, g2⟩ := atN (hcq q _ (nts_get hql))
      have HF := fun e => Lib.hid (HS.out _ (rev_find hql (fun q' h1 h2 => hno.out q' h1 h2) e))
      have HN : (ns.getD q (0, 0, 0)).1 ≠ (p : Int) → Hid (∀ q', q ≤ q' → q' < ns.length → (ns.getD q' (0, 0, 0)).1 ≠ (p : Int)) := fun e => Lib.hid (fun q' h1 h2 => by
        by_cases e' : q' = q
        · rw [e']; exact e
        · exact hno.out q' (by omega) h2)
      generalize ns.getD q (0, 0, 0) = y at g0 g1 g2 HF HN
      obtain ⟨y0, y1, y2⟩ := y
      simp only at g0 g1 g2 HF HN
      have k1 : (0 : Int) ≤ (q : Int) := Int.natCast_nonneg _
      have k2 : (q : Int) < (ns.length : Int) := by omega
      have k3 : IntKind.i64.wrap ((q : Int) - 1) = (q : Int) - 1 := by rw [IntKind.wrap_i64]; omega
      clear hcq hno ej
      by_cases e : y0 = (p : Int)
      · have HE := HF e
        have eb : (y0 == (p : Int)) = true := by simp [e]
        clear HF HN e
        go_wp2
        go_quiet (fail)
        go_wp2
        go_ret2
        exact ⟨by rw [HE.out]; rfl, KW.drewN _⟩
      · have HE := HN e
        have eb : (y0 == (p : Int)) = false := by simp [e]
        clear HF HN e
        go_wp2
        go_round
        case rel => exact ⟨q, by omega, rfl, HE⟩
        case measure => simp [intOf]
section
abbrev dC (k p v g : Int) : Obj := .cells #[.int .i64 k, .int .i64 p, .int .i64 v, .int .i64 g] 98
abbrev eC (i k : Int) (r : Bool) (p v c : Int) : Obj := .cells #[.int .i64 i, .int .i64 k, .bool r, .int .i64 p, .int .i64 v, .int .i64 c] 104
structure InL (w wr : World) (F : Nat) (out : Value) (es : List Ev) (f : List Int) : Prop where
  app : AppE wr w.heap.size out es
  row : RowAt wr F f
  keep : Keep w wr
  hF : w.heap.size ≤ F
  oF : out.ownBlock ≠ some F
structure InE (w wr : World) (F D X : Nat) (out : Value) (es : List Ev) (f : List Int) (k p v g : Int) (i q : Int) (r : Bool) (pl vl c : Int) : Prop where
  l : InL w wr F out es f
  box : wr.heap[D]? = some (dC k p v g)
  ev : wr.heap[X]? = some (eC i q r pl vl c)
  hD : w.heap.size ≤ D
  hX : w.heap.size ≤ X
  DX : D ≠ X
  FD : F ≠ D
  FX : F ≠ X
  oD : out.ownBlock ≠ some D
  oX : out.ownBlock ≠ some X
theorem InL.more {w wr wr' : World} {F : Nat} {out : Value} {es : List Ev} {f : List Int} (h : InL w wr F out es f) (k : Keep wr wr') : InL w wr' F out es f :=
  ⟨h.app.keep k, h.row.keep k, h.keep.trans k, h.hF, h.oF⟩
theorem InL.boxes {w wr : World} {F : Nat} {out : Value} {es : List Ev} {f : List Int} (h : InL w wr F out es f) (k p v g i q : Int) (r : Bool) (pl vl c : Int) :
    InE w ((wr.alloc (dC k p v g)).alloc (eC i q r pl vl c)) F wr.heap.size (wr.heap.size + 1) out es f k p v g i q r pl vl c := by
  have hs := h.keep.size
  have hR := h.row.lt
  have hl := h.app.lt
  have z : (wr.alloc (dC k p v g)).heap.size = wr.heap.size + 1 := heap_size wr _
  refine ⟨h.more (((Keep.refl wr).alloc _).alloc _), ?_, ?_, hs, by omega, by omega, by omega, by omega, fun e => ?_, fun e => ?_⟩
  · rw [heap_at, if_neg (by rw [z]; omega), heap_at, if_pos rfl]
  · rw [heap_at, if_pos z.symm]
  · have := (hl _ e).2; omega
  · have := (hl _ e).2; omega
variable {w wr : World} {F D X : Nat} {out : Value} {es : List Ev} {f : List Int} {k p v g i q pl vl c : Int} {r : Bool}
theorem InE.more {wr' : World} (h : InE w wr F D X out es f k p v g i q r pl vl c) (kk : Keep wr wr') : InE w wr' F D X out es f k p v g i q r pl vl c :=
  ⟨h.l.more kk, (Below.block kk D (Array.getElem?_eq_some_iff.1 h.box).1).trans h.box, (Below.block kk X (Array.getElem?_eq_some_iff.1 h.ev).1).trans h.ev, h.hD, h.hX, h.DX, h.FD, h.FX, h.oD, h.oX⟩
theorem InE.lt (h : InE w wr F D X out es f k p v g i q r pl vl c) : D < wr.heap.size ∧ X < wr.heap.size ∧ F < wr.heap.size :=
  ⟨(Array.getElem?_eq_some_iff.1 h.box).1, (Array.getElem?_eq_some_iff.1 h.ev).1, h.l.row.lt⟩
theorem InE.deed (h : InE w wr F D X out es f k p v g i q r pl vl c) :
    wr.cell? ⟨D, 0, none⟩ = some (.int .i64 k) ∧ wr.cell? ⟨D, 1, none⟩ = some (.int .i64 p) ∧ wr.cell? ⟨D, 2, none⟩ = some (.int .i64 v) ∧ wr.cell? ⟨D, 3, none⟩ = some (.int .i64 g) :=
  ⟨cell_of_row wr D 0 _ _ (0, 0) h.box, cell_of_row wr D 1 _ _ (0, 0) h.box, cell_of_row wr D 2 _ _ (0, 0) h.box, cell_of_row wr D 3 _ _ (0, 0) h.box⟩
theorem InE.event (h : InE w wr F D X out es f k p v g i q r pl vl c) :
    wr.cell? ⟨X, 0, none⟩ = some (.int .i64 i) ∧ wr.cell? ⟨X, 1, none⟩ = some (.int .i64 q) ∧ wr.cell? ⟨X, 2, none⟩ = some (.bool r) ∧ wr.cell? ⟨X, 3, none⟩ = some (.int .i64 pl) ∧ wr.cell? ⟨X, 4, none⟩ = some (.int .i64 vl) ∧ wr.cell? ⟨X, 5, none⟩ = some (.int .i64 c) :=
  ⟨cell_of_row wr X 0 _ _ (0, 0) h.ev, cell_of_row wr X 1 _ _ (0, 0) h.ev, cell_of_row wr X 2 _ _ (0, 0) h.ev, cell_of_row wr X 3 _ _ (0, 0) h.ev, cell_of_row wr X 4 _ _ (0, 0) h.ev, cell_of_row wr X 5 _ _ (0, 0) h.ev⟩
theorem InE.free (h : InE w wr F D X out es f k p v g i q r pl vl c) (j : Nat) : wr.frozen? ⟨X, j, none⟩ = false := frozen_of_row wr X j _ _ h.ev
theorem InE.setX (h : InE w wr F D X out es f k p v g i q r pl vl c) (j : Nat) (x : Value) {r' : Bool} {pl' vl' c' : Int}
    (he : (wr.setCell ⟨X, j, none⟩ x).heap[X]? = some (eC i q r' pl' vl' c')) : InE w (wr.setCell ⟨X, j, none⟩ x) F D X out es f k p v g i q r' pl' vl' c' := by
  have hg := grown_set wr X j x
  have a := h.l
  refine ⟨⟨a.app.kept hg (.inr h.oX), a.row.kept hg (by simp; exact fun e => h.FX e.symm), a.keep.grown hg (by simp; exact h.hX), a.hF, a.oF⟩, (hg.block D h.lt.1 (by simp; exact h.DX)).trans h.box, he, h.hD, h.hX, h.DX, h.FD, h.FX, h.oD, h.oX⟩
theorem InE.set2 (h : InE w wr F D X out es f k p v g i q r pl vl c) (x : Bool) : InE w (wr.setCell ⟨X, 2, none⟩ (.bool x)) F D X out es f k p v g i q x pl vl c :=
  h.setX 2 _ (by rw [heap_setCell_same wr X 2 _ _ _ h.ev]; rfl)
theorem InE.set4 (h : InE w wr F D X out es f k p v g i q r pl vl c) (x : Int) : InE w (wr.setCell ⟨X, 4, none⟩ (.int .i64 x)) F D X out es f k p v g i q r pl x c :=
  h.setX 4 _ (by rw [heap_setCell_same wr X 4 _ _ _ h.ev]; rfl)
theorem InE.set5 (h : InE w wr F D X out es f k p v g i q r pl vl c) (x : Int) : InE w (wr.setCell ⟨X, 5, none⟩ (.int .i64 x)) F D X out es f k p v g i q r pl vl x :=
  h.setX 5 _ (by rw [heap_setCell_same wr X 5 _ _ _ h.ev]; rfl)
theorem InE.setF (h : InE w wr F D X out es f k p v g i q r pl vl c) (j : Nat) (x : Int) : InE w (wr.setCell ⟨F, j, none⟩ (.int .i64 x)) F D X out es (f.set j x) k p v g i q r pl vl c := by
  have hg := grown_set wr F j (.int .i64 x)
  have a := h.l
  exact ⟨⟨a.app.kept hg (.inr a.oF), a.row.set j x, a.keep.grown hg (by simp; exact a.hF), a.hF, a.oF⟩, (hg.block D h.lt.1 (by simp; exact fun e => h.FD e.symm)).trans h.box, (hg.block X h.lt.2.1 (by simp; exact fun e => h.FX e.symm)).trans h.ev, h.hD, h.hX, h.DX, h.FD, h.FX, h.oD, h.oX⟩
theorem InE.hit (h : InE w wr F D X out es f k p v g i q r pl vl c) {o : Obj} {v' : Value} {w' : World} (e : Ev)
    (ho : w'.ownsRow w.heap.size 104 6 v' (es.length + 1) (es.flatMap cE ++ cE e)) (hg : (wr.alloc o).grownBy w' out.ownBlock) (hb : v'.ownBlock = out.ownBlock ∨ v'.ownBlock = some (wr.heap.size + 1)) :
    InE w w' F D X v' (es ++ [e]) f k p v g i q r pl vl c := by
  have h1 := h.more ((Keep.refl wr).alloc o)
  obtain ⟨a1, a2, a3⟩ := h1.lt
  have apart : ∀ n, n < (wr.alloc o).heap.size → out.ownBlock ≠ some n → v'.ownBlock ≠ some n := fun n hn hne e => by
    rcases hb with hb | hb
    · exact hne (hb ▸ e)
    · rw [hb] at e; have := Option.some.inj e; rw [heap_size] at hn; omega
  exact ⟨⟨appT_hit ho, h1.l.row.kept hg h1.l.oF, h1.l.keep.grown hg h1.l.app.ge, h1.l.hF, apart F a3 h1.l.oF⟩, (hg.block D a1 (fun e => h1.oD e.symm)).trans h1.box, (hg.block X a2 (fun e => h1.oX e.symm)).trans h1.ev, h1.hD, h1.hX, h1.DX, h1.FD, h1.FX, apart D a1 h1.oD, apart X a2 h1.oX⟩
theorem cE_one (e : Ev) : ∀ u ∈ cE e, u.oneCell' = true := by
  intro u hu
  simp only [cE, List.mem_cons, List.not_mem_nil, or_false] at hu
  rcases hu with rfl | rfl | rfl | rfl | rfl | rfl <;> rfl
theorem cE_new (w : World) (i q : Int) (r : Bool) (pl vl c : Int) : ∀ j u, (cE (i, q, r, pl, vl, c))[j]? = some u → (w.alloc (eC i q r pl vl c)).cell? ((⟨w.heap.size, 0, none⟩ : Addr).add j) = some u := by
  intro j u hj
  match j, hj with
  | 0, hj => simp [cE] at hj; subst hj; simp [Addr.add]
  | 1, hj => simp [cE] at hj; subst hj; simp [Addr.add]
  | 2, hj => simp [cE] at hj; subst hj; simp [Addr.add]
  | 3, hj => simp [cE] at hj; subst hj; simp [Addr.add]
  | 4, hj => simp [cE] at hj; subst hj; simp [Addr.add]
  | 5, hj => simp [cE] at hj; subst hj; simp [Addr.add]
theorem cE_newAt (w : World) (n : Nat) (hn : w.heap.size = n) (i q : Int) (r : Bool) (pl vl c : Int) : ∀ j u, (cE (i, q, r, pl, vl, c))[j]? = some u → (w.alloc (eC i q r pl vl c)).cell? ((⟨n, 0, none⟩ : Addr).add j) = some u := by
  subst hn
  exact cE_new w i q r pl vl c
end
theorem okD_kind {d : Dd} (h : okD d = true) : d.1 = 1 ∨ d.1 = 2 ∨ d.1 = 3 ∨ d.1 = 4 := by
  simp [okD, deedB] at h
  omega
theorem okD_group {d : Dd} (h : okD d = true) : 0 ≤ d.2.2.2 ∧ d.2.2.2 ≤ 9 := by
  simp [okD, deedB] at h
  omega
theorem l5Events_any (w : World) (v : Value) (dss : List (List Dd)) (h : RdW w v dss) (hx : dss.length ≤ 3) (hok : ∀ i, i < dss.length → okL (dss.getD i []) = true) :
    Calls Try.prog 79 #[v] w fun e w' => e = .returned (.int .i64 (evW dss dss.length)) ∧ Keep w w' := by
  obtain ⟨a, c, rfl, h⟩ := h
  go_enter Try.func79, Try.ntmps79
  go_wp2
  go_loopw [3, 4] (fun n i wr => ∃ k : Nat, ∃ m : Int, k ≤ dss.length ∧ n = .int .i64 m ∧ i = .int .i64 k ∧ Hid (m = evW dss k) ∧ 0 ≤ m ∧ m ≤ 10 * k ∧ Keep w wr) (fun _ i _ => dss.length - (intOf i).toNat)
  case atStart => exact ⟨0, 0, Nat.zero_le _, rfl, rfl, Lib.hid rfl, by omega, by omega, Keep.refl _⟩
  case round =>
    obtain ⟨k, m, hk, rfl, rfl, hm, m0, m1, hK⟩ := hrel
    by_cases hlt : k < dss.length
    · rcases h with h | ⟨b, o, rfl, hb, hc⟩
      · exfalso; rw [h] at hlt; simp at hlt
      obtain ⟨u, e1, r1⟩ := hc k hlt
      have d1 := (hK.cell hb).trans e1
      have r1 := r1.keep hK
      have okk := hok k hlt
      clear hc e1 hok
      obtain ⟨ds, hds⟩ : ∃ ds, ds = dss.getD k [] := ⟨_, rfl⟩
      have HDS := Lib.hid hds
      rw [← hds] at r1 okk
      clear hds
      obtain ⟨ai, ci, rfl, r1⟩ := r1
      have i1 : (0 : Int) ≤ (k : Int) := Int.natCast_nonneg _
      have i2 : (k : Int) < (dss.length : Int) := by omega
      have hl5 : ds.length ≤ 5 := by simp [okL] at okk; omega
      have hbw : b < wr.heap.size := Nat.lt_of_lt_of_le hb hK.size
      go_wp2
      obtain ⟨wo, hwo⟩ : ∃ wo : World, wo = wr := ⟨_, rfl⟩
      subst hwo
      go_loopw [3, 5] (fun n i wq => ∃ q : Nat, ∃ t : Int, q ≤ ds.length ∧ n = .int .i64 t ∧ i = .int .i64 q ∧ Hid (t = m + evK ds q) ∧ 0 ≤ t ∧ t ≤ 10 * k + 2 * q ∧ Keep wo wq) (fun _ i _ => ds.length - (intOf i).toNat)
      case atStart => exact ⟨0, m, Nat.zero_le _, rfl, rfl, Lib.hid (by simp [evK]), by omega, by omega, Keep.refl _⟩
      case round =>
        obtain ⟨q, t, hq, rfl, rfl, ht, t0, t1, hQ⟩ := hrel
        have d1 := (hQ.cell hbw).trans d1
        have hbq : b < wr.heap.size := Nat.lt_of_lt_of_le hbw hQ.size
        by_cases hlq : q < ds.length
        · rcases r1 with h | ⟨b2, o2, rfl, hb2, hc2⟩
          · exfalso; rw [h] at hlq; simp at hlq
          have AT := (hc2 q hlq).keep hb2 hQ
          have okq : okD (ds.getD q zD) = true := by
            simp only [okL, Bool.and_eq_true] at okk
            exact all_get zD okk.1 q hlq
          clear hc2 okk
          have hb3 : b2 < wr.heap.size := Nat.lt_of_lt_of_le hb2 hQ.size
          have HEV : Hid (t + evD (ds.getD q zD) = m + evK ds (q + 1)) := Lib.hid (by rw [evK, ht.out]; omega)
          clear ht
          obtain ⟨d, hd⟩ : ∃ d, d = ds.getD q zD := ⟨_, rfl⟩
          rw [← hd] at AT okq HEV
          clear hd
          have KD := okD_kind okq
          obtain ⟨x0, x1, x2, x3⟩ := d
          obtain ⟨A0, -, -, -⟩ := AT
          simp only at A0 KD
          have j1 : (0 : Int) ≤ (q : Int) := Int.natCast_nonneg _
          have j2 : (q : Int) < (ds.length : Int) := by omega
          rcases KD with rfl | rfl | rfl | rfl
          all_goals
            go_wp2
            go_roundw
            case rel => exact ⟨q + 1, _, by omega, rfl, by go_num, Lib.hid (by have := HEV.out; simp [evD] at this; omega), by omega, by omega, hQ.alloc _⟩
            case measure => simp [intOf]; omega
        · obtain rfl : q = ds.length := by omega
          go_wp2
          go_roundw
          case rel => exact ⟨k + 1, t, by omega, rfl, by go_num, Lib.hid (by rw [evW, ← HDS.out, ht.out, hm.out]), t0, by omega, hK.trans hQ⟩
          case measure => simp [intOf]; omega
    · obtain rfl : k = dss.length := by omega
      go_wp2
      go_ret
      exact ⟨by rw [hm.out]; rfl, hK⟩
theorem made_ten : (madeCells (Value.int .i64 0).cells (10 * 1)).toList = ((List.replicate 10 (0 : Int)).map (Value.int .i64)) := by
  rw [Nat.mul_one, List.map_replicate]
  exact toList_madeCells_one _ _
theorem grp_skip {i : Nat} {own o : List Int} {ds : List Dd} {k : Nat} (h : grpK i own ds k = some o) (hg : (ds.getD k zD).2.2.2 = 0) : grpK i own ds (k + 1) = some o := by
  rw [grpK, h]
  simp only [hg, if_true]
theorem grp_bad {i : Nat} {own o : List Int} {ds : List Dd} {k : Nat} (h : grpK i own ds k = some o) (hg : (ds.getD k zD).2.2.2 ≠ 0)
    (hb : o.getD (ds.getD k zD).2.2.2.toNat 0 ≠ 0 ∧ (o.getD (ds.getD k zD).2.2.2.toNat 0 ≠ (i : Int) + 1 ∨ k = 0 ∨ (ds.getD (k - 1) zD).2.2.2 ≠ (ds.getD k zD).2.2.2)) : grpK i own ds (k + 1) = none := by
  rw [grpK, h]
  simp only
  rw [if_neg hg, if_pos hb]
theorem grp_own {i : Nat} {own o : List Int} {ds : List Dd} {k : Nat} (h : grpK i own ds k = some o) (hg : (ds.getD k zD).2.2.2 ≠ 0)
    (hb : ¬ (o.getD (ds.getD k zD).2.2.2.toNat 0 ≠ 0 ∧ (o.getD (ds.getD k zD).2.2.2.toNat 0 ≠ (i : Int) + 1 ∨ k = 0 ∨ (ds.getD (k - 1) zD).2.2.2 ≠ (ds.getD k zD).2.2.2))) :
    grpK i own ds (k + 1) = some (o.set (ds.getD k zD).2.2.2.toNat ((i : Int) + 1)) := by
  rw [grpK, h]
  simp only
  rw [if_neg hg, if_neg hb]
theorem grp_out {dss : List (List Dd)} {k : Nat} {own : List Int} (hk : k < dss.length) (h : grpW dss k = some own) {q : Nat} (hq : q ≤ (dss.getD k []).length) (hn : grpK k own (dss.getD k []) q = none) : grpB dss = false := by
  have h1 : grpW dss (k + 1) = none := by
    rw [grpW, h]
    exact grpK_none hn _ hq
  rw [grpB, grpW_none h1 _ hk]
  rfl
theorem l5Groups_any (w : World) (v : Value) (dss : List (List Dd)) (h : RdW w v dss) (hx : dss.length ≤ 3) (hok : ∀ i, i < dss.length → okL (dss.getD i []) = true) :
    Calls Try.prog 80 #[v] w fun e w' => e = .returned (.bool (grpB dss)) ∧ Keep w w' := by
  obtain ⟨a, c, rfl, h⟩ := h
  obtain ⟨i0, hi, hz0, hz1, hz2⟩ := info_parts Try.infoI
  go_enter Try.func80, Try.ntmps80
  go_wp2_with (at_make; refine wpList_make_full _ rfl _ _ 25 rfl w.heap.size 2 i0 (.int .i64 0) 1 Try.underlying25 hi hz0 hz1 .i64 .i64 _ _ 10 rfl rfl rfl rfl (by rw [hz2]; omega) (by unfold maxLen; omega) (Nat.le_refl _) ?_; intro w1 hown hgrow)
  have k1 : Keep w w1 := (Keep.refl w).grown hgrow (by simp)
  have rb : RowAt w1 w.heap.size (List.replicate 10 0) := by
    have o : Own w1 w.heap.size (.slice (some ⟨w.heap.size, 0, none⟩) 10 10) (List.replicate 10 0) := by
      rw [made_ten] at hown; unfold Own; simpa using hown
    rcases o.row with ⟨e, _⟩ | ⟨g, cap, e, _, hr⟩
    · cases e
    · have e1 := congrArg Value.ownBlock e
      simp [Value.ownBlock] at e1
      rw [e1]; exact hr
  clear hgrow hown hi hz0 hz1 hz2
  go_loopw [4] (fun i wr => ∃ k : Nat, ∃ own : List Int, k ≤ dss.length ∧ i = .int .i64 k ∧ Hid (grpW dss k = some own) ∧ RowAt wr w.heap.size own ∧ Keep w wr) (fun i _ => dss.length - (intOf i).toNat)
  case atStart => exact ⟨0, List.replicate 10 0, Nat.zero_le _, rfl, Lib.hid rfl, rb, k1⟩
  case round =>
    obtain ⟨k, own, hk, rfl, hG, hR, hK⟩ := hrel
    clear rb k1
    by_cases hlt : k < dss.length
    · rcases h with h | ⟨b, o, rfl, hb, hc⟩
      · exfalso; rw [h] at hlt; simp at hlt
      obtain ⟨u, e1, r1⟩ := hc k hlt
      have okk := hok k hlt
      clear hc hok
      obtain ⟨ds, hds⟩ : ∃ ds, ds = dss.getD k [] := ⟨_, rfl⟩
      have HDS := Lib.hid hds
      rw [← hds] at r1 okk
      clear hds
      obtain ⟨ai, ci, rfl, r1⟩ := r1
      have d1 := (hK.cell hb).trans e1
      have i1 : (0 : Int) ≤ (k : Int) := Int.natCast_nonneg _
      have i2 : (k : Int) < (dss.length : Int) := by omega
      have hl5 : ds.length ≤ 5 := by simp [okL] at okk; omega
      go_wp2
      go_loopw [5] (fun i wq => ∃ q : Nat, ∃ ow : List Int, q ≤ ds.length ∧ i = .int .i64 q ∧ Hid (grpK k own ds q = some ow) ∧ RowAt wq w.heap.size ow ∧ Keep w wq) (fun i _ => ds.length - (intOf i).toNat)
      case atStart => exact ⟨0, own, Nat.zero_le _, rfl, Lib.hid rfl, hR, hK⟩
      case round =>
        obtain ⟨q, ow, hq, rfl, hQ, hS, hL⟩ := hrel
        have d1 := (hL.cell hb).trans e1
        by_cases hlq : q < ds.length
        · rcases r1 with h | ⟨b2, o2, rfl, hb2, hc2⟩
          · exfalso; rw [h] at hlq; simp at hlq
          have A3 := ((hc2 q hlq).keep hb2 hL).2.2.2
          have okq : okD (ds.getD q zD) = true := by
            simp only [okL, Bool.and_eq_true] at okk
            exact all_get zD okk.1 q hlq
          have g09 : 0 ≤ (ds.getD q zD).2.2.2 ∧ (ds.getD q zD).2.2.2 ≤ 9 := okD_group okq
          clear okk okq
          have AP : 0 < q → wr.cell? ⟨b2, o2 + (q - 1) * 4 + 3, none⟩ = some (.int .i64 (ds.getD (q - 1) zD).2.2.2) := fun _ => ((hc2 (q - 1) (by omega)).keep hb2 hL).2.2.2
          clear hc2
          have S1 := @grp_skip k own ow ds q hQ.out
          have S2 := @grp_bad k own ow ds q hQ.out
          have S3 := @grp_own k own ow ds q hQ.out
          have hlen : ow.length = 10 := (grpK_len hQ.out).trans (grpW_len hG.out)
          clear hQ
          obtain ⟨g, hg⟩ : ∃ g : Nat, (ds.getD q zD).2.2.2 = (g : Int) := ⟨_, (Int.toNat_of_nonneg g09.1).symm⟩
          rw [hg] at A3 g09 S1 S2 S3
          rw [Int.toNat_natCast] at S2 S3
          clear hg
          have hg9 : g < 10 := by omega
          obtain ⟨p, hp⟩ : ∃ p : Int, p = (ds.getD (q - 1) zD).2.2.2 := ⟨_, rfl⟩
          rw [← hp] at AP S2 S3
          clear hp
          have hRC := hS.cell (j := g) (by omega)
          obtain ⟨y, hy⟩ : ∃ y : Int, y = ow.getD g 0 := ⟨_, rfl⟩
          rw [← hy] at hRC S2 S3
          clear hy g09
          have j1 : (0 : Int) ≤ (q : Int) := Int.natCast_nonneg _
          have j2 : (q : Int) < (ds.length : Int) := by omega
          have j3 : (0 : Int) ≤ (g : Int) := Int.natCast_nonneg _
          have j4 : (g : Int) < 10 := by omega
          have hbq : b < wr.heap.size := Nat.lt_of_lt_of_le hb hL.size
          have hb3 : b2 < wr.heap.size := Nat.lt_of_lt_of_le hb2 hL.size
          by_cases g0 : g = 0
          · have eg : ((g : Int) == 0) = true := by simp [g0]
            have HE := Lib.hid (S1 (by omega))
            clear S1 S2 S3 AP
            go_wp2
            go_roundw
            case rel => exact ⟨q + 1, ow, by omega, by go_num, HE, hS, hL⟩
            case measure => simp [intOf]; omega
          · have HN : Hid ((g : Int) ≠ 0) := Lib.hid (by omega)
            have eg : ((g : Int) == 0) = false := by simp; omega
            have hF := hS.free g
            clear S1
            by_cases y0 : y = 0
            · subst y0
              have HE := Lib.hid (S3 HN.out (by simp))
              clear S2 S3 AP
              go_wp2
              go_roundw
              case rel => exact ⟨q + 1, _, by omega, by go_num, HE, hS.set g _, hL.set (Nat.le_refl _) g _⟩
              case measure => simp [intOf]; omega
            · have ey : (y != 0) = true := by simp [y0]
              by_cases yk : y = (k : Int) + 1
              · subst yk
                have ek : ((k : Int) + 1 != (k : Int) + 1) = false := by simp
                by_cases q0 : q = 0
                · have eq : ((q : Int) == 0) = true := by simp [q0]
                  have HE : Hid (grpB dss = false) := Lib.hid (grp_out hlt hG.out (q := q + 1) (by rw [← HDS.out]; omega) (by rw [← HDS.out]; exact S2 HN.out ⟨y0, .inr (.inl q0)⟩))
                  clear S2 S3 AP y0 q0
                  go_wp2
                  go_ret
                  exact ⟨by rw [HE.out]; rfl, hL⟩
                · have eq : ((q : Int) == 0) = false := by simp; omega
                  have AP := AP (by omega)
                  obtain ⟨r, rfl⟩ : ∃ r : Nat, q = r + 1 := ⟨q - 1, by omega⟩
                  rw [Nat.add_sub_cancel] at AP
                  have j5 : (0 : Int) ≤ (r : Int) := Int.natCast_nonneg _
                  have j6 : (r : Int) < (ds.length : Int) := by omega
                  by_cases pg : p = (g : Int)
                  · subst pg
                    have ep : ((g : Int) != (g : Int)) = false := by simp
                    have HE := Lib.hid (S3 HN.out (by simp))
                    clear S2 S3 y0
                    go_wp2
                    go_roundw
                    case rel => exact ⟨r + 1 + 1, _, by omega, by go_num, HE, hS.set g _, hL.set (Nat.le_refl _) g _⟩
                    case measure => simp [intOf]; omega
                  · have ep : (p != (g : Int)) = true := by simp [pg]
                    have HE : Hid (grpB dss = false) := Lib.hid (grp_out hlt hG.out (q := r + 1 + 1) (by rw [← HDS.out]; omega) (by rw [← HDS.out]; exact S2 HN.out ⟨y0, .inr (.inr pg)⟩))
                    clear S2 S3 y0 pg
                    go_wp2
                    go_ret
                    exact ⟨by rw [HE.out]; rfl, hL⟩
              · have ek : (y != (k : Int) + 1) = true := by simp [yk]
                have HE : Hid (grpB dss = false) := Lib.hid (grp_out hlt hG.out (q := q + 1) (by rw [← HDS.out]; omega) (by rw [← HDS.out]; exact S2 HN.out ⟨y0, .inl yk⟩))
                clear S2 S3 AP yk y0
                go_wp2
                go_ret
                exact ⟨by rw [HE.out]; rfl, hL⟩
        · obtain rfl : q = ds.length := by omega
          go_wp2
          go_roundw
          case rel => exact ⟨k + 1, ow, by omega, by go_num, Lib.hid (by rw [grpW, hG.out, ← HDS.out]; exact hQ.out), hS, hL⟩
          case measure => simp [intOf]; omega
    · obtain rfl : k = dss.length := by omega
      go_wp2
      go_ret
      exact ⟨by rw [grpB, hG.out]; rfl, hK⟩
theorem fstE_len (g : Int) (n : Nat) (f : List Int) : (fstE g n f).length = f.length := by unfold fstE; split <;> simp
theorem l6Events_any (w : World) (v : Value) (dss : List (List Dd)) (h : RdW w v dss) (hx : dss.length ≤ 3) (hok : ∀ i, i < dss.length → okL (dss.getD i []) = true) :
    Calls Try.prog 42 #[v] w fun e w' => ∃ v', e = .returned v' ∧ AppE w' w.heap.size v' (evsW dss dss.length) ∧ Keep w w' := by
  obtain ⟨a, c, rfl, h⟩ := h
  obtain ⟨i0, hi, hz0, hz1, hz2⟩ := info_parts Try.infoI
  obtain ⟨j0, hj, hy0, hy1, hy2⟩ := info_parts Try.infoE
  have A0 : AppE (w.alloc (.cells #[] 104)) w.heap.size (.slice (some ⟨w.heap.size, 0, none⟩) 0 0) [] := appT_empty w
  go_enter Try.func42, Try.ntmps42
  go_wp2
  go_loopw [3, 4] (fun v i wr => ∃ k : Nat, ∃ m : Int, ∃ es : List Ev, k ≤ 3 ∧ i = .int .i64 m ∧ m = (k : Int) ∧ Hid (es = evBeg.take k) ∧ es.length ≤ k ∧ AppE wr w.heap.size v es ∧ Keep w wr) (fun _ i _ => 3 - (intOf i).toNat)
  case atStart => exact ⟨0, 0, [], Nat.zero_le _, rfl, rfl, Lib.hid rfl, Nat.le_refl _, A0, (Keep.refl _).alloc _⟩
  case round =>
    obtain ⟨k, m, es, hk, rfl, hm, hE, hel, ho, hK⟩ := hrel
    clear A0
    have hsz := hK.size
    by_cases hlt : k < 3
    · subst hm
      have HM : Hid (es ++ [((-1 : Int), (-1 : Int), false, (k : Int), 0, (k : Int))] = evBeg.take (k + 1)) := Lib.hid (by
        rw [hE.out]
        have : k = 0 ∨ k = 1 ∨ k = 2 := by omega
        rcases this with rfl | rfl | rfl <;> rfl)
      clear hE
      go_wp2_with (at_builtin; refine wpList_append_own_at _ rfl _ _ 68 rfl w.heap.size 104 j0 (.agg #[.int .i64 0, .int .i64 0, .bool false, .int .i64 0, .int .i64 0, .int .i64 0]) 6 48 Try.underlying68 hj hy0 hy1 hy2 rfl (by decide) _ _ _ rfl (ho.keep ((Keep.refl _).alloc _)) ⟨_, 0, none⟩ 1 1 (cE ((-1 : Int), (-1 : Int), false, (k : Int), 0, (k : Int))) rfl rfl ?c1 ?c2 ?c3 ?c4 ?c5 ?_)
      case c1 => exact cE_new _ _ _ _ _ _ _
      case c2 => exact cE_one _
      case c3 => unfold maxLen; omega
      case c4 => omega
      case c5 => simp; omega
      intro v' w1 hown' hgrow _ _
      have hK1 : Keep w w1 := (hK.alloc _).grown hgrow ho.ge
      have hA := appT_hit hown'
      clear hgrow hown'
      go_wp2
      go_roundw
      case rel => exact ⟨k + 1, _, _, by omega, rfl, by omega, HM, by simp; omega, hA, hK1⟩
      case measure => simp [intOf]; omega
    obtain rfl : m = 3 := by omega
    have HB : Hid (es = evsW dss 0) := Lib.hid (by rw [hE.out, show k = 3 by omega]; rfl)
    clear hE hm
    go_wp2
    go_loopw [3, 5] (fun v i wr => ∃ k : Nat, ∃ es : List Ev, k ≤ dss.length ∧ i = .int .i64 k ∧ Hid (es = evsW dss k) ∧ es.length ≤ 3 + 10 * k ∧ AppE wr w.heap.size v es ∧ Keep w wr) (fun _ i _ => dss.length - (intOf i).toNat)
    case atStart => exact ⟨0, es, Nat.zero_le _, rfl, HB, by omega, ho, hK⟩
    case round =>
      clear HB hel ho hK hsz hlt hk
      obtain ⟨k, es, hk, rfl, hE, hel, ho, hK⟩ := hrel
      have hsz := hK.size
      by_cases hlt : k < dss.length
      · rcases h with h | ⟨b, o, rfl, hb, hc⟩
        · exfalso; rw [h] at hlt; simp at hlt
        obtain ⟨u, e1, r1⟩ := hc k hlt
        have okk := hok k hlt
        clear hc hok
        obtain ⟨ds, hds⟩ : ∃ ds, ds = dss.getD k [] := ⟨_, rfl⟩
        have HDS := Lib.hid hds
        rw [← hds] at r1 okk
        clear hds
        obtain ⟨ai, ci, rfl, r1⟩ := r1
        have d1 := (hK.cell hb).trans e1
        have i1 : (0 : Int) ≤ (k : Int) := Int.natCast_nonneg _
        have i2 : (k : Int) < (dss.length : Int) := by omega
        have hl5 : ds.length ≤ 5 := by simp [okL] at okk; omega
        obtain ⟨wo, hwo⟩ : ∃ wo : World, wo = wr := ⟨_, rfl⟩
        subst hwo
        go_wp2_with (at_make; refine wpList_make_full _ rfl _ _ 25 rfl wo.heap.size 2 i0 (.int .i64 0) 1 Try.underlying25 hi hz0 hz1 .i64 .i64 _ _ 10 rfl rfl rfl rfl (by rw [hz2]; omega) (by unfold maxLen; omega) (Nat.le_refl _) ?_; intro w1 hown hgrow)
        have k1 : Keep wo w1 := (Keep.refl wo).grown hgrow (by simp)
        have rb : RowAt w1 wo.heap.size (List.replicate 10 0) := by
          have o : Own w1 wo.heap.size (.slice (some ⟨wo.heap.size, 0, none⟩) 10 10) (List.replicate 10 0) := by
            rw [made_ten] at hown; unfold Own; simpa using hown
          rcases o.row with ⟨e, _⟩ | ⟨g, cap, e, _, hr⟩
          · cases e
          · have e1 := congrArg Value.ownBlock e
            simp [Value.ownBlock] at e1
            rw [e1]; exact hr
        clear hgrow hown
        have L0 : InL w w1 wo.heap.size _ es (List.replicate 10 0) := ⟨ho.keep k1, rb, hK.trans k1, hsz, fun e => by have := (ho.lt _ e).2; omega⟩
        go_loopw [3, 7] (fun v i wq => ∃ q : Nat, ∃ evs : List Ev, ∃ f : List Int, q ≤ ds.length ∧ i = .int .i64 q ∧ Hid (clkE k ds es q = (evs, f)) ∧ Hid (f.length = 10) ∧ evs.length ≤ 3 + 10 * k + 2 * q ∧ InL w wq wo.heap.size v evs f) (fun _ i _ => ds.length - (intOf i).toNat)
        case atStart => exact ⟨0, es, _, Nat.zero_le _, rfl, Lib.hid rfl, Lib.hid rfl, by omega, L0⟩
        case round =>
          clear L0 rb k1 w1 d1
          obtain ⟨q, evs, f, hq, rfl, hC, hfl, hev, hI⟩ := hrel
          have d1 := (hI.keep.cell hb).trans e1
          have hbq : b < wr.heap.size := Nat.lt_of_lt_of_le hb hI.keep.size
          by_cases hlq : q < ds.length
          · rcases r1 with h | ⟨b2, o2, rfl, hb2, hc2⟩
            · exfalso; rw [h] at hlq; simp at hlq
            have AT := (hc2 q hlq).keep hb2 hI.keep
            have okq : okD (ds.getD q zD) = true := by
              simp only [okL, Bool.and_eq_true] at okk
              exact all_get zD okk.1 q hlq
            clear hc2 okk
            have hb3 : b2 < wr.heap.size := Nat.lt_of_lt_of_le hb2 hI.keep.size
            have HST : Hid (clkE k ds es (q + 1) = stepE k q (ds.getD q zD) (evs, f)) := Lib.hid (by rw [clkE, hC.out])
            clear hC
            obtain ⟨d, hd⟩ : ∃ d, d = ds.getD q zD := ⟨_, rfl⟩
            rw [← hd] at AT okq HST
            clear hd
            have KD := okD_kindE okq
            have RD := okD_restE okq
            obtain ⟨x0, x1, x2, x3⟩ := d
            obtain ⟨A0, A1, A2, A3⟩ := AT
            simp only at A0 A1 A2 A3 KD RD
            obtain ⟨-, -, r2, r3, r4⟩ := RD
            obtain ⟨g, rfl⟩ := Int.eq_ofNat_of_zero_le r2
            have j1 : (0 : Int) ≤ (q : Int) := Int.natCast_nonneg _
            have j2 : (q : Int) < (ds.length : Int) := by omega
            have j3 : (0 : Int) ≤ (g : Int) := Int.natCast_nonneg _
            have j4 : (g : Int) < 10 := by omega
            have hg9 : g < 10 := by omega
            clear r2 r3 okq
            obtain ⟨av, cv, rfl⟩ := hI.app.shape
            rcases KD with rfl | rfl | rfl | rfl
            · obtain ⟨f', hf'⟩ : ∃ f', f' = fstE (g : Int) evs.length f := ⟨_, rfl⟩
              obtain ⟨cl, hcl⟩ : ∃ cl, cl = clsE (g : Int) evs.length f := ⟨_, rfl⟩
              have HS : Hid (clkE k ds es (q + 1) = (evs ++ [((k : Int), (q : Int), true, x1, 0, cl)], f')) := Lib.hid (by rw [HST.out, hf', hcl]; rfl)
              have hfl' : Hid (f'.length = 10) := Lib.hid (by rw [hf', fstE_len]; exact hfl.out)
              have HF := Lib.hid hf'
              have HC := Lib.hid hcl
              clear HST hf' hcl
              clear r4
              go_upto_if 61 with fail
              have I1 := hI.boxes 1 x1 x2 (g : Int) (k : Int) (q : Int) true x1 0 (evs.length : Int)
              go_cut [] from 29 to 99 (fun wx => InE w wx wo.heap.size wr.heap.size (wr.heap.size + 1) (.slice av evs.length cv) evs f 1 x1 x2 g k q true x1 0 evs.length)
              case first =>
                go_wp2
                go_meet
                case rel => exact I1
              case rest =>
                clear I1 A0 A1 A2 A3 d1
                have IH := hcut
                clear hcut
                obtain ⟨t0, t1, t2, t3⟩ := IH.deed
                obtain ⟨s0, s1, s2, s3, s4, s5⟩ := IH.event
                have F2 := IH.free 2
                have F4 := IH.free 4
                have F5 := IH.free 5
                obtain ⟨z1, z2, z3⟩ := IH.lt
                go_upto_if 67 with fail
                go_cut [] from 29 to 99 (fun wx => InE w wx wo.heap.size wr.heap.size (wr.heap.size + 1) (.slice av evs.length cv) evs f' 1 x1 x2 g k q true x1 0 cl)
                case first =>
                  by_cases g0 : g = 0
                  · have n0 : (g : Int) ≤ 0 := by omega
                    have E1 : Hid (f' = f) := Lib.hid (by rw [HF.out, fstE, if_neg (by omega)])
                    have E2 : Hid (cl = (evs.length : Int)) := Lib.hid (by rw [HC.out, clsE, if_neg (by omega)])
                    go_wp2
                    go_meet
                    case rel => rw [E1.out, E2.out]; exact IH
                  · have n0 : (0 : Int) < (g : Int) := by omega
                    have gg : Hid (f'.getD g 0 = cl) := Lib.hid (by rw [HC.out, HF.out, clsE, if_pos n0, Int.toNat_natCast])
                    have hRC := IH.l.row.cell (j := g) (by rw [hfl.out]; exact hg9)
                    obtain ⟨y, hy⟩ : ∃ y, y = f.getD g 0 := ⟨_, rfl⟩
                    rw [← hy] at hRC
                    have HY := Lib.hid hy
                    have FG := IH.l.row.free g
                    clear hy g0
                    go_upto_if 73 with fail
                    go_cut [] from 29 to 99 (fun wx => InE w wx wo.heap.size wr.heap.size (wr.heap.size + 1) (.slice av evs.length cv) evs f' 1 x1 x2 g k q true x1 0 evs.length)
                    case first =>
                      by_cases y0 : y = 0
                      · have E1 : Hid (f' = f.set g (evs.length : Int)) := Lib.hid (by rw [HF.out, fstE, Int.toNat_natCast, if_pos ⟨n0, by rw [← HY.out]; exact y0⟩])
                        subst y0
                        go_wp2
                        go_meet
                        case rel => rw [E1.out]; exact IH.setF g _
                      · have E1 : Hid (f' = f) := Lib.hid (by rw [HF.out, fstE, Int.toNat_natCast, if_neg (fun e => y0 (HY.out.trans e.2))])
                        have ey : (y == 0) = false := by simp [y0]
                        clear y0
                        go_wp2
                        go_meet
                        case rel => rw [E1.out]; exact IH
                    case rest =>
                      clear t0 t1 t2 t3 s0 s1 s2 s3 s4 s5 F2 F4 F5 z1 z2 z3
                      clear hRC FG IH
                      have hRC := hcut.l.row.cell (j := g) (by rw [hfl'.out]; exact hg9)
                      rw [gg.out] at hRC
                      obtain ⟨t0, t1, t2, t3⟩ := hcut.deed
                      obtain ⟨s0, s1, s2, s3, s4, s5⟩ := hcut.event
                      have F2 := hcut.free 2
                      have F4 := hcut.free 4
                      have F5 := hcut.free 5
                      obtain ⟨z1, z2, z3⟩ := hcut.lt
                      go_wp2
                      go_meet
                      case rel => exact hcut.set5 _
                case rest =>
                  clear t0 t1 t2 t3 s0 s1 s2 s3 s4 s5 F2 F4 F5 z1 z2 z3
                  clear IH hI
                  obtain ⟨t0, t1, t2, t3⟩ := hcut.deed
                  obtain ⟨s0, s1, s2, s3, s4, s5⟩ := hcut.event
                  have F2 := hcut.free 2
                  have F4 := hcut.free 4
                  have F5 := hcut.free 5
                  obtain ⟨z1, z2, z3⟩ := hcut.lt
                  go_wp2_with (at_builtin; refine wpList_append_own_at _ rfl _ _ 68 rfl w.heap.size 104 j0 (.agg #[.int .i64 0, .int .i64 0, .bool false, .int .i64 0, .int .i64 0, .int .i64 0]) 6 48 Try.underlying68 hj hy0 hy1 hy2 rfl (by decide) _ _ _ rfl (hcut.l.app.keep ((Keep.refl _).alloc _)) ⟨_, 0, none⟩ 1 1 (cE ((k : Int), (q : Int), true, x1, 0, cl)) rfl rfl ?a1 ?a2 ?a3 ?a4 ?a5 ?_)
                  case a1 => exact cE_new _ _ _ _ _ _ _
                  case a2 => exact cE_one _
                  case a3 => unfold maxLen; omega
                  case a4 => omega
                  case a5 => simp; omega
                  intro v' w5 hown' hgrow _ hbl
                  have I5 := hcut.hit ((k : Int), (q : Int), true, x1, 0, cl) hown' hgrow hbl
                  clear hown' hgrow hbl
                  obtain ⟨es1, h1⟩ : ∃ es1, es1 = evs ++ [((k : Int), (q : Int), true, x1, 0, cl)] := ⟨_, rfl⟩
                  have l1 : es1.length ≤ evs.length + 1 := by rw [h1]; simp
                  rw [← h1] at I5
                  clear t0 t1 t2 t3 s0 s1 s2 s3 s4 s5 F2 F4 F5 z1 z2 z3
                  clear hcut
                  obtain ⟨t0, t1, t2, t3⟩ := I5.deed
                  obtain ⟨s0, s1, s2, s3, s4, s5⟩ := I5.event
                  have F2 := I5.free 2
                  have F4 := I5.free 4
                  have F5 := I5.free 5
                  obtain ⟨z1, z2, z3⟩ := I5.lt
                  have HS1 : Hid (clkE k ds es (q + 1) = (es1, f')) := Lib.hid (by rw [HS.out, h1])
                  clear h1 HS
                  go_wp2
                  go_roundw
                  case rel => exact ⟨q + 1, es1, f', by omega, by go_num, HS1, hfl', by omega, I5.l⟩
                  case measure => simp [intOf]; omega
            · obtain ⟨f', hf'⟩ : ∃ f', f' = fstE (g : Int) evs.length f := ⟨_, rfl⟩
              obtain ⟨cl, hcl⟩ : ∃ cl, cl = clsE (g : Int) evs.length f := ⟨_, rfl⟩
              have HS : Hid (clkE k ds es (q + 1) = (evs ++ [((k : Int), (q : Int), false, x1, x2, cl)], f')) := Lib.hid (by rw [HST.out, hf', hcl]; rfl)
              have hfl' : Hid (f'.length = 10) := Lib.hid (by rw [hf', fstE_len]; exact hfl.out)
              have HF := Lib.hid hf'
              have HC := Lib.hid hcl
              clear HST hf' hcl
              clear r4
              go_upto_if 61 with fail
              have I1 := hI.boxes 2 x1 x2 (g : Int) (k : Int) (q : Int) false x1 x2 (evs.length : Int)
              go_cut [] from 29 to 99 (fun wx => InE w wx wo.heap.size wr.heap.size (wr.heap.size + 1) (.slice av evs.length cv) evs f 2 x1 x2 g k q false x1 x2 evs.length)
              case first =>
                go_wp2
                go_meet
                case rel => exact I1
              case rest =>
                clear I1 A0 A1 A2 A3 d1
                have IH := hcut
                clear hcut
                obtain ⟨t0, t1, t2, t3⟩ := IH.deed
                obtain ⟨s0, s1, s2, s3, s4, s5⟩ := IH.event
                have F2 := IH.free 2
                have F4 := IH.free 4
                have F5 := IH.free 5
                obtain ⟨z1, z2, z3⟩ := IH.lt
                go_upto_if 67 with fail
                go_cut [] from 29 to 99 (fun wx => InE w wx wo.heap.size wr.heap.size (wr.heap.size + 1) (.slice av evs.length cv) evs f' 2 x1 x2 g k q false x1 x2 cl)
                case first =>
                  by_cases g0 : g = 0
                  · have n0 : (g : Int) ≤ 0 := by omega
                    have E1 : Hid (f' = f) := Lib.hid (by rw [HF.out, fstE, if_neg (by omega)])
                    have E2 : Hid (cl = (evs.length : Int)) := Lib.hid (by rw [HC.out, clsE, if_neg (by omega)])
                    go_wp2
                    go_meet
                    case rel => rw [E1.out, E2.out]; exact IH
                  · have n0 : (0 : Int) < (g : Int) := by omega
                    have gg : Hid (f'.getD g 0 = cl) := Lib.hid (by rw [HC.out, HF.out, clsE, if_pos n0, Int.toNat_natCast])
                    have hRC := IH.l.row.cell (j := g) (by rw [hfl.out]; exact hg9)
                    obtain ⟨y, hy⟩ : ∃ y, y = f.getD g 0 := ⟨_, rfl⟩
                    rw [← hy] at hRC
                    have HY := Lib.hid hy
                    have FG := IH.l.row.free g
                    clear hy g0
                    go_upto_if 73 with fail
                    go_cut [] from 29 to 99 (fun wx => InE w wx wo.heap.size wr.heap.size (wr.heap.size + 1) (.slice av evs.length cv) evs f' 2 x1 x2 g k q false x1 x2 evs.length)
                    case first =>
                      by_cases y0 : y = 0
                      · have E1 : Hid (f' = f.set g (evs.length : Int)) := Lib.hid (by rw [HF.out, fstE, Int.toNat_natCast, if_pos ⟨n0, by rw [← HY.out]; exact y0⟩])
                        subst y0
                        go_wp2
                        go_meet
                        case rel => rw [E1.out]; exact IH.setF g _
                      · have E1 : Hid (f' = f) := Lib.hid (by rw [HF.out, fstE, Int.toNat_natCast, if_neg (fun e => y0 (HY.out.trans e.2))])
                        have ey : (y == 0) = false := by simp [y0]
                        clear y0
                        go_wp2
                        go_meet
                        case rel => rw [E1.out]; exact IH
                    case rest =>
                      clear t0 t1 t2 t3 s0 s1 s2 s3 s4 s5 F2 F4 F5 z1 z2 z3
                      clear hRC FG IH
                      have hRC := hcut.l.row.cell (j := g) (by rw [hfl'.out]; exact hg9)
                      rw [gg.out] at hRC
                      obtain ⟨t0, t1, t2, t3⟩ := hcut.deed
                      obtain ⟨s0, s1, s2, s3, s4, s5⟩ := hcut.event
                      have F2 := hcut.free 2
                      have F4 := hcut.free 4
                      have F5 := hcut.free 5
                      obtain ⟨z1, z2, z3⟩ := hcut.lt
                      go_wp2
                      go_meet
                      case rel => exact hcut.set5 _
                case rest =>
                  clear t0 t1 t2 t3 s0 s1 s2 s3 s4 s5 F2 F4 F5 z1 z2 z3
                  clear IH hI
                  obtain ⟨t0, t1, t2, t3⟩ := hcut.deed
                  obtain ⟨s0, s1, s2, s3, s4, s5⟩ := hcut.event
                  have F2 := hcut.free 2
                  have F4 := hcut.free 4
                  have F5 := hcut.free 5
                  obtain ⟨z1, z2, z3⟩ := hcut.lt
                  go_wp2_with (at_builtin; refine wpList_append_own_at _ rfl _ _ 68 rfl w.heap.size 104 j0 (.agg #[.int .i64 0, .int .i64 0, .bool false, .int .i64 0, .int .i64 0, .int .i64 0]) 6 48 Try.underlying68 hj hy0 hy1 hy2 rfl (by decide) _ _ _ rfl (hcut.l.app.keep ((Keep.refl _).alloc _)) ⟨_, 0, none⟩ 1 1 (cE ((k : Int), (q : Int), false, x1, x2, cl)) rfl rfl ?a1 ?a2 ?a3 ?a4 ?a5 ?_)
                  case a1 => exact cE_new _ _ _ _ _ _ _
                  case a2 => exact cE_one _
                  case a3 => unfold maxLen; omega
                  case a4 => omega
                  case a5 => simp; omega
                  intro v' w5 hown' hgrow _ hbl
                  have I5 := hcut.hit ((k : Int), (q : Int), false, x1, x2, cl) hown' hgrow hbl
                  clear hown' hgrow hbl
                  obtain ⟨es1, h1⟩ : ∃ es1, es1 = evs ++ [((k : Int), (q : Int), false, x1, x2, cl)] := ⟨_, rfl⟩
                  have l1 : es1.length ≤ evs.length + 1 := by rw [h1]; simp
                  rw [← h1] at I5
                  clear t0 t1 t2 t3 s0 s1 s2 s3 s4 s5 F2 F4 F5 z1 z2 z3
                  clear hcut
                  obtain ⟨t0, t1, t2, t3⟩ := I5.deed
                  obtain ⟨s0, s1, s2, s3, s4, s5⟩ := I5.event
                  have F2 := I5.free 2
                  have F4 := I5.free 4
                  have F5 := I5.free 5
                  obtain ⟨z1, z2, z3⟩ := I5.lt
                  have HS1 : Hid (clkE k ds es (q + 1) = (es1, f')) := Lib.hid (by rw [HS.out, h1])
                  clear h1 HS
                  go_wp2
                  go_roundw
                  case rel => exact ⟨q + 1, es1, f', by omega, by go_num, HS1, hfl', by omega, I5.l⟩
                  case measure => simp [intOf]; omega
            · obtain ⟨f', hf'⟩ : ∃ f', f' = fstE (g : Int) evs.length f := ⟨_, rfl⟩
              obtain ⟨cl, hcl⟩ : ∃ cl, cl = clsE (g : Int) evs.length f := ⟨_, rfl⟩
              have HS : Hid (clkE k ds es (q + 1) = (evs ++ [((k : Int), (q : Int), true, x1, 0, cl), ((k : Int), (q : Int), false, x1, x2, cl)], f')) := Lib.hid (by rw [HST.out, hf', hcl]; rfl)
              have hfl' : Hid (f'.length = 10) := Lib.hid (by rw [hf', fstE_len]; exact hfl.out)
              have HF := Lib.hid hf'
              have HC := Lib.hid hcl
              clear HST hf' hcl
              have n0 : (g : Int) ≤ 0 := by have := r4 (by omega); omega
              clear r4
              go_upto_if 61 with fail
              have I1 := hI.boxes 3 x1 x2 (g : Int) (k : Int) (q : Int) true x1 0 (evs.length : Int)
              go_cut [] from 29 to 99 (fun wx => InE w wx wo.heap.size wr.heap.size (wr.heap.size + 1) (.slice av evs.length cv) evs f 3 x1 x2 g k q true x1 0 evs.length)
              case first =>
                go_wp2
                go_meet
                case rel => exact I1
              case rest =>
                clear I1 A0 A1 A2 A3 d1
                have IH := hcut
                clear hcut
                obtain ⟨t0, t1, t2, t3⟩ := IH.deed
                obtain ⟨s0, s1, s2, s3, s4, s5⟩ := IH.event
                have F2 := IH.free 2
                have F4 := IH.free 4
                have F5 := IH.free 5
                obtain ⟨z1, z2, z3⟩ := IH.lt
                go_upto_if 67 with fail
                go_cut [] from 29 to 99 (fun wx => InE w wx wo.heap.size wr.heap.size (wr.heap.size + 1) (.slice av evs.length cv) evs f' 3 x1 x2 g k q true x1 0 cl)
                case first =>
                  have E1 : Hid (f' = f) := Lib.hid (by rw [HF.out, fstE, if_neg (by omega)])
                  have E2 : Hid (cl = (evs.length : Int)) := Lib.hid (by rw [HC.out, clsE, if_neg (by omega)])
                  go_wp2
                  go_meet
                  case rel => rw [E1.out, E2.out]; exact IH
                case rest =>
                  clear t0 t1 t2 t3 s0 s1 s2 s3 s4 s5 F2 F4 F5 z1 z2 z3
                  clear IH hI
                  obtain ⟨t0, t1, t2, t3⟩ := hcut.deed
                  obtain ⟨s0, s1, s2, s3, s4, s5⟩ := hcut.event
                  have F2 := hcut.free 2
                  have F4 := hcut.free 4
                  have F5 := hcut.free 5
                  obtain ⟨z1, z2, z3⟩ := hcut.lt
                  go_wp2_with (at_builtin; refine wpList_append_own_at _ rfl _ _ 68 rfl w.heap.size 104 j0 (.agg #[.int .i64 0, .int .i64 0, .bool false, .int .i64 0, .int .i64 0, .int .i64 0]) 6 48 Try.underlying68 hj hy0 hy1 hy2 rfl (by decide) _ _ _ rfl (hcut.l.app.keep ((Keep.refl _).alloc _)) ⟨_, 0, none⟩ 1 1 (cE ((k : Int), (q : Int), true, x1, 0, cl)) rfl rfl ?a1 ?a2 ?a3 ?a4 ?a5 ?_)
                  case a1 => exact cE_new _ _ _ _ _ _ _
                  case a2 => exact cE_one _
                  case a3 => unfold maxLen; omega
                  case a4 => omega
                  case a5 => simp; omega
                  intro v' w5 hown' hgrow _ hbl
                  have I5 := hcut.hit ((k : Int), (q : Int), true, x1, 0, cl) hown' hgrow hbl
                  clear hown' hgrow hbl
                  obtain ⟨es1, h1⟩ : ∃ es1, es1 = evs ++ [((k : Int), (q : Int), true, x1, 0, cl)] := ⟨_, rfl⟩
                  have l1 : es1.length ≤ evs.length + 1 := by rw [h1]; simp
                  rw [← h1] at I5
                  clear t0 t1 t2 t3 s0 s1 s2 s3 s4 s5 F2 F4 F5 z1 z2 z3
                  clear hcut
                  obtain ⟨t0, t1, t2, t3⟩ := I5.deed
                  obtain ⟨s0, s1, s2, s3, s4, s5⟩ := I5.event
                  have F2 := I5.free 2
                  have F4 := I5.free 4
                  have F5 := I5.free 5
                  obtain ⟨z1, z2, z3⟩ := I5.lt
                  have HS1 : Hid (clkE k ds es (q + 1) = (es1 ++ [((k : Int), (q : Int), false, x1, x2, cl)], f')) := Lib.hid (by rw [HS.out, h1, List.append_assoc]; rfl)
                  clear h1 HS
                  go_upto_region 26 with fail
                  have zz : w.heap.size ≤ w5.heap.size := I5.l.keep.size
                  have I6 := I5.set2 false
                  clear t0 t1 t2 t3 s0 s1 s2 s3 s4 s5 F2 F4 F5 z1 z2 z3
                  obtain ⟨t0, t1, t2, t3⟩ := I6.deed
                  obtain ⟨s0, s1, s2, s3, s4, s5⟩ := I6.event
                  have F2 := I6.free 2
                  have F4 := I6.free 4
                  have F5 := I6.free 5
                  obtain ⟨z1, z2, z3⟩ := I6.lt
                  go_upto_region 27 with fail
                  have I7 := I6.set4 x2
                  clear t0 t1 t2 t3 s0 s1 s2 s3 s4 s5 F2 F4 F5 z1 z2 z3
                  obtain ⟨t0, t1, t2, t3⟩ := I7.deed
                  obtain ⟨s0, s1, s2, s3, s4, s5⟩ := I7.event
                  have F2 := I7.free 2
                  have F4 := I7.free 4
                  have F5 := I7.free 5
                  obtain ⟨z1, z2, z3⟩ := I7.lt
                  go_wp2_with (at_builtin; refine wpList_append_own_at _ rfl _ _ 68 rfl w.heap.size 104 j0 (.agg #[.int .i64 0, .int .i64 0, .bool false, .int .i64 0, .int .i64 0, .int .i64 0]) 6 48 Try.underlying68 hj hy0 hy1 hy2 rfl (by decide) _ _ _ rfl (I7.l.app.keep ((Keep.refl _).alloc _)) ⟨_, 0, none⟩ 1 1 (cE ((k : Int), (q : Int), false, x1, x2, cl)) rfl rfl ?b1 ?b2 ?b3 ?b4 ?b5 ?_)
                  case b1 => exact cE_newAt _ _ (by simp) _ _ _ _ _ _
                  case b2 => exact cE_one _
                  case b3 => unfold maxLen; omega
                  case b4 => omega
                  case b5 => simp; omega
                  intro v' w5 hown' hgrow _ hbl
                  have I8 := I7.hit ((k : Int), (q : Int), false, x1, x2, cl) hown' hgrow (by simpa using hbl)
                  clear hown' hgrow hbl
                  clear t0 t1 t2 t3 s0 s1 s2 s3 s4 s5 F2 F4 F5 z1 z2 z3
                  clear I5 I6 I7
                  go_wp2
                  go_roundw
                  case rel => exact ⟨q + 1, _, f', by omega, by go_num, HS1, hfl', by simp; omega, I8.l⟩
                  case measure => simp [intOf]; omega
            · have HS : Hid (clkE k ds es (q + 1) = (evs, f)) := Lib.hid (by rw [HST.out]; rfl)
              clear HST r4
              go_wp2
              go_roundw
              case rel => exact ⟨q + 1, evs, f, by omega, by go_num, HS, hfl, by omega, hI.more ((Keep.refl _).alloc _)⟩
              case measure => simp [intOf]; omega
          · obtain rfl : q = ds.length := by omega
            go_wp2
            go_roundw
            case rel => exact ⟨k + 1, evs, by omega, by go_num, Lib.hid (by rw [evsW, ← HDS.out, ← hE.out, hC.out]), by omega, hI.app, hI.keep⟩
            case measure => simp [intOf]; omega
      · obtain rfl : k = dss.length := by omega
        go_wp2
        go_ret
        exact ⟨_, rfl, by rw [← hE.out]; exact ho, hK⟩
end Go.Proofs.Ytgakfkjjkobpiaa
