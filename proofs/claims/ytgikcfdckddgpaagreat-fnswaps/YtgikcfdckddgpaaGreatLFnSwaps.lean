/- At every string of bytes the law FnSwaps answers true and its argument stays: at what is drawn the program's StrictWeb answers as the specification's does, and of a work of reads and swaps alone all that may be told with slow ink may be told with quick ink. -/
import Derived.Test.YtgikcfdckddgpaaGreatRows
import Derived.WalkKit
import Derived.ProofKit
import Derived.OpenShut
import Derived.ShutString
import Derived.ChangeOld
import Derived.Below
import Derived.Test.YtgikcfdckddgpaaGreatNB
import Derived.Test.YtgikcfdckddgpaaGreatNR
import Derived.Test.YtgikcfdckddgpaaGreatNI
import Derived.Test.YtgikcfdckddgpaaGreatNH
import Derived.Test.YtgikcfdckddgpaaGreatNS
import Derived.Test.YtgikcfdckddgpaaGreatML
import Derived.Deep.Cut
import Derived.Deep.RegionHeld3
import Derived.Deep.QuietTactic
import Derived.BigQuiet
namespace Go.Proofs.YtgikcfdckddgpaaGreat.fnSwaps
open Go.ChangeShapes Go.WideShapes Go.ChangeAt Go.RowKit
open Go.ChangeMaps (open_string shut_string)
set_option linter.unusedVariables false

theorem own : ownKnob Tryz.prog.godebug = none := by kernel_rfl
theorem laidOut : laidOutB Tryz.prog = true := by kernel_rfl

/-- What the walk is told of a slice of bytes that came in: it is nil, or it leads to a row of cells, each fitting its kind. -/
def IsRow (k : IntKind) (w : World) (a : Option Addr) (len cap : Nat) (zs : List Int) : Prop :=
  (a = none ∧ len = 0 ∧ cap = 0 ∧ zs = []) ∨
  ∃ x, a = some x ∧ len ≤ cap ∧ cap ≤ maxLen ∧ zs.length = cap ∧ (∀ i, i < zs.length → w.cell? (x.add i) = some (.int k (zs.getD i 0))) ∧ ∀ n ∈ zs, (Lit.int k n).wf = true

set_option maxRecDepth 100000 in
set_option maxHeartbeats 8000000 in
theorem walk (a0 : Option Addr) (len0 cap0 : Nat) (z0 : List Int) (w : World) (w0 : IsRow .u8 w a0 len0 cap0 z0) :
    Calls Tryz.prog 7 #[.slice a0 len0 cap0] w fun e w' => e = .returned (.bool true) ∧ Below w.heap.size w w' := by
  by_cases hbig : 4096 < len0
  · have hbb : decide (4096 < len0) = true := by simpa using hbig
    go_enter Tryz.func7, Tryz.ntmps7
    go_wp2_with (go_at_call 9; refine (big_any _ _ _ _).mono ?_; rintro e w' ⟨rfl, rfl⟩)
    go_ret
    exact ⟨rfl, Below.refl _ _⟩
  have hbb : decide (4096 < len0) = false := by simpa using hbig
  obtain ⟨zs, hzl, hrd⟩ : ∃ zs : List Int, zs.length = len0 ∧ RdB w w.heap.size a0 zs := rdb_of_row (by omega) w0
  have hz12 : zs.length ≤ 4096 := by omega
  subst hzl
  clear w0 hbig
  have HRD := Lib.hid hrd
  go_enter Tryz.func7, Tryz.ntmps7
  go_wp2_with fail
  refine (big_any _ _ _ _).mono ?_
  rintro e w' ⟨rfl, rfl⟩
  go_wp2_with fail
  refine (drawStrictWeb_any _ a0 cap0 zs hrd).mono ?_
  rintro e w1 ⟨v, vF, vR, dss, f, r, bs, N, rfl, hQ0, hD, oF, oR, ⟨lf, lr⟩, -, k1⟩
  have l1 : dss.length ≤ 1048576 := by have := hD.1; omega
  have l2 : ∀ i, i < dss.length → (dss.getD i []).length ≤ 1048576 := fun i hi => by have := hD.2 i hi; omega
  have L2 := Lib.hid l2
  have hR := hQ0.rd
  have hF := oF.rd
  have hT := oR.rd
  have HCZ := Lib.hid oR.capz
  obtain ⟨aF, cF, rfl, -⟩ := id hF
  obtain ⟨aR, cR, rfl, -⟩ := id hT
  have HD := Lib.hid hD
  clear hD hbb l2 hQ0 oF oR
  go_upto_region 4 with fail
  obtain ⟨w2, hw⟩ : ∃ W : World, W = w1.alloc (taleC (.slice aF f.length cF) (.slice aR r.length cR)) := ⟨_, rfl⟩
  have x0 : w2.cell? ⟨w1.heap.size, 0, none⟩ = some (.slice aF f.length cF) := by rw [hw]; exact box_cell (Keep.refl _) 0
  have x1 : w2.cell? ⟨w1.heap.size, 1, none⟩ = some (.slice aR r.length cR) := by rw [hw]; exact box_cell (Keep.refl _) 1
  have k2 : Keep w1 w2 := by rw [hw]; exact (Keep.refl _).alloc _
  have xl : w1.heap.size < w2.heap.size := by rw [hw, heap_size]; omega
  rw [← hw]
  clear hw
  have K2 := k1.trans k2
  replace hR := hR.keep k2
  replace hF := hF.keep k2
  replace hT := hT.keep k2
  generalize w1.heap.size = X at x0 x1 xl ⊢
  have H2 := Lib.hid (show RdW w2 v dss ∧ Rd w2 (.slice aF f.length cF) f ∧ Rd w2 (.slice aR r.length cR) r from ⟨hR, hF, hT⟩)
  have HX := Lib.hid (show w2.cell? ⟨X, 0, none⟩ = some (.slice aF f.length cF) ∧ w2.cell? ⟨X, 1, none⟩ = some (.slice aR r.length cR) ∧ X < w2.heap.size from ⟨x0, x1, xl⟩)
  have CI := Lib.hid (fun (W : World) (kW : Keep w2 W) => implStrictWeb_any W _ _ _ dss f r (H2.out.1.keep kW) (H2.out.2.1.keep kW) (H2.out.2.2.keep kW) HCZ.out l1 L2.out (by omega) (by omega))
  have CQ := Lib.hid (fun (W : World) (kW : Keep w2 W) => specStrictWeb_any W _ _ _ dss f r (H2.out.1.keep kW) (H2.out.2.1.keep kW) (H2.out.2.2.keep kW) HCZ.out l1 L2.out (by omega) (by omega))
  have gx : (xwB dss f r).length ≤ 1048576 := by have := xwB_len dss f r; omega
  generalize xwB dss f r = L at CI CQ gx
  have xl2 : X < w2.drew.heap.size := xl
  have K2 := K2
  go_region_held3 (fun w' => w'.cell? ⟨X, 0, none⟩ = some (.slice aF f.length cF) ∧ w'.cell? ⟨X, 1, none⟩ = some (.slice aR r.length cR))
    (first | go_keep | (go_split_ands; refine ⟨?_, ?_⟩ <;> (rw [kk.cell (by assumption)]; assumption)))
    ((first
      | (go_at_call 29; refine (CI.out _ (Keep.refl w2).drew).mono ?_; rintro e wz ⟨vz, rfl, oz, kk⟩; have z2 : X < wz.heap.size := Nat.lt_of_lt_of_le xl2 kk.size; have kz := (Keep.refl w2).drew.trans kk)
      | (go_at_call 31; refine (CQ.out _ kz).mono ?_; clear kk; rintro e wy ⟨vy, rfl, oy, kk⟩; have z3 : X < wy.heap.size := Nat.lt_of_lt_of_le z2 kk.size; have ky := kz.trans kk; have oz2 := oz.rd.keep kk)
      | (go_at_call 16; refine (like_any _ _ _ L L oz2 oy.rd gx).mono ?_; clear kk; rintro e wx ⟨rfl, kk⟩)))
  all_goals
    have hLL : decide (L = L) = true := by simp
    have k3 := ky.trans kk
    clear CI CQ x0 x1 kz kk ky
    have hR3 := H2.out.1.keep k3
    have K3 := K2.trans k3
    clear H2 HX k3 oz oy oz2
    obtain ⟨wS, hwS⟩ : ∃ W : World, W = wx := ⟨_, rfl⟩
    subst hwS
    obtain ⟨i0, hi, hz0, hz1, hz2⟩ := info_parts Tryz.infoDd
    obtain ⟨j0, hj, hy0, hy1, hy2⟩ := info_parts Tryz.infoDl
    have aw0 := appW_empty wS
    have HR3 := Lib.hid hR3
    obtain ⟨av, cv, rfl, hcw⟩ := hR3
    have d6 := HD.out.1
    go_wp2
    go_loopw [5, 6] (fun v i wr => ∃ (k : Nat) (u3 : Value), u3 = v ∧ k ≤ dss.length ∧ i = .int .i64 k ∧ AppW wr wS.heap.size u3 ((dss.take k).map swC) ∧ Keep wS wr) (fun _ i _ => dss.length - (intOf i).toNat)
    case atStart => exact ⟨0, _, rfl, Nat.zero_le _, rfl, aw0, (Keep.refl wS).alloc _⟩
    case round =>
      obtain ⟨k, u3, rfl, hk, rfl, ho, hK⟩ := hrel
      clear aw0
      by_cases hlt : k < dss.length
      · rcases hcw with h0 | ⟨b, o, rfl, hb, hc⟩
        · exfalso; rw [h0] at hlt; simp at hlt
        obtain ⟨u, e1, r1⟩ := hc k hlt
        have hl7 := HD.out.2 k hlt
        have HO := Lib.hid (swW_take dss k hlt)
        clear hc
        obtain ⟨ds, hds⟩ : ∃ ds, ds = dss.getD k [] := ⟨_, rfl⟩
        rw [← hds] at r1 hl7 HO
        clear hds
        obtain ⟨ai, ci, rfl, r1⟩ := r1
        have d1 := (hK.cell hb).trans e1
        have i1 : (0 : Int) ≤ (k : Int) := Int.natCast_nonneg _
        have i2 : (k : Int) < (dss.length : Int) := by omega
        have ad0 := appD_empty wr
        go_wp2
        obtain ⟨wo, hwo⟩ : ∃ wo : World, wo = wr := ⟨_, rfl⟩
        subst hwo
        go_loopw [7, 8] (fun x i wq => ∃ (q : Nat), q ≤ ds.length ∧ i = .int .i64 q ∧ AppD wq wo.heap.size x ((ds.take q).map swD) ∧ Keep wo wq) (fun _ i _ => ds.length - (intOf i).toNat)
        case atStart => exact ⟨0, Nat.zero_le _, rfl, ad0, (Keep.refl wo).alloc _⟩
        case round =>
          obtain ⟨q, hq, rfl, hA, hQ⟩ := hrel
          clear ad0
          have d1 := ((hK.trans hQ).cell hb).trans e1
          by_cases hlq : q < ds.length
          · rcases r1 with h0 | ⟨b2, o2, rfl, hb2, hc2⟩
            · exfalso; rw [h0] at hlq; simp at hlq
            have AT := (hc2 q hlq).keep hb2 (hK.trans hQ)
            clear hc2
            have hbq : b < wr.heap.size := Nat.lt_of_lt_of_le hb (hK.trans hQ).size
            have hb3 : b2 < wr.heap.size := Nat.lt_of_lt_of_le hb2 (hK.trans hQ).size
            have j1 : (0 : Int) ≤ (q : Int) := Int.natCast_nonneg _
            have j2 : (q : Int) < (ds.length : Int) := by omega
            have HW0 := swC_take ds q hlq
            obtain ⟨d, hd⟩ : ∃ d, d = ds.getD q zD := ⟨_, rfl⟩
            rw [← hd] at AT HW0
            clear hd
            obtain ⟨x0, x1, x2, x3⟩ := d
            obtain ⟨A0, A1, A2, A3⟩ := AT
            simp only at A0 A1 A2 A3
            have ll : ((ds.take q).map swD).length ≤ 7 := by rw [List.length_map, List.length_take]; omega
            have hsz := hQ.size
            by_cases x2' : x0 = 2
            · subst x2'
              have HW : Hid ((ds.take (q + 1)).map swD = (ds.take q).map swD ++ [(3, x1, x2, 0)]) := Lib.hid HW0
              clear HW0
              obtain ⟨L', hL'⟩ : ∃ L', L' = (ds.take q).map swD := ⟨_, rfl⟩
              rw [← hL'] at hA ll HW
              clear hL'
              obtain ⟨a5, c5, rfl⟩ := hA.shape
              go_wp2_with (at_builtin; refine wpList_append_own_at _ rfl _ _ 45 rfl wo.heap.size 50 i0 (.agg #[.int .i64 0, .int .i64 0, .int .i64 0, .int .i64 0]) 4 32 Tryz.underlying45 hi hz0 hz1 hz2 rfl (by decide) _ _ _ rfl (hA.keep (((Keep.refl wr).alloc _).alloc _)) ⟨_, 0, none⟩ 1 1 (cD (3, x1, x2, 0)) rfl rfl ?c1 ?c2 ?c3 ?c4 ?c5 ?_)
              case c1 =>
                intro j u hj
                match j, hj with
                | 0, hj => simp [cD] at hj; subst hj; simp [Addr.add]
                | 1, hj => simp [cD] at hj; subst hj; simp [Addr.add]
                | 2, hj => simp [cD] at hj; subst hj; simp [Addr.add]
                | 3, hj => simp [cD] at hj; subst hj; simp [Addr.add]
                | n + 4, hj => simp [cD] at hj
              case c2 => intro u hu; simp [cD] at hu; rcases hu with rfl | rfl | rfl | rfl <;> rfl
              case c3 => unfold maxLen; first | (simp; done) | omega | (simp; omega)
              case c4 => first | (simp; done) | omega | (simp; omega)
              case c5 => first | (simp; done) | omega | (simp; omega)
              intro v' w9 hown' hgrow _ _
              have hA2 : AppD w9 wo.heap.size v' (L' ++ [(3, x1, x2, 0)]) := appD_hit hown'
              have hQ2 : Keep wo w9 := ((hQ.alloc _).alloc _).grown hgrow hA.ge
              have HA2 := Lib.hid (show AppD w9 wo.heap.size v' ((ds.take (q + 1)).map swD) by rw [HW.out]; exact hA2)
              have HQ2 := Lib.hid hQ2
              clear hgrow hown' hA hQ hA2 hQ2
              go_wp2
              go_roundw
              case rel => exact ⟨q + 1, by omega, by go_num, HA2.out, HQ2.out⟩
              case measure => simp [intOf]; omega
            · have ex : (x0 == 2) = false := by simp [x2']
              have HW : Hid ((ds.take (q + 1)).map swD = (ds.take q).map swD ++ [(x0, x1, x2, 0)]) := Lib.hid (by rw [HW0]; simp [swD, x2'])
              clear HW0 x2'
              obtain ⟨L', hL'⟩ : ∃ L', L' = (ds.take q).map swD := ⟨_, rfl⟩
              rw [← hL'] at hA ll HW
              clear hL'
              obtain ⟨a5, c5, rfl⟩ := hA.shape
              go_wp2_with (at_builtin; refine wpList_append_own_at _ rfl _ _ 45 rfl wo.heap.size 50 i0 (.agg #[.int .i64 0, .int .i64 0, .int .i64 0, .int .i64 0]) 4 32 Tryz.underlying45 hi hz0 hz1 hz2 rfl (by decide) _ _ _ rfl (hA.keep (((Keep.refl wr).alloc _).alloc _)) ⟨_, 0, none⟩ 1 1 (cD (x0, x1, x2, 0)) rfl rfl ?c1 ?c2 ?c3 ?c4 ?c5 ?_)
              case c1 =>
                intro j u hj
                match j, hj with
                | 0, hj => simp [cD] at hj; subst hj; simp [Addr.add]
                | 1, hj => simp [cD] at hj; subst hj; simp [Addr.add]
                | 2, hj => simp [cD] at hj; subst hj; simp [Addr.add]
                | 3, hj => simp [cD] at hj; subst hj; simp [Addr.add]
                | n + 4, hj => simp [cD] at hj
              case c2 => intro u hu; simp [cD] at hu; rcases hu with rfl | rfl | rfl | rfl <;> rfl
              case c3 => unfold maxLen; first | (simp; done) | omega | (simp; omega)
              case c4 => first | (simp; done) | omega | (simp; omega)
              case c5 => first | (simp; done) | omega | (simp; omega)
              intro v' w9 hown' hgrow _ _
              have hA2 : AppD w9 wo.heap.size v' (L' ++ [(x0, x1, x2, 0)]) := appD_hit hown'
              have hQ2 : Keep wo w9 := ((hQ.alloc _).alloc _).grown hgrow hA.ge
              have HA2 := Lib.hid (show AppD w9 wo.heap.size v' ((ds.take (q + 1)).map swD) by rw [HW.out]; exact hA2)
              have HQ2 := Lib.hid hQ2
              clear hgrow hown' hA hQ hA2 hQ2
              go_wp2
              go_roundw
              case rel => exact ⟨q + 1, by omega, by go_num, HA2.out, HQ2.out⟩
              case measure => simp [intOf]; omega
          · obtain rfl : q = ds.length := by omega
            rw [List.take_length] at hA
            have HO2 : Hid ((dss.take (k + 1)).map swC = (dss.take k).map swC ++ [ds.map swD]) := HO
            have wl : (ds.map swD).length ≤ 7 := by rw [List.length_map]; omega
            have hlen : ((dss.take k).map swC).length = k := by simp; omega
            generalize (dss.take k).map swC = D at ho hlen HO2
            generalize ds.map swD = L2' at hA HO2 wl
            clear HO
            obtain ⟨vs, hvs, hov, h3, h4, h5⟩ := ho
            obtain ⟨a5, c5, rfl⟩ := hA.shape
            have hsz := hQ.size
            have hsz2 := hK.size
            have hov2 := World.ownsRow.kept hov (hQ.alloc (.cells #[.slice a5 L2'.length c5] 45)).grownBy (by cases u3.ownBlock <;> simp)
            go_wp2_with (at_builtin; refine wpList_append_own_at _ rfl _ _ 24 rfl wS.heap.size 45 j0 (.slice none 0 0) 1 24 Tryz.underlying24 hj hy0 hy1 hy2 rfl (by decide) _ _ _ rfl hov2 ⟨_, 0, none⟩ 1 1 [.slice a5 L2'.length c5] rfl rfl ?c1 ?c2 ?c3 ?c4 ?c5 ?_)
            case c1 =>
              intro j u hj
              match j, hj with
              | 0, hj => simp at hj; subst hj; simp [Addr.add]
            case c2 => intro u hu; simp at hu; subst hu; rfl
            case c3 => unfold maxLen; omega
            case c4 => omega
            case c5 => simp; omega
            intro v' w9 hown' hgrow _ hblk
            have hP : AppW w9 wS.heap.size v' (D ++ [L2']) := AppW.push hvs hov h3 h4 h5 (hQ.alloc _) (Nat.le_refl _) hsz2 (hA.ownD.keep ((Keep.refl wr).alloc _)) (by rw [hlen]; exact hown') hgrow (by rw [heap_size]; exact hblk)
            have hK2 : Keep wS w9 := ((hK.trans hQ).alloc _).grown hgrow (fun g hg => (World.ownsRow.lt hov g hg).1)
            have HP := Lib.hid (show AppW w9 wS.heap.size v' ((dss.take (k + 1)).map swC) by rw [HO2.out]; exact hP)
            have HK2 := Lib.hid hK2
            clear hgrow hown' hblk hov2 h3 h4 h5 hov hA hP hK2
            go_wp2
            go_roundw
            case rel => exact ⟨k + 1, _, rfl, by omega, by go_num, HP.out, HK2.out⟩
            case measure => simp [intOf]; omega
      · obtain rfl : k = dss.length := by omega
        rw [List.take_length] at ho
        have ho : AppW wr wS.heap.size u3 (swpW dss) := ho
        have wl : (swpW dss).length ≤ 1048576 := by unfold swpW; rw [List.length_map]; omega
        have wm : ∀ i, i < (swpW dss).length → ((swpW dss).getD i []).length ≤ 1048576 := fun i hi => by
          have hi' : i < dss.length := by unfold swpW at hi; rw [List.length_map] at hi; exact hi
          rw [swW_get dss i hi']
          unfold swC
          rw [List.length_map]
          have := HD.out.2 i hi'
          omega
        have rW := ho.ownW.rd
        have HRW := Lib.hid rW
        have KR := K3.trans hK
        obtain ⟨a6, c6, rfl, -⟩ := rW
        cases hw : workB (swpW dss)
        · go_wp2_with fail
          refine (specWorkOk_any _ _ _ HRW.out wl wm).mono ?_
          rw [hw]
          rintro e wz ⟨rfl, kk⟩
          have KZ := KR.trans kk
          go_wp2
          go_ret
          exact ⟨rfl, KZ⟩
        · go_wp2_with fail
          refine (specWorkOk_any _ _ _ HRW.out wl wm).mono ?_
          rw [hw]
          rintro e wz ⟨rfl, kk⟩
          have KZ := KR.trans kk
          have CA := alike_any wz a0 cap0 zs (HRD.out.up KZ) hz12 _ (swpW dss) (HRW.out.keep kk) hw (fun f rows => swaps_strict hw f rows)
          go_wp2_with fail
          refine CA.mono ?_
          rintro e w8 ⟨rfl, k8⟩
          have K8 := KZ.trans k8
          go_wp2
          go_ret
          exact ⟨rfl, K8⟩

set_option maxRecDepth 100000 in
theorem lifted (os : Os) (started : os.Started) (H : Type) (enc : TypeId × Value → H) :
    ReturnsInHanded {} Tryz.checked os 7 .any (Rows.fnSwapsSpec.pre6 enc Tryz.prog Tryz.f7 Rows.fnSwapsRow.domain false) (Rows.fnSwapsSpec.post enc Tryz.prog Tryz.f7 false true false false) := by
  refine returnsInHanded_of_change (C := Tryz.checked) own started (by kernel_rfl) Tryz.func7
    (ChangeSpec.witness6 (enc := enc) (C := Tryz.checked) false ⟨#[], #[.slice none 0 0], []⟩ 8 (by kernel_rfl) (by kernel_rfl) (by kernel_rfl) (by kernel_rfl)) ?_
  intro W base args ds gs before hval0 hW hcnd _

  have hval : ∀ (j : Nat) t v, Tryz.f7.params[j]? = some t → args[j]? = some v → Value.okWide Tryz.prog W .any base t v := hval0
  have hW' := hW
  obtain ⟨p, q, hA0, hV, rfl, hfz, hnd⟩ := hW
  have hA : DataW.TrodAll enc Tryz.prog W 0 (fun _ => true) true Tryz.f7.params.toList args.toList ds p := hA0
  rw [Tryz.params7] at hA hval
  obtain ⟨v0, vs0, d0, ds0, p0, q0, hargs, rfl, rfl, h0, r0⟩ := trodAll_cons hA
  obtain ⟨rfl, rfl, rfl⟩ := trodAll_nil r0
  obtain rfl : args = #[v0] := by cases args; simp_all
  obtain ⟨rfl, rfl⟩ := trodVars_none hV
  have k0 := h0
  have lt0 : ∀ x ∈ p0, x.block < W.heap.size := by obtain ⟨m, hm⟩ := k0; exact DataW.trod_lt m _ _ _ hm
  obtain ⟨a0, len0, cap0, rfl⟩ := okWide_slice Tryz.underlying22 (hval 0 22 v0 rfl rfl)
  obtain ⟨z0, w0⟩ : ∃ zs, IsRow .u8 W a0 len0 cap0 zs := by
    obtain ⟨fuel, hf⟩ := h0
    rcases open_ints Tryz.underlying22 Tryz.underlying5 (by kernel_rfl) hf with ⟨hcs, _⟩ | ⟨x, l, c, zs, hcs, _, hl, hm, hz, _, hcell, hwz⟩
    · simp [Value.cells] at hcs
      obtain ⟨rfl, rfl, rfl⟩ := hcs
      exact ⟨[], .inl ⟨rfl, rfl, rfl, rfl⟩⟩
    · simp [Value.cells] at hcs
      obtain ⟨rfl, rfl, rfl⟩ := hcs
      exact ⟨zs, .inr ⟨_, rfl, hl, hm, by simpa using hz, hcell, hwz⟩⟩
  clear hA0 hval0
  refine (walk a0 len0 cap0 z0 W w0).mono fun e W' ⟨he, bel⟩ => ?_
  subst he
  exact ⟨_, rfl, _, _, _, [], _, [], hW', trodAll_mk1 (shut_bool Tryz.underlying4 _), (trodAll_cons_mk (Below.trod laidOut (by kernel_rfl) (of_decide_eq_true (by kernel_rfl)) k0 bel lt0) trodAll_mk0), rfl, bel.frame _, fun h => by cases h⟩

theorem over : Rows.fnSwapsRow.holds Tryz.pinned (OpenSpec.ofChange Rows.fnSwapsSpec) :=
  OpenClaim.holds_of_wide 7 Tryz.f7 rfl rfl rfl rfl rfl rfl rfl ⟨rfl, rfl, rfl, rfl, rfl⟩ rfl rfl rfl rfl rfl (by kernel_rfl) Tryz.func7 (by kernel_rfl)
    (of_decide_eq_true (by kernel_rfl)) (by unfold Func.isWrapper; first | (rw [if_pos (by decide +kernel)]; kernel_rfl) | (rw [if_neg (by decide +kernel)]; exact ⟨rfl, rfl⟩))
    (fun os started H enc _ => lifted os started H enc)

#print axioms over
end Go.Proofs.YtgikcfdckddgpaaGreat.fnSwaps
namespace Go.Proofs.YtgikcfdckddgpaaGreat
theorem fnSwaps_holds : Rows.FnSwapsSaid := fnSwaps.over
end Go.Proofs.YtgikcfdckddgpaaGreat
