/- At every list of lists of deeds the program's StrictTold answers as the specification's does, in memory of its own, and writes into no argument: the law FnExactStrictTold answers true and its argument stays. -/
import Derived.Test.YtkmjmnljkidobaaGreatRows
import Derived.WalkKit
import Derived.ProofKit
import Derived.OpenShut
import Derived.ShutString
import Derived.ChangeOld
import Derived.Below
import Derived.Conc.LeavingOf
import Derived.Test.YtkmjmnljkidobaaGreatMS
import Derived.Test.YtkmjmnljkidobaaGreatMP
import Derived.Test.YtkmjmnljkidobaaGreatMT
import Derived.Test.YtkmjmnljkidobaaGreatMK
namespace Go.Proofs.YtkmjmnljkidobaaGreat.fnExactStrictTold
open Go.ChangeShapes Go.WideShapes Go.ChangeAt Go.RowKit
open Go.ChangeMaps (open_string shut_string)
set_option linter.unusedVariables false

theorem own : ownKnob Tryz.prog.godebug = none := by kernel_rfl
theorem laidOut : laidOutB Tryz.prog = true := by kernel_rfl

set_option maxRecDepth 100000 in
set_option maxHeartbeats 8000000 in
theorem walk (v : Value) (dss : List (List Dd)) (w : World) (hr : RdW w v dss) (hl : dss.length ≤ maxLen) (hls : ∀ i, i < dss.length → (dss.getD i []).length ≤ maxLen) :
    Calls Tryz.prog 7 #[v] w fun e w' => e = .returned (.bool true) ∧ Below w.heap.size w w' := by
  go_enter Tryz.func7, Tryz.ntmps7
  go_wp2_with fail
  refine (szW_any _ _ _ hr _ (by omega) (by omega) hl hls).mono ?_
  rintro e w0 ⟨r, rfl, rfl, hd⟩
  by_cases hneg : r < 0
  · go_wp2
    go_ret
    exact ⟨rfl, Below.refl _ _⟩
  have hsum : (dss.length + lenW dss : Int) ≤ 1048576 := hd.resolve_left hneg
  have hge : (0 : Int) ≤ r := by omega
  have l1 : dss.length ≤ 1048576 := by omega
  have l2 : ∀ i, i < dss.length → (dss.getD i []).length ≤ 1048576 := fun i hi => by have := lenW_get dss i hi; omega
  have s1 : lenW dss ≤ 1048576 := by omega
  have HL : Hid (likeW dss dss = true) := Lib.hid (by unfold likeW; simp)
  clear hd hneg hsum hl hls
  have HR0 := Lib.hid hr
  have CS := Lib.hid (fun (W : World) (u : Value) (h : RdW W u dss) => specStrictTold_any W u dss h l1 l2)
  have CI := Lib.hid (fun (W : World) (u : Value) (h : RdW W u dss) => implStrictTold_any W u dss h l1 l2)
  go_wp2_with fail
  refine (toW_any _ _ _ hr l1 l2).mono ?_
  rintro e w1 ⟨v1, rfl, o1, k1⟩
  have K1 : Keep w0 w1 := k1
  go_wp2_with fail
  refine (CS.out _ _ o1.rd).mono ?_
  rintro e w3 ⟨v2, L, rfl, r3, eo, k2⟩
  replace r3 := r3.rd
  have EO := Lib.hid eo
  have hn : L.length ≤ 78125 := eo.len
  have HM := Lib.hid eo.lens
  have HMM := Lib.hid (fun i (hi : i < L.length) => Nat.le_trans (eo.lens i hi) (show 15 ≤ 1048576 by omega))
  have K3 := K1.trans k2
  clear o1 k1 k2 hr CS eo K1
  go_wp2_with fail
  refine (toW_any _ _ _ (HR0.out.keep K3) l1 l2).mono ?_
  rintro e w4 ⟨v4, rfl, ox, k4⟩
  have K4 := K3.trans k4
  have rx := ox.rd
  have z3 : w0.heap.size ≤ w3.heap.size := K3.size
  have z4 : w3.heap.size ≤ w4.heap.size := k4.size
  have r4 := r3.keep k4
  go_wp2_with fail
  refine (CI.out _ _ rx).mono ?_
  rintro e w5 ⟨v5, L5, rfl, f5, eo5, k5⟩
  obtain rfl : L5 = L := eo5.one EO.out
  have K5 := K4.trans k5
  have kx5 : Keep w4 w5 := k5
  have r5 := r4.keep k5
  have rx5 := rx.keep k5
  have z5 : w4.heap.size ≤ w5.heap.size := k5.size
  obtain ⟨G, hGe⟩ : ∃ G, G = w5.heap.size := ⟨_, rfl⟩
  rw [← hGe] at f5
  clear r4 rx eo5 k5
  go_wp2_with fail
  refine (eqII_same _ _ _ _ f5.rd r5 (by omega) HMM.out).mono ?_
  rintro e w7 ⟨rfl, k7⟩
  have K7 := K5.trans k7
  have f7 := f5.keep k7
  have rx7 := rx5.keep k7
  have kx7 := kx5.trans k7
  clear f5 r5 rx5 kx5 K5
  go_wp2_with fail
  refine (toW_any _ _ _ (HR0.out.keep K7) l1 l2).mono ?_
  rintro e w8 ⟨v8, rfl, oz, k8⟩
  have K8 := K7.trans k8
  have f8 := f7.keep k8
  have rx8 := rx7.keep k8
  have kx8 := kx7.trans k8
  have z8 : G ≤ w8.heap.size := by have := k7.size; have := k8.size; omega
  clear f7 rx7 kx7 K7 k7 k8
  go_wp2_with fail
  refine (eqW_any _ _ _ _ _ rx8 oz.rd l1 l2).mono ?_
  rw [HL.out]
  rintro e w9 ⟨rfl, k9⟩
  have K9 := K8.trans k9
  have f9 := f8.keep k9
  have kx9 := kx8.trans k9
  have z9 : G ≤ w9.heap.size := by have := k9.size; omega
  clear f8 rx8 kx8 K8 k9 oz
  have Kb9 : Keep w3 w9 := k4.trans kx9
  go_wp2_with fail
  refine (markW_any w9 w4 w3.heap.size _ _ dss ox (fun b _ hb => Below.block kx9 b hb) l1 s1 (by omega) (by omega)).mono ?_
  rintro e w10 ⟨rfl, -, om⟩
  have Kb10 := Kb9.only om (Nat.le_refl _)
  have K10 := K9.only om z3
  have r10 := r3.keep Kb10
  have f10 : FreeL w10 w4.heap.size G _ L5 := f9.above (fun q hq hl => om.block q hl (.inr hq)) om.size
  have dk : ¬ ((1 : Int) + 4 * lenW dss < 0) := by omega
  clear om Kb9 K9 f9 kx9
  go_wp2_with fail
  refine (eqII_same _ _ _ _ f10.rd r10 (by omega) HMM.out).mono ?_
  rintro e w11 ⟨rfl, k11⟩
  have K11 := K10.trans k11
  have Kb11 := Kb10.trans k11
  have f11 := f10.keep k11
  clear K10 Kb10 r10 f10 k11 dk
  go_wp2_with fail
  refine (markL_any _ _ _ _ _ f11 hn HM.out).mono ?_
  rintro e w12 ⟨n, rfl, hn12, m12, om⟩
  have Kb12 := Kb11.only om z4
  have K12 := K11.only om (by omega)
  clear om Kb11 K11 f11
  have nq : ((1 : Int) + (n : Int) != 1 + (n : Int)) = false := by simp
  have dq : ¬ ((1 : Int) + (n : Int) < 0) := by omega
  go_wp2_with fail
  refine (heldL_any _ _ _ n m12 hn HM.out).mono ?_
  rintro e w13 ⟨rfl, k13⟩
  have Kb13 := Kb12.trans k13
  have K13 := K12.trans k13
  have m13 := m12.keep k13
  clear Kb12 K12 m12 k13
  go_wp2_with fail
  refine (toW_any _ _ _ (HR0.out.keep K13) l1 l2).mono ?_
  rintro e w14 ⟨v14, rfl, ot, k14⟩
  have Kb14 := Kb13.trans k14
  have K14 := K13.trans k14
  have m14 := m13.keep k14
  clear Kb13 K13 m13 k14
  go_wp2_with fail
  refine (CI.out _ _ ot.rd).mono ?_
  rintro e w15 ⟨v15, L15, rfl, f15, eo15, k15⟩
  obtain rfl : L15 = L5 := eo15.one EO.out
  have Kb15 := Kb14.trans k15
  have K15 := K14.trans k15
  have m15 := m14.keep k15
  have r15 := f15.rd
  have q15 := r3.keep Kb15
  clear Kb14 K14 m14 k15 f15 ot eo15
  go_wp2_with fail
  refine (eqII_same _ _ _ _ r15 q15 (by omega) HMM.out).mono ?_
  rintro e w17 ⟨rfl, k17⟩
  have K17 := K15.trans k17
  have m17 := m15.keep k17
  clear K15 m15 r15 q15 k17 Kb15
  go_wp2_with fail
  refine (heldL_any _ _ _ n m17 hn HM.out).mono ?_
  rintro e w18 ⟨rfl, k18⟩
  have K18 := K17.trans k18
  clear m17
  go_wp2
  go_ret
  exact ⟨rfl, K18⟩

set_option maxRecDepth 100000 in
theorem lifted (os : Os) (started : os.Started) (H : Type) (enc : TypeId × Value → H) :
    ReturnsInHanded {} Tryz.checked os 7 .any (Rows.fnExactStrictToldSpec.pre6 enc Tryz.prog Tryz.f7 Rows.fnExactStrictToldRow.domain false) (Rows.fnExactStrictToldSpec.post enc Tryz.prog Tryz.f7 false true false false) := by
  refine returnsInHanded_of_change (C := Tryz.checked) own started (by kernel_rfl) Tryz.func7
    (ChangeSpec.witness6 (enc := enc) (C := Tryz.checked) false ⟨#[], #[.slice none 0 0], []⟩ 8 (by kernel_rfl) (by kernel_rfl) (by kernel_rfl) (by kernel_rfl)) ?_
  intro W base args ds gs before hval0 hW hcnd _

  have hval : ∀ (j : Nat) t v, Tryz.f7.params[j]? = some t → args[j]? = some v → Value.okWide Tryz.prog W .any base t v := hval0
  have hW' := hW
  obtain ⟨p, q, hA0, hV, rfl, hfz, hnd⟩ := hW
  have hA : DataW.TrodAll enc Tryz.prog W 0 (fun _ => true) true Tryz.f7.params.toList args.toList ds p := hA0
  rw [Tryz.params7] at hA hval
  obtain ⟨v0, vs0, d0, ds0, p0, q0, hargs, rfl, rfl, h0, r0⟩ := trodAll_cons hA
  obtain ⟨rfl, rfl, rfl⟩ := trodAll_nil r0
  obtain rfl : args = #[v0] := by cases args; simp_all
  obtain ⟨rfl, rfl⟩ := trodVars_none hV
  have k0 := h0
  have lt0 : ∀ x ∈ p0, x.block < W.heap.size := by obtain ⟨m, hm⟩ := k0; exact DataW.trod_lt m _ _ _ hm
  obtain ⟨dss, hr, hl, hls⟩ := open_work (hval 0 30 v0 rfl rfl) h0
  clear hA0 hval0
  refine (walk v0 dss W hr hl hls).mono fun e W' ⟨he, bel⟩ => ?_
  subst he
  exact ⟨_, rfl, _, _, _, [], _, [], hW', trodAll_mk1 (shut_bool Tryz.underlying4 _), (trodAll_cons_mk (Below.trod laidOut (by kernel_rfl) (of_decide_eq_true (by kernel_rfl)) k0 bel lt0) trodAll_mk0), rfl, bel.frame _, fun h => by cases h⟩

/-- Of a run of one goroutine: no other is there. -/
theorem leaves_of {a : Assume} {C : Checked} {os : Os} {f : FuncId} {r : Reach} {Pre : World → Array Value → Prop} {Post : World → Array Value → Value → World → Prop} (h : ReturnsInHanded a C os f r Pre Post) : ReturnsInLeavingWide a C os f r Pre Post := fun enter =>
  ReturnsInOpen.mono (fun last _ _ x => ⟨x.2.1, ⟨fun g hg => ⟨0, by
    have h1 := x.1.1
    unfold Machine.othersDone at h1
    exact eq_of_beq (List.all_eq_true.1 h1 g hg)⟩, x.1.2⟩, x.2.2⟩) (fun _ x => x) (h enter)

theorem over : Rows.fnExactStrictToldRow.holds Tryz.pinned (OpenSpec.ofChange Rows.fnExactStrictToldSpec) :=
  OpenClaim.holds_of_wide_leaving 7 Tryz.f7 rfl rfl rfl rfl rfl rfl rfl ⟨rfl, rfl, rfl, rfl, rfl⟩ rfl rfl rfl rfl rfl (by kernel_rfl) Tryz.func7 (by kernel_rfl)
    (of_decide_eq_true (by kernel_rfl)) (by unfold Func.isWrapper; first | (rw [if_pos (by decide +kernel)]; kernel_rfl) | (rw [if_neg (by decide +kernel)]; exact ⟨rfl, rfl⟩))
    (fun os started H enc _ => leaves_of (lifted os started H enc))

#print axioms over
end Go.Proofs.YtkmjmnljkidobaaGreat.fnExactStrictTold
namespace Go.Proofs.YtkmjmnljkidobaaGreat
theorem fnExactStrictTold_holds : Rows.FnExactStrictToldSaid := fnExactStrictTold.over
end Go.Proofs.YtkmjmnljkidobaaGreat
