/- At every text the program's ReadAsk answers as the specification's does, in memory of its own: the law FnExactReadAsk answers true. -/
import Derived.Test.YtflehmepjhikcaaDoorRows
import Derived.Test.YtflehmepjhikcaaDoorTie
import Derived.Test.YtflehmepjhikcaaDoorCards
import Derived.SevenTiedAt
import Derived.LaidMore
import Derived.Lay
import Derived.Stop.Joined
import Derived.Stop.LaidErr
import Derived.HandedShaped
import Derived.Shelf.Vars
import Derived.WalkKit
import Derived.ProofKit
import Derived.OpenShut
import Derived.ShutString
import Derived.ChangeOld
import Derived.Below
import Derived.Test.YtflehmepjhikcaaDoorMD
import Derived.Test.YtflehmepjhikcaaDoorMI
import Derived.Test.YtflehmepjhikcaaDoorMJ
import Derived.Deep.Cut
namespace Go.Proofs.YtflehmepjhikcaaDoor.fnExactReadAsk
open Go.ChangeShapes Go.WideShapes Go.ChangeAt Go.RowKit
open Go.ChangeMaps (open_string shut_string)
set_option linter.unusedVariables false

theorem own : ownKnob Tryd.prog.godebug = none := by kernel_rfl
theorem laidOut : laidOutB Tryd.prog = true := by kernel_rfl

set_option maxRecDepth 100000 in
set_option maxHeartbeats 8000000 in
theorem walk (s : ByteArray) (ws : s.size ≤ maxLen) (w : World) (hm : ∃ m, w.cell? ⟨4, 0, none⟩ = some (.int .i64 m)) (hno : ∃ a, w.cell? ⟨0, 0, none⟩ = some (.iface 173 (.pointer (some a)))) :
    Calls Tryd.prog 6 #[.string s] w fun e w' => e = .returned (.bool true) ∧ Below w.heap.size w w' := by
  obtain ⟨eA, hno⟩ := hno
  have XN : Hid (NoAsk w eA) := Lib.hid hno
  have XM := Lib.hid hm
  clear hno hm
  obtain ⟨l, rfl⟩ : ∃ l : List UInt8, s = ⟨l.toArray⟩ := ⟨s.data.toList, (Lib.mk_data s).symm⟩
  have hsz : (⟨l.toArray⟩ : ByteArray).size = l.length := by simp [ByteArray.size]
  by_cases hbig : 1048576 < l.length
  · go_enter Tryd.func6, Tryd.ntmps6
    go_wp2
    go_ret
    exact ⟨rfl, Below.refl _ _⟩
  have hl : l.length ≤ 1048576 := by omega
  have CS := Lib.hid (fun W => specReadAsk_any l W hl)
  have CI := Lib.hid (fun (W : World) (kW : Keep w W) => implReadAsk_at l W eA hl (XN.out.keep kW) (XM.out.elim fun m q => ⟨m, cellK_keep q kW⟩))
  obtain ⟨g1, g2⟩ := ra_len l
  obtain ⟨TF, hTF⟩ : ∃ L, L = raR l := ⟨_, rfl⟩
  obtain ⟨TR, hTR⟩ : ∃ L, L = raV l := ⟨_, rfl⟩
  obtain ⟨bt, hbt⟩ : ∃ L, L = raT l := ⟨_, rfl⟩
  rw [← hTF, ← hTR, ← hbt] at CS CI
  rw [← hTF] at g1
  rw [← hTR] at g2
  clear hTF hTR hbt
  have eb : (bt != bt) = false := by simp
  go_enter Tryd.func6, Tryd.ntmps6
  go_wp2_with fail
  refine (CS.out _).mono ?_
  rintro e w1 ⟨sF, sR, rfl, hS, hU, k1⟩
  obtain ⟨aS, cS, rfl, -⟩ := id hS
  obtain ⟨aU, cU, rfl, -⟩ := id hU
  go_upto_region 4 with fail
  obtain ⟨w2, hw⟩ : ∃ W : World, W = w1.alloc (askC (.slice aS TF.length cS) (.slice aU TR.length cU)) := ⟨_, rfl⟩
  have x0 : w2.cell? ⟨w1.heap.size, 0, none⟩ = some (.slice aS TF.length cS) := by rw [hw]; exact box_cell (Keep.refl _) 0
  have x1 : w2.cell? ⟨w1.heap.size, 1, none⟩ = some (.slice aU TR.length cU) := by rw [hw]; exact box_cell (Keep.refl _) 1
  have kk : Keep w1 w2 := by rw [hw]; exact (Keep.refl _).alloc _
  have xl : w1.heap.size < w2.heap.size := by rw [hw, heap_size]; omega
  rw [← hw]
  clear hw
  replace hS := hS.keep kk
  replace hU := hU.keep kk
  have K2 := k1.trans kk
  obtain ⟨X, hX⟩ : ∃ X, X = w1.heap.size := ⟨_, rfl⟩
  rw [← hX] at x0 x1 xl ⊢
  clear hX kk k1
  have HS0 := Lib.hid hS
  have HU0 := Lib.hid hU
  have HXC := Lib.hid (And.intro x0 (And.intro x1 xl))
  go_wp2_with fail
  refine (CI.out _ K2).mono ?_
  rintro e w3 ⟨vF, vR, rfl, hF, hG, ap, k3⟩
  replace hS := hS.keep k3
  replace hU := hU.keep k3
  replace x0 := (k3.cell xl).trans x0
  replace x1 := (k3.cell xl).trans x1
  replace xl := Nat.lt_of_lt_of_le xl k3.size
  have K3 := K2.trans k3
  have kx := k3
  obtain ⟨aF, cF, rfl, -⟩ := id hF.rd
  obtain ⟨aR, cR, rfl, -⟩ := id hG.rd
  have FL : ∀ k, (Value.slice aF TF.length cF).ownBlock = some k → k < w3.heap.size := fun k hk => (hF.lt k hk).2
  have GL : ∀ k, (Value.slice aR TR.length cR).ownBlock = some k → k < w3.heap.size := fun k hk => (hG.lt k hk).2
  go_upto_region 5 with fail
  obtain ⟨w4, hw⟩ : ∃ W : World, W = w3.alloc (askC (.slice aF TF.length cF) (.slice aR TR.length cR)) := ⟨_, rfl⟩
  have y0 : w4.cell? ⟨w3.heap.size, 0, none⟩ = some (.slice aF TF.length cF) := by rw [hw]; exact box_cell (Keep.refl _) 0
  have y1 : w4.cell? ⟨w3.heap.size, 1, none⟩ = some (.slice aR TR.length cR) := by rw [hw]; exact box_cell (Keep.refl _) 1
  have kk : Keep w3 w4 := by rw [hw]; exact (Keep.refl _).alloc _
  have yl : w3.heap.size < w4.heap.size := by rw [hw, heap_size]; omega
  rw [← hw]
  clear hw
  replace hS := hS.keep kk
  replace hU := hU.keep kk
  replace hF := hF.keep kk
  replace hG := hG.keep kk
  replace x0 := (kk.cell xl).trans x0
  replace x1 := (kk.cell xl).trans x1
  replace xl := Nat.lt_of_lt_of_le xl kk.size
  have K4 := K3.trans kk
  replace kx := kx.trans kk
  obtain ⟨Y, hY⟩ : ∃ X, X = w3.heap.size := ⟨_, rfl⟩
  rw [← hY] at y0 y1 yl FL GL ⊢
  clear hY kk k3
  go_wp2_with fail
  refine (eqAsk_same _ _ _ _ _ TF TR hF.rd hG.rd hS hU (by omega) (by omega)).mono ?_
  rintro e w5 ⟨rfl, k5⟩
  replace hS := hS.keep k5
  replace hU := hU.keep k5
  replace hF := hF.keep k5
  replace hG := hG.keep k5
  replace x0 := (k5.cell xl).trans x0
  replace x1 := (k5.cell xl).trans x1
  replace xl := Nat.lt_of_lt_of_le xl k5.size
  replace y0 := (k5.cell yl).trans y0
  replace y1 := (k5.cell yl).trans y1
  replace yl := Nat.lt_of_lt_of_le yl k5.size
  have K5 := K4.trans k5
  replace kx := kx.trans k5
  clear k5
  go_wp2_with fail
  refine (markAsk_any _ w2.heap.size _ _ TF TR 1 hF hG ap (by omega) (by omega) (by omega) (by omega)).mono ?_
  rintro e w6 ⟨rfl, mF, mR, wa, wb, ka, ga, gb⟩
  have Kq := ((kx.trans ka).grown ga (fun k hk => hF.ge k hk)).grown gb (fun k hk => hG.ge k hk)
  have K6 := K2.trans Kq
  have yla := Nat.lt_of_lt_of_le yl ka.size
  have nF : some Y ≠ (Value.slice aF TF.length cF).ownBlock := fun e => Nat.lt_irrefl _ (FL Y e.symm)
  have nG : some Y ≠ (Value.slice aR TR.length cR).ownBlock := fun e => Nat.lt_irrefl _ (GL Y e.symm)
  replace y0 := gb.cell (ga.cell ((ka.cell yl).trans y0) nF) nG
  replace y1 := gb.cell (ga.cell ((ka.cell yl).trans y1) nF) nG
  replace yl := Nat.lt_of_lt_of_le (Nat.lt_of_lt_of_le yla ga.size) gb.size
  clear hS hU x0 x1 xl hF hG ka ga gb nF nG yla kx FL GL K3 K4 K5
  have hS := HS0.out.keep Kq
  have hU := HU0.out.keep Kq
  have x0 := (Kq.cell HXC.out.2.2).trans HXC.out.1
  have x1 := (Kq.cell HXC.out.2.2).trans HXC.out.2.1
  have xl := Nat.lt_of_lt_of_le HXC.out.2.2 Kq.size
  have qF := mF.rd
  have qR := mR.rd
  clear mF mR
  go_wp2_with fail
  refine (heldAsk_any _ _ _ _ _ 1 qF qR (by omega) (by omega) (by omega) (by omega)).mono ?_
  rintro e w7 ⟨rfl, k7⟩
  replace hS := hS.keep k7
  replace hU := hU.keep k7
  replace qF := qF.keep k7
  replace qR := qR.keep k7
  replace x0 := (k7.cell xl).trans x0
  replace x1 := (k7.cell xl).trans x1
  replace xl := Nat.lt_of_lt_of_le xl k7.size
  replace y0 := (k7.cell yl).trans y0
  replace y1 := (k7.cell yl).trans y1
  replace yl := Nat.lt_of_lt_of_le yl k7.size
  have K7 := K6.trans k7
  clear k7 K6
  have nq : ((1 : Int) + TF.length + TR.length != 1 + TF.length + TR.length) = false := by simp
  have dq : ¬ ((1 : Int) + TF.length + TR.length < 0) := by omega
  go_wp2_with fail
  refine (CI.out _ K7).mono ?_
  rintro e w8 ⟨tF, tR, rfl, hM, hN, -, k8⟩
  replace hS := hS.keep k8
  replace hU := hU.keep k8
  replace qF := qF.keep k8
  replace qR := qR.keep k8
  replace x0 := (k8.cell xl).trans x0
  replace x1 := (k8.cell xl).trans x1
  replace xl := Nat.lt_of_lt_of_le xl k8.size
  replace y0 := (k8.cell yl).trans y0
  replace y1 := (k8.cell yl).trans y1
  replace yl := Nat.lt_of_lt_of_le yl k8.size
  have K8 := K7.trans k8
  have hH := hM.rd
  have hI := hN.rd
  obtain ⟨aM, cM, rfl, -⟩ := id hH
  obtain ⟨aN, cN, rfl, -⟩ := id hI
  clear hM hN k8 K7
  go_upto_region 16 with fail
  obtain ⟨w9, hw⟩ : ∃ W : World, W = w8.alloc (askC (.slice aM TF.length cM) (.slice aN TR.length cN)) := ⟨_, rfl⟩
  have z0 : w9.cell? ⟨w8.heap.size, 0, none⟩ = some (.slice aM TF.length cM) := by rw [hw]; exact box_cell (Keep.refl _) 0
  have z1 : w9.cell? ⟨w8.heap.size, 1, none⟩ = some (.slice aN TR.length cN) := by rw [hw]; exact box_cell (Keep.refl _) 1
  have kk : Keep w8 w9 := by rw [hw]; exact (Keep.refl _).alloc _
  have zl : w8.heap.size < w9.heap.size := by rw [hw, heap_size]; omega
  rw [← hw]
  clear hw
  replace hS := hS.keep kk
  replace hU := hU.keep kk
  replace qF := qF.keep kk
  replace qR := qR.keep kk
  replace hH := hH.keep kk
  replace hI := hI.keep kk
  replace x0 := (kk.cell xl).trans x0
  replace x1 := (kk.cell xl).trans x1
  replace xl := Nat.lt_of_lt_of_le xl kk.size
  replace y0 := (kk.cell yl).trans y0
  replace y1 := (kk.cell yl).trans y1
  replace yl := Nat.lt_of_lt_of_le yl kk.size
  have K9 := K8.trans kk
  obtain ⟨Z, hZ⟩ : ∃ X, X = w8.heap.size := ⟨_, rfl⟩
  rw [← hZ] at z0 z1 zl ⊢
  clear hZ kk K8
  go_wp2_with fail
  refine (eqAsk_same _ _ _ _ _ TF TR hH hI hS hU (by omega) (by omega)).mono ?_
  rintro e w10 ⟨rfl, k10⟩
  replace qF := qF.keep k10
  replace qR := qR.keep k10
  replace y0 := (k10.cell yl).trans y0
  replace y1 := (k10.cell yl).trans y1
  replace yl := Nat.lt_of_lt_of_le yl k10.size
  have K10 := K9.trans k10
  clear k10 K9 hS hU hH hI x0 x1 xl z0 z1 zl
  go_wp2_with fail
  refine (heldAsk_any _ _ _ _ _ 1 qF qR (by omega) (by omega) (by omega) (by omega)).mono ?_
  rintro e w11 ⟨rfl, k11⟩
  clear qF qR y0 y1 yl
  go_wp2
  go_ret
  exact ⟨rfl, K10.trans k11⟩

abbrev laidL : List (String × DataW Unit) := [("unicode/utf8.acceptRanges", Rows.laid_unicode_utf8_acceptRanges), ("loop.example/g00411/impl.errNoAsk", Rows.laid_loop_example_g00411_impl_errNoAsk), ("unicode/utf8.first", Rows.laid_unicode_utf8_first)]

theorem door_met (os : Os) (args : Array Value) : laidMetH Tryd.prog laidL ((World.laidAll Tryd.prog os laidL).forCall (fun _ _ => 0) ⟨#[], args, []⟩).memory := by
  rw [MakeChecks.laidMetH_plain _ _ _ (by kernel_rfl)]
  exact laidMet_laidAll _ (by kernel_rfl) (by kernel_rfl)

theorem returns_laid_shaped {H : Type} {enc : TypeId × Value → H} {a : Assume} {C : Checked} {os : Os} {f : FuncId} {fn : Func} {s : ChangeSpec} {conds : List PathCond} {apart fresh handsOn again : Bool} {X : World → Array Value → Prop}
    (hX : ∀ (w w' : World) (args : Array Value), w.heap = w'.heap → X w args → X w' args)
    (own : ownKnob C.prog.godebug = none) (started : os.Started) (noInit : C.prog.inits.idxOf? f = none) (hfn : C.prog.funcs[f]? = some fn)
    (witness : ∃ (w : World) (tape : Tape) (i : Input), w.os = os ∧ (w.forCall tape i).Shaped C.prog ∧ i.vars = [] ∧ Input.okWide C.prog (w.forCall tape i) .any w.heap.size f i ∧
      ((s.pre enc C.prog fn conds apart (w.forCall tape i).memory i.args ∧ X (w.forCall tape i).memory i.args) ∧ sizedMet enc C.prog fn (OpenSpec.ofChange s) apart (w.forCall tape i).memory i.args) ∧ a.holds C.prog (lone (Frame.enter C.prog f i.args .normal) [] (w.forCall tape i)))
    (contract : ∀ (W : World) (base : Nat) (args : Array Value) (ds gs : List (DataW H)) (before : List MemPlace),
      (∀ (j : Nat) t v, fn.params[j]? = some t → args[j]? = some v → Value.okWide C.prog W .any base t v) →
      DataW.Whole enc C.prog fn.params.toList s.vars apart W args.toList ds gs before → X W args → W.ShapedOpen C.prog →
      Calls C.prog f args W fun e W' => ∃ v, e = .returned v ∧ s.post enc C.prog fn apart fresh handsOn again W args v W') :
    ReturnsInHanded a C os f .any (fun w args => (s.pre enc C.prog fn conds apart w args ∧ X w args) ∧ sizedMet enc C.prog fn (OpenSpec.ofChange s) apart w args) (s.post enc C.prog fn apart fresh handsOn again) := by
  refine returnsInHanded_of_calls own started noInit witness ?_
  intro w tape i _ hsh _ hok hpre _
  obtain ⟨_, _, _, fn', hfn', _, _, _, _, hval⟩ := hok
  have e : fn' = fn := Option.some.inj (hfn'.symm.trans hfn)
  subst e
  obtain ⟨⟨⟨ds, gs, before, hw, hc⟩, hx⟩, hz⟩ := hpre
  have hw' := DataW.Whole.of_heap (w' := w.forCall tape i) (by rfl) hw
  refine (contract (w.forCall tape i) w.heap.size i.args ds gs before hval hw' (hX _ _ _ (by rfl) hx) hsh).mono fun e W' ⟨v, he, hp⟩ => ?_
  subst he
  exact ChangeSpec.post_blind hp

set_option maxRecDepth 100000 in
theorem lifted (os : Os) (started : os.Started) (H : Type) (enc : TypeId × Value → H) :
    ReturnsInHanded {} Tryd.checked os 6 .any (fun w args => (Rows.fnExactReadAskSpec.pre enc Tryd.prog Tryd.f6 [] false w args ∧ laidMetH Tryd.prog laidL w) ∧ sizedMet enc Tryd.prog Tryd.f6 (OpenSpec.ofChange Rows.fnExactReadAskSpec) false w args)
      (Rows.fnExactReadAskSpec.post enc Tryd.prog Tryd.f6 false true false false) := by
  refine returns_laid_shaped (C := Tryd.checked) (X := fun w _ => laidMetH Tryd.prog laidL w) (fun _ _ _ hh h => h.of_heap hh) own started (by kernel_rfl) Tryd.func6
    (ChangeSpec.witness_shaped (enc := enc) (C := Tryd.checked) (os := os) (X := fun w _ => laidMetH Tryd.prog laidL w) false (World.laidAll Tryd.prog os laidL) #[.string ⟨#[]⟩] 8 (World.laidAll_os _ _ _) (World.shaped_of_ZipB (by kernel_rfl) (by kernel_rfl)) (by kernel_rfl) (by kernel_rfl) (by kernel_rfl) (door_met os _)) ?_
  intro W base args ds gs before hval0 hW hL hsh

  have hval : ∀ (j : Nat) t v, Tryd.f6.params[j]? = some t → args[j]? = some v → Value.okWide Tryd.prog W .any base t v := hval0
  have hW' := hW
  obtain ⟨p, q, hA0, hV, rfl, hfz, hnd⟩ := hW
  have hA : DataW.TrodAll enc Tryd.prog W 0 (fun _ => true) true Tryd.f6.params.toList args.toList ds p := hA0
  rw [Tryd.params6] at hA hval
  obtain ⟨v0, vs0, d0, ds0, p0, q0, hargs, rfl, rfl, h0, r0⟩ := trodAll_cons hA
  obtain ⟨rfl, rfl, rfl⟩ := trodAll_nil r0
  obtain rfl : args = #[v0] := by cases args; simp_all
  have hV2 : DataW.TrodVars enc Tryd.prog W (fun _ => true) ["loop.example/g00411/impl.errNoAsk"] gs q := hV
  obtain ⟨g0, rfl⟩ : ∃ g0, gs = [g0] := by
    have := vars_len hV2
    match gs, this with
    | [g0], _ => exact ⟨g0, rfl⟩
  have k0 := h0
  have lt0 : ∀ x ∈ p0, x.block < W.heap.size := by obtain ⟨m, hm⟩ := k0; exact DataW.trod_lt m _ _ _ hm
  obtain ⟨s, rfl, _, _, ws⟩ := open_string Tryd.underlying9 (hval 0 9 v0 rfl rfl) h0
  have hm : ∃ m, W.cell? ⟨4, 0, none⟩ = some (.int .i64 m) := cell_of_shapedOpen_int (zero := #[.int .i64 0]) (t := 3) hsh (of_decide_eq_true (by kernel_rfl)) (by kernel_rfl) rfl (by kernel_rfl) (by kernel_rfl) Tryd.underlying3
  rw [MakeChecks.laidMetH_plain _ _ _ (by kernel_rfl)] at hL
  have hS := hL
  have hno : ∃ a, W.cell? ⟨0, 0, none⟩ = some (.iface 173 (.pointer (some a))) := sent_cell hS.tail (by kernel_rfl) (by kernel_rfl)
  clear hA0 hval0
  refine (walk s ws W hm hno).mono fun e W' ⟨he, bel⟩ => ?_
  subst he
  exact ⟨_, rfl, _, _, _, [], _, _, hW', trodAll_mk1 (shut_bool Tryd.underlying4 _), (trodAll_cons_mk (Below.trod laidOut (by kernel_rfl) (of_decide_eq_true (by kernel_rfl)) k0 bel lt0) trodAll_mk0), vars_below bel (List.forall_mem_cons.2 ⟨⟨0, 55, _, by kernel_rfl, by kernel_rfl, Tryd.underlying55⟩, List.forall_mem_nil _⟩) hV2, bel.frame _, fun h => by cases h⟩

theorem over : Rows.fnExactReadAskRow.holds Tryd.pinned (OpenSpec.ofChange Rows.fnExactReadAskSpec) :=
  OpenClaim.holds_of_wide 6 Tryd.f6 rfl rfl rfl rfl rfl rfl rfl ⟨rfl, rfl, rfl, rfl, rfl⟩ rfl rfl rfl rfl rfl (by kernel_rfl) Tryd.func6 (by kernel_rfl)
    (of_decide_eq_true (by kernel_rfl)) (by unfold Func.isWrapper; first | (rw [if_pos (by decide +kernel)]; kernel_rfl) | (rw [if_neg (by decide +kernel)]; exact ⟨rfl, rfl⟩))
    (fun os started H enc _ => lifted os started H enc)

theorem carded : Rows.FnExactReadAskCardSaid :=
  Claim7.holds_tied_plain_at .later [] [.data, .sentinel, .pinned] true (true, "43c504520087371bce286e546cab3ff60ebee0599631351e9d9a17ed5ac33bd1") true
    over (fun _ h => by cases h) (by kernel_rfl) (fun _ h => by cases h) fnExactReadAsk_row_tie rfl ⟨rfl, rfl⟩ (by kernel_rfl) rfl
    (fun f fn hf hfn => by
      obtain rfl : f = 6 := Option.some.inj ((show Tryd.prog.funcNamed "loop.example/g00411/laws.FnExactReadAsk" = some 6 by kernel_rfl).symm.trans hf) |>.symm
      obtain rfl : fn = Tryd.f6 := (Option.some.inj (Tryd.func6.symm.trans hfn)).symm
      exact ⟨by kernel_rfl, fun j t ht => by
        rw [Tryd.params6] at ht
        have hm : t ∈ [9] := by simpa using Array.mem_of_getElem? ht
        have hall : ([9].all fun u => !Tryd.prog.wantsStandIn u) = true := by kernel_rfl
        exact (show Tryd.prog.wantsStandIn t = false by simpa using List.all_eq_true.1 hall t hm)⟩)
    (by kernel_rfl)
#print axioms carded
end Go.Proofs.YtflehmepjhikcaaDoor.fnExactReadAsk
namespace Go.Proofs.YtflehmepjhikcaaDoor
theorem fnExactReadAsk_holds : Rows.FnExactReadAskCardSaid := fnExactReadAsk.carded
end Go.Proofs.YtflehmepjhikcaaDoor
