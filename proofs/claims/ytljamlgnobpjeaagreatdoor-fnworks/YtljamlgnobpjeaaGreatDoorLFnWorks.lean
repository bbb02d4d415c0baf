/- At every string of bytes the law FnWorks answers true and its argument stays: the program's WorkOk, EventsIn, ShowWork and ReadWork answer as the specification's do at what is drawn, what is read has just the text that it is read from, and a work is read from its text; the listed variables of the library are as the program's text lays them. -/
import Derived.Test.YtljamlgnobpjeaaGreatDoorRows
import Derived.Test.YtljamlgnobpjeaaGreatDoorTie
import Derived.Test.YtljamlgnobpjeaaGreatDoorCards
import Derived.SevenTiedAt
import Derived.LaidMore
import Derived.Lay
import Derived.Stop.Joined
import Derived.Stop.LaidErr
import Derived.HandedShaped
import Derived.Shelf.Vars
import Derived.WalkKit
import Derived.ProofKit
import Derived.OpenShut
import Derived.ShutString
import Derived.ChangeOld
import Derived.Below
import Derived.Test.YtljamlgnobpjeaaGreatDoorDrawText
import Derived.Test.YtljamlgnobpjeaaGreatDoorReadWS
import Derived.Test.YtljamlgnobpjeaaGreatDoorReadWI
import Derived.Test.YtljamlgnobpjeaaGreatDoorShowWI
import Derived.Test.YtljamlgnobpjeaaGreatDoorEventsI
import Derived.Test.YtljamlgnobpjeaaGreatDoorMA
import Derived.Test.YtljamlgnobpjeaaGreatDoorMD
namespace Go.Proofs.YtljamlgnobpjeaaGreatDoor.fnWorks
open Go.ChangeShapes Go.WideShapes Go.ChangeAt Go.RowKit
open Go.ChangeMaps (open_string shut_string)
set_option linter.unusedVariables false

theorem own : ownKnob Tryz.prog.godebug = none := by kernel_rfl
theorem laidOut : laidOutB Tryz.prog = true := by kernel_rfl

/-- What the walk is told of a slice of bytes that came in: it is nil, or it leads to a row of cells, each fitting its kind. -/
def IsRow (k : IntKind) (w : World) (a : Option Addr) (len cap : Nat) (zs : List Int) : Prop :=
  (a = none ∧ len = 0 ∧ cap = 0 ∧ zs = []) ∨
  ∃ x, a = some x ∧ len ≤ cap ∧ cap ≤ maxLen ∧ zs.length = cap ∧ (∀ i, i < zs.length → w.cell? (x.add i) = some (.int k (zs.getD i 0))) ∧ ∀ n ∈ zs, (Lit.int k n).wf = true

set_option maxRecDepth 100000 in
set_option maxHeartbeats 8000000 in
theorem walk (a0 : Option Addr) (len0 cap0 : Nat) (z0 : List Int) (w : World) (w0 : IsRow .u8 w a0 len0 cap0 z0) (hm : ∃ m, w.cell? ⟨0, 0, none⟩ = some (.int .i64 m)) (hsx : ∃ tp p, w.cell? ⟨6, 0, none⟩ = some (.iface tp p)) (hrg : ∃ tp p, w.cell? ⟨7, 0, none⟩ = some (.iface tp p)) :
    Calls Tryz.prog 3 #[.slice a0 len0 cap0] w fun e w' => e = .returned (.bool true) ∧ Below w.heap.size w w' := by
  have hw : LibW w := ⟨hm, hsx, hrg⟩
  clear hm hsx hrg
  by_cases hbig : 4096 < len0
  · have hbb : decide (4096 < len0) = true := by simpa using hbig
    go_enter Tryz.func3, Tryz.ntmps3
    go_wp2_with (go_at_call 4; refine (big_any _ _ _ _).mono ?_; rintro e w' ⟨rfl, rfl⟩)
    go_ret
    exact ⟨rfl, Below.refl _ _⟩
  have hbb : decide (4096 < len0) = false := by simpa using hbig
  obtain ⟨zs, hzl, hrd⟩ : ∃ zs : List Int, zs.length = len0 ∧ RdB w w.heap.size a0 zs := rdb_of_row (by omega) w0
  subst hzl
  clear w0 hbig
  go_enter Tryz.func3, Tryz.ntmps3
  go_wp2_with fail
  refine (big_any _ _ _ _).mono ?_
  rintro e w' ⟨rfl, rfl⟩
  go_wp2_with fail
  refine (drawShowWork_any _ a0 cap0 zs hrd).mono ?_
  rintro e w1 ⟨v, dss, rfl, hR, hS, k1⟩
  have l1 : dss.length ≤ 1048576 := by have := hS.1; omega
  have l2 : ∀ i, i < dss.length → (dss.getD i []).length ≤ 1048576 := fun i hi => by have := hS.2 i hi; omega
  clear hS hbb
  go_wp2_with fail
  refine (implShowWork_any _ _ _ hR l1 l2).mono ?_
  rintro e w2 ⟨rfl, k2⟩
  have hR := hR.keep k2
  go_wp2_with fail
  refine (implEventsIn_any _ _ _ hR l1 l2).mono ?_
  rintro e w3 ⟨rfl, k3⟩
  have hR := hR.keep k3
  have K3 := k1.trans (k2.trans k3)
  go_wp2_with fail
  refine (drawReadWork_any _ a0 cap0 zs (hrd.up K3)).mono ?_
  rintro e w4 ⟨t, rfl, ht, k4⟩
  have hR := hR.keep k4
  have K4 := K3.trans k4
  clear k1 k2 k3 k4 K3 hrd
  have ht2 : t.length ≤ 1048576 := by omega
  have HRW : Hid (∃ (b : Bool) (R : List (List Dd)), (readW t).isSome = b ∧ (readW t).getD [] = R ∧ (b = true → showB R = t) ∧ (b = false → R = []) ∧ R.length ≤ 1048576 ∧ ∀ i, i < R.length → (R.getD i []).length ≤ 1048576) := by
    refine Lib.hid ?_
    cases hq : readW t with
    | none => exact ⟨false, [], rfl, rfl, by simp, by simp, by simp, by simp⟩
    | some x => exact ⟨true, x, rfl, rfl, fun _ => readW_show hq, by simp, (workB_small (readW_right hq)).1, (workB_small (readW_right hq)).2.2⟩
  obtain ⟨b, R, E1, E2, E3, E4, r1, r2⟩ := HRW.out
  have H1 := Lib.hid E1
  have H2 := Lib.hid E2
  have H3 := Lib.hid E3
  have H4 := Lib.hid E4
  clear E1 E2 E3 E4 HRW
  go_wp2_with fail
  refine (implReadWork_any t _ ht2 (hw.keep K4)).mono ?_
  rw [H1.out, H2.out]
  rintro e w5 ⟨v5, rfl, o5, k5⟩
  have hR := hR.keep k5
  go_wp2_with fail
  refine (specReadWork_any t _ ht2).mono ?_
  rw [H1.out, H2.out]
  rintro e w6 ⟨v6, rfl, o6, k6⟩
  have hR := hR.keep k6
  have x6 := o5.rd.keep k6
  have K6 := K4.trans (k5.trans k6)
  have bb : (b != b) = false := by simp
  clear H1 H2 o5 k5 k6 K4
  go_wp2_with fail
  refine (likeSame_any _ _ _ _ x6 o6.rd r1 r2).mono ?_
  rintro e w7 ⟨rfl, k7⟩
  have hR := hR.keep k7
  have x7 := x6.keep k7
  have ss : (showB dss != showB dss) = false := by simp
  go_wp2_with fail
  refine (specShowWork_any _ _ _ hR l1 l2).mono ?_
  rintro e w8 ⟨rfl, k8⟩
  have hR := hR.keep k8
  have x8 := x7.keep k8
  have ee : (evB dss != evB dss) = false := by simp
  go_wp2_with fail
  refine (specEventsIn_any _ _ _ hR l1 l2).mono ?_
  rintro e w9 ⟨rfl, k9⟩
  have hR := hR.keep k9
  have x9 := x8.keep k9
  go_wp2_with fail
  refine (implWorkOk_any _ _ _ hR l1 l2).mono ?_
  rintro e w10 ⟨rfl, k10⟩
  have hR := hR.keep k10
  have ww : (workB dss != workB dss) = false := by simp
  go_wp2_with fail
  refine (specWorkOk_any _ _ _ hR l1 l2).mono ?_
  rintro e w11 ⟨rfl, k11⟩
  have hR := hR.keep k11
  have x11 := x9.keep (k10.trans k11)
  have K11 := K6.trans (k7.trans (k8.trans (k9.trans (k10.trans k11))))
  clear x6 x7 x8 x9 k7 k8 k9 k10 k11 K6 o6
  have tail : ∀ W : World, Keep w11 W → True := fun _ _ => trivial
  clear tail
  go_upto_region 11 with fail
  go_cut [76] from 13 (fun s76 wx => s76 = .bool false ∧ Keep w11 wx)
  case first =>
    cases b
    · have hR0 := H4.out rfl
      subst hR0
      obtain ⟨a7, c7, rfl, -⟩ := x11
      go_wp2
      go_meet
      case rel => exact ⟨rfl, Keep.refl _⟩
    · have HT := Lib.hid (H3.out rfl)
      go_wp2_with fail
      refine (implShowWork_any _ _ _ x11 r1 r2).mono ?_
      rw [HT.out]
      rintro e w12 ⟨rfl, k12⟩
      have tt : (t != t) = false := by simp
      go_wp2
      go_meet
      case rel => exact ⟨rfl, k12⟩
  case rest =>
    obtain ⟨rfl, KC⟩ := hcut
    have hR := hR.keep KC
    have K12 := K11.trans KC
    clear K11 KC x11 H3 H4
    cases hb : workB dss
    · have HS : Hid (showB dss = []) := Lib.hid (by rw [showB, hb]; rfl)
      have HE : Hid (evB dss = -1) := Lib.hid (by rw [evB, hb]; rfl)
      have HB := Lib.hid hb
      have se : (showB dss).isEmpty = true := by rw [HS.out]; rfl
      have ev : (evB dss == -1) = true := by rw [HE.out]; rfl
      clear hb
      go_wp2_with fail
      refine (specWorkOk_any _ _ _ hR l1 l2).mono ?_
      rw [HB.out]
      rintro e w13 ⟨rfl, k13⟩
      go_wp2
      go_ret
      exact ⟨rfl, K12.trans k13⟩
    · have HT : Hid (readW (showB dss) = some dss) := Lib.hid (show_readW hb)
      have h6 : evB dss ≤ 6 := by
        rw [evB, if_pos hb]
        simp only [workB, Bool.and_eq_true, decide_eq_true_eq] at hb
        exact hb.1.2
      have HB := Lib.hid hb
      have sl := showB_len dss
      clear hb
      go_wp2_with fail
      refine (specWorkOk_any _ _ _ hR l1 l2).mono ?_
      rw [HB.out]
      rintro e w13 ⟨rfl, k13⟩
      have hR := hR.keep k13
      go_wp2_with fail
      refine (implReadWork_any (showB dss) _ (by omega) (hw.keep (K12.trans k13))).mono ?_
      rw [HT.out]
      rintro e w14 ⟨v14, rfl, o14, k14⟩
      have hR := hR.keep k14
      go_wp2_with fail
      refine (likeSame_any _ _ _ _ o14.rd hR l1 l2).mono ?_
      rintro e w15 ⟨rfl, k15⟩
      go_wp2
      go_ret
      exact ⟨rfl, (K12.trans k13).trans (k14.trans k15)⟩

abbrev laidL : List (String × DataW Unit) := [("math/bits.deBruijn32tab", Rows.laid_math_bits_deBruijn32tab), ("math/bits.deBruijn64tab", Rows.laid_math_bits_deBruijn64tab), ("internal/strconv.uint64pow10", Rows.laid_internal_strconv_uint64pow10), ("unicode/utf8.acceptRanges", Rows.laid_unicode_utf8_acceptRanges), ("strconv.ErrRange", Rows.laid_strconv_ErrRange), ("strconv.ErrSyntax", Rows.laid_strconv_ErrSyntax), ("unicode/utf8.first", Rows.laid_unicode_utf8_first)]

theorem door_met (os : Os) (args : Array Value) : laidMetH Tryz.prog laidL ((World.laidAll Tryz.prog os laidL).forCall (fun _ _ => 0) ⟨#[], args, []⟩).memory := by
  rw [MakeChecks.laidMetH_plain _ _ _ (by kernel_rfl)]
  exact laidMet_laidAll _ (by kernel_rfl) (by kernel_rfl)

theorem returns_laid_shaped {H : Type} {enc : TypeId × Value → H} {a : Assume} {C : Checked} {os : Os} {f : FuncId} {fn : Func} {s : ChangeSpec} {conds : List PathCond} {apart fresh handsOn again : Bool} {X : World → Array Value → Prop}
    (hX : ∀ (w w' : World) (args : Array Value), w.heap = w'.heap → X w args → X w' args)
    (own : ownKnob C.prog.godebug = none) (started : os.Started) (noInit : C.prog.inits.idxOf? f = none) (hfn : C.prog.funcs[f]? = some fn)
    (witness : ∃ (w : World) (tape : Tape) (i : Input), w.os = os ∧ (w.forCall tape i).Shaped C.prog ∧ i.vars = [] ∧ Input.okWide C.prog (w.forCall tape i) .any w.heap.size f i ∧
      ((s.pre enc C.prog fn conds apart (w.forCall tape i).memory i.args ∧ X (w.forCall tape i).memory i.args) ∧ sizedMet enc C.prog fn (OpenSpec.ofChange s) apart (w.forCall tape i).memory i.args) ∧ a.holds C.prog (lone (Frame.enter C.prog f i.args .normal) [] (w.forCall tape i)))
    (contract : ∀ (W : World) (base : Nat) (args : Array Value) (ds gs : List (DataW H)) (before : List MemPlace),
      (∀ (j : Nat) t v, fn.params[j]? = some t → args[j]? = some v → Value.okWide C.prog W .any base t v) →
      DataW.Whole enc C.prog fn.params.toList s.vars apart W args.toList ds gs before → X W args → W.ShapedOpen C.prog →
      Calls C.prog f args W fun e W' => ∃ v, e = .returned v ∧ s.post enc C.prog fn apart fresh handsOn again W args v W') :
    ReturnsInHanded a C os f .any (fun w args => (s.pre enc C.prog fn conds apart w args ∧ X w args) ∧ sizedMet enc C.prog fn (OpenSpec.ofChange s) apart w args) (s.post enc C.prog fn apart fresh handsOn again) := by
  refine returnsInHanded_of_calls own started noInit witness ?_
  intro w tape i _ hsh _ hok hpre _
  obtain ⟨_, _, _, fn', hfn', _, _, _, _, hval⟩ := hok
  have e : fn' = fn := Option.some.inj (hfn'.symm.trans hfn)
  subst e
  obtain ⟨⟨⟨ds, gs, before, hw, hc⟩, hx⟩, hz⟩ := hpre
  have hw' := DataW.Whole.of_heap (w' := w.forCall tape i) (by rfl) hw
  refine (contract (w.forCall tape i) w.heap.size i.args ds gs before hval hw' (hX _ _ _ (by rfl) hx) hsh).mono fun e W' ⟨v, he, hp⟩ => ?_
  subst he
  exact ChangeSpec.post_blind hp

/-- What a listed sentinel's cell holds. -/
theorem laid_cell {r : List (String × DataW Unit)} {n nm : String} {d : DataW Unit} {W : World} {g t : Nat} {ms : Array (String × TypeId)} (h : laidMet Tryz.prog ((n, .iface nm d) :: r) W)
    (hg : Tryz.prog.globalNamed n = some g) (ht : (Tryz.prog.globals[g]?).map (·.type) = some t) (hi : Tryz.prog.underlying t = some (.interface ms)) : ∃ tp p, W.cell? ⟨g, 0, none⟩ = some (.iface tp p) := by
  obtain ⟨ps, ⟨g0, t0, cs0, f0, p0, q0, hg0, ht0, hv0, hd0, _, _⟩, _, _⟩ := h
  obtain rfl := Option.some.inj (hg.symm.trans hg0)
  obtain rfl := Option.some.inj (ht.symm.trans ht0)
  obtain ⟨f1, u, v, hcs, _, _⟩ := iface_of_trod hi hd0
  have hc := World.var?_cell hg0 hv0 0
  rw [Array.eq_one_of_toList hcs] at hc
  exact ⟨u, v, by simpa using hc⟩

set_option maxRecDepth 100000 in
theorem lifted (os : Os) (started : os.Started) (H : Type) (enc : TypeId × Value → H) :
    ReturnsInHanded {} Tryz.checked os 3 .any (fun w args => (Rows.fnWorksSpec.pre enc Tryz.prog Tryz.f3 [] false w args ∧ laidMetH Tryz.prog laidL w) ∧ sizedMet enc Tryz.prog Tryz.f3 (OpenSpec.ofChange Rows.fnWorksSpec) false w args)
      (Rows.fnWorksSpec.post enc Tryz.prog Tryz.f3 false true false false) := by
  refine returns_laid_shaped (C := Tryz.checked) (X := fun w _ => laidMetH Tryz.prog laidL w) (fun _ _ _ hh h => h.of_heap hh) own started (by kernel_rfl) Tryz.func3
    (ChangeSpec.witness_shaped (enc := enc) (C := Tryz.checked) (os := os) (X := fun w _ => laidMetH Tryz.prog laidL w) false (World.laidAll Tryz.prog os laidL) #[.slice none 0 0] 8 (World.laidAll_os _ _ _) (World.shaped_of_ZipB (by kernel_rfl) (by kernel_rfl)) (by kernel_rfl) (by kernel_rfl) (by kernel_rfl) (door_met os _)) ?_
  intro W base args ds gs before hval0 hW hL hsh

  have hval : ∀ (j : Nat) t v, Tryz.f3.params[j]? = some t → args[j]? = some v → Value.okWide Tryz.prog W .any base t v := hval0
  have hW' := hW
  obtain ⟨p, q, hA0, hV, rfl, hfz, hnd⟩ := hW
  have hA : DataW.TrodAll enc Tryz.prog W 0 (fun _ => true) true Tryz.f3.params.toList args.toList ds p := hA0
  rw [Tryz.params3] at hA hval
  obtain ⟨v0, vs0, d0, ds0, p0, q0, hargs, rfl, rfl, h0, r0⟩ := trodAll_cons hA
  obtain ⟨rfl, rfl, rfl⟩ := trodAll_nil r0
  obtain rfl : args = #[v0] := by cases args; simp_all
  obtain ⟨rfl, rfl⟩ := trodVars_none hV
  have k0 := h0
  have lt0 : ∀ x ∈ p0, x.block < W.heap.size := by obtain ⟨m, hm⟩ := k0; exact DataW.trod_lt m _ _ _ hm
  obtain ⟨a0, len0, cap0, rfl⟩ := okWide_slice Tryz.underlying22 (hval 0 22 v0 rfl rfl)
  obtain ⟨z0, w0⟩ : ∃ zs, IsRow .u8 W a0 len0 cap0 zs := by
    obtain ⟨fuel, hf⟩ := h0
    rcases open_ints Tryz.underlying22 Tryz.underlying5 (by kernel_rfl) hf with ⟨hcs, _⟩ | ⟨x, l, c, zs, hcs, _, hl, hm, hz, _, hcell, hwz⟩
    · simp [Value.cells] at hcs
      obtain ⟨rfl, rfl, rfl⟩ := hcs
      exact ⟨[], .inl ⟨rfl, rfl, rfl, rfl⟩⟩
    · simp [Value.cells] at hcs
      obtain ⟨rfl, rfl, rfl⟩ := hcs
      exact ⟨zs, .inr ⟨_, rfl, hl, hm, by simpa using hz, hcell, hwz⟩⟩
  have hm : ∃ m, W.cell? ⟨0, 0, none⟩ = some (.int .i64 m) := cell_of_shapedOpen_int (zero := #[.int .i64 0]) (t := 3) hsh (of_decide_eq_true (by kernel_rfl)) (by kernel_rfl) rfl (by kernel_rfl) (by kernel_rfl) Tryz.underlying3
  rw [MakeChecks.laidMetH_plain _ _ _ (by kernel_rfl)] at hL
  have hsx : ∃ tp p, W.cell? ⟨6, 0, none⟩ = some (.iface tp p) := laid_cell hL.tail.tail.tail.tail.tail (by kernel_rfl) (by kernel_rfl) Tryz.underlying67
  have hrg : ∃ tp p, W.cell? ⟨7, 0, none⟩ = some (.iface tp p) := laid_cell hL.tail.tail.tail.tail (by kernel_rfl) (by kernel_rfl) Tryz.underlying67
  clear hA0 hval0
  refine (walk a0 len0 cap0 z0 W w0 hm hsx hrg).mono fun e W' ⟨he, bel⟩ => ?_
  subst he
  exact ⟨_, rfl, _, _, _, [], _, [], hW', trodAll_mk1 (shut_bool Tryz.underlying4 _), (trodAll_cons_mk (Below.trod laidOut (by kernel_rfl) (of_decide_eq_true (by kernel_rfl)) k0 bel lt0) trodAll_mk0), rfl, bel.frame _, fun h => by cases h⟩

theorem over : Rows.fnWorksRow.holds Tryz.pinned (OpenSpec.ofChange Rows.fnWorksSpec) :=
  OpenClaim.holds_of_wide 3 Tryz.f3 rfl rfl rfl rfl rfl rfl rfl ⟨rfl, rfl, rfl, rfl, rfl⟩ rfl rfl rfl rfl rfl (by kernel_rfl) Tryz.func3 (by kernel_rfl)
    (of_decide_eq_true (by kernel_rfl)) (by unfold Func.isWrapper; first | (rw [if_pos (by decide +kernel)]; kernel_rfl) | (rw [if_neg (by decide +kernel)]; exact ⟨rfl, rfl⟩))
    (fun os started H enc _ => lifted os started H enc)

theorem carded : Rows.FnWorksCardSaid :=
  Claim7.holds_tied_plain_at .later [] [.data, .data, .data, .data, .sentinel, .sentinel, .pinned] true (true, "930392b883b15dfae6eb383a4066970d12804e572c1331ae859e5e6baaed5a70") true
    over (fun _ h => by cases h) (by kernel_rfl) (fun _ h => by cases h) fnWorks_row_tie rfl ⟨rfl, rfl⟩ (by kernel_rfl) rfl
    (fun f fn hf hfn => by
      obtain rfl : f = 3 := Option.some.inj ((show Tryz.prog.funcNamed "loop.example/g00411/laws.FnWorks" = some 3 by kernel_rfl).symm.trans hf) |>.symm
      obtain rfl : fn = Tryz.f3 := (Option.some.inj (Tryz.func3.symm.trans hfn)).symm
      exact ⟨by kernel_rfl, fun j t ht => by
        rw [Tryz.params3] at ht
        have hm : t ∈ [22] := by simpa using Array.mem_of_getElem? ht
        have hall : ([22].all fun u => !Tryz.prog.wantsStandIn u) = true := by kernel_rfl
        exact (show Tryz.prog.wantsStandIn t = false by simpa using List.all_eq_true.1 hall t hm)⟩)
    (by kernel_rfl)
#print axioms carded
end Go.Proofs.YtljamlgnobpjeaaGreatDoor.fnWorks
namespace Go.Proofs.YtljamlgnobpjeaaGreatDoor
theorem fnWorks_holds : Rows.FnWorksCardSaid := fnWorks.carded
end Go.Proofs.YtljamlgnobpjeaaGreatDoor
