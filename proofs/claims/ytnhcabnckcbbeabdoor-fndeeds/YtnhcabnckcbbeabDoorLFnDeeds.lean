/- At every string of bytes the law FnDeeds answers true and its argument stays: the program's DeedOk, ShowDeed and ReadDeed answer as the specification's do at what is drawn, what is read has just the text that it is read from, and a right deed is read from its text; the listed variables of the library are as the program's text lays them. -/
import Derived.Test.YtnhcabnckcbbeabDoorRows
import Derived.Test.YtnhcabnckcbbeabDoorTie
import Derived.Test.YtnhcabnckcbbeabDoorCards
import Derived.SevenTiedAt
import Derived.LaidMore
import Derived.Stop.Joined
import Derived.Stop.LaidErr
import Derived.HandedShaped
import Derived.Shelf.Vars
import Derived.WalkKit
import Derived.ProofKit
import Derived.OpenShut
import Derived.ShutString
import Derived.ChangeOld
import Derived.Below
import Derived.Test.YtnhcabnckcbbeabDoorDeedDraw2
import Derived.Test.YtnhcabnckcbbeabDoorReadDS
import Derived.Test.YtnhcabnckcbbeabDoorReadDI
import Derived.Test.YtnhcabnckcbbeabDoorLawBig
import Derived.Deep.RegionHeld3
import Derived.Deep.Cut
namespace Go.Proofs.YtnhcabnckcbbeabDoor.fnDeeds
open Go.ChangeShapes Go.WideShapes Go.ChangeAt Go.RowKit
open Go.ChangeMaps (open_string shut_string)
set_option linter.unusedVariables false

theorem own : ownKnob Tryd.prog.godebug = none := by kernel_rfl
theorem laidOut : laidOutB Tryd.prog = true := by kernel_rfl

/-- What the walk is told of a slice of bytes that came in: it is nil, or it leads to a row of cells, each fitting its kind. -/
def IsRow (k : IntKind) (w : World) (a : Option Addr) (len cap : Nat) (zs : List Int) : Prop :=
  (a = none ∧ len = 0 ∧ cap = 0 ∧ zs = []) ∨
  ∃ x, a = some x ∧ len ≤ cap ∧ cap ≤ maxLen ∧ zs.length = cap ∧ (∀ i, i < zs.length → w.cell? (x.add i) = some (.int k (zs.getD i 0))) ∧ ∀ n ∈ zs, (Lit.int k n).wf = true

set_option maxRecDepth 100000 in
set_option maxHeartbeats 8000000 in
theorem walk (a0 : Option Addr) (len0 cap0 : Nat) (z0 : List Int) (w : World) (w0 : IsRow .u8 w a0 len0 cap0 z0) (hm : ∃ m, w.cell? ⟨1, 0, none⟩ = some (.int .i64 m)) (hsx : ∃ tp p, w.cell? ⟨4, 0, none⟩ = some (.iface tp p)) (hrg : ∃ tp p, w.cell? ⟨5, 0, none⟩ = some (.iface tp p)) :
    Calls Tryd.prog 3 #[.slice a0 len0 cap0] w fun e w' => e = .returned (.bool true) ∧ Below w.heap.size w w' := by
  have hw : LibW w := ⟨hm, hsx, hrg⟩
  clear hm hsx hrg
  by_cases hbig : 4096 < len0
  · have hbb : decide (4096 < len0) = true := by simpa using hbig
    go_enter Tryd.func3, Tryd.ntmps3
    go_wp2_with (go_at_call 4; refine (big_any _ _ _ _).mono ?_; rintro e w' ⟨rfl, rfl⟩)
    go_ret
    exact ⟨rfl, Below.refl _ _⟩
  have hbb : decide (4096 < len0) = false := by simpa using hbig
  obtain ⟨zs, hzl, hrd⟩ : ∃ zs : List Int, zs.length = len0 ∧ RdB w w.heap.size a0 zs := rdb_of_row (by omega) w0
  subst hzl
  clear w0 hbig
  go_enter Tryd.func3, Tryd.ntmps3
  go_wp2_with fail
  refine (big_any _ _ _ _).mono ?_
  rintro e w' ⟨rfl, rfl⟩
  go_wp2_with fail
  refine (drawShow_any _ a0 cap0 zs hrd).mono ?_
  rintro e w1 ⟨k, p, v, g, rfl, k1⟩
  go_wp2_with fail
  refine (implShowDeed_any _ _ _ _ _).mono ?_
  rintro e w2 ⟨rfl, k2⟩
  have K2 := (k1.alloc (deedC k p v g)).trans k2
  go_wp2_with fail
  refine (drawRead_any _ a0 cap0 zs (hrd.up K2)).mono ?_
  rintro e w3 ⟨l, rfl, hl, k3⟩
  have HV : Hid (∃ b K P V G, readV (fitS l) (gSk (splitL 32 l)) (gSp (splitL 32 l)) (gSv (splitL 32 l)) (gSg (splitL 32 l)) = .tuple #[deedV K P V G, .bool b] ∧ readV (fitI l) (gIk l) (gIp l) (gIv l) (gIg l) = .tuple #[deedV K P V G, .bool b] ∧ (b = true → deedB K P V G = true ∧ showL K P V G = l) ∧ (b = false → K = 0 ∧ P = 0 ∧ V = 0 ∧ G = 0)) := by
    refine Lib.hid ?_
    rw [fit_same]
    cases hf : fitI l
    · exact ⟨false, 0, 0, 0, 0, rfl, rfl, by simp, by simp⟩
    · obtain ⟨a, b, c, d⟩ := guess_same hf
      refine ⟨true, gIk l, gIp l, gIv l, gIg l, by rw [a, b, c, d]; rfl, rfl, fun _ => ?_, by simp⟩
      have := hf
      simp only [fitI, fits, Bool.and_eq_true, decide_eq_true_eq] at this
      exact this
  obtain ⟨b, K, P, V, G, E1, E2, E3, E4⟩ := HV.out
  have H1 := Lib.hid E1
  have H2 := Lib.hid E2
  have H3 := Lib.hid E3
  have H4 := Lib.hid E4
  clear E1 E2 E3 E4 HV
  have K3 := K2.trans k3
  go_wp2_with fail
  refine (implReadDeed_any l _ (by omega) (hw.keep K3)).mono ?_
  rw [H2.out]
  rintro e w4 ⟨rfl, k4⟩
  go_wp2_with fail
  refine (specReadDeed_any l _ (by omega)).mono ?_
  rw [H1.out]
  rintro e w5 ⟨rfl, k5⟩
  have kD := (k2.trans (k3.trans k4)).trans (((Keep.refl _).alloc _).trans k5)
  have K5 := ((K3.trans k4).alloc _).trans k5
  obtain ⟨xs, x0, x1, x2, x3⟩ := box_deed k5
  obtain ⟨ds, d0, d1, d2, d3⟩ := box_deed kD
  clear H1 H2 k1 k2 K2 k3 K3 k4 k5 kD hrd
  go_upto_region 8 with fail
  go_cut [50] from 12 (fun s50 wx => s50 = .bool false ∧ Keep (w5.alloc (deedC K P V G)) wx)
  case first =>
    have KK : Keep (w5.alloc (deedC K P V G)) ((w5.alloc (deedC K P V G)).drew) := (Keep.refl _).drew
    have z1 : w1.heap.size < ((w5.alloc (deedC K P V G)).drew).heap.size := by rw [heap_drew, heap_size]; omega
    have z4 : w4.heap.size < ((w5.alloc (deedC K P V G)).drew).heap.size := by rw [heap_drew, heap_size]; omega
    have z5 : w5.heap.size < ((w5.alloc (deedC K P V G)).drew).heap.size := by rw [heap_drew, heap_size]; omega
    go_region_held3 (fun w' => w'.cell? ⟨w1.heap.size, 0, none⟩ = some (.int .i64 k) ∧ w'.cell? ⟨w1.heap.size, 1, none⟩ = some (.int .i64 p) ∧ w'.cell? ⟨w1.heap.size, 2, none⟩ = some (.int .i64 v) ∧ w'.cell? ⟨w1.heap.size, 3, none⟩ = some (.int .i64 g) ∧ w'.cell? ⟨w4.heap.size, 0, none⟩ = some (.int .i64 K) ∧ w'.cell? ⟨w4.heap.size, 1, none⟩ = some (.int .i64 P) ∧ w'.cell? ⟨w4.heap.size, 2, none⟩ = some (.int .i64 V) ∧ w'.cell? ⟨w4.heap.size, 3, none⟩ = some (.int .i64 G) ∧ w'.cell? ⟨w5.heap.size, 0, none⟩ = some (.int .i64 K) ∧ w'.cell? ⟨w5.heap.size, 1, none⟩ = some (.int .i64 P) ∧ w'.cell? ⟨w5.heap.size, 2, none⟩ = some (.int .i64 V) ∧ w'.cell? ⟨w5.heap.size, 3, none⟩ = some (.int .i64 G))
      (first | go_keep | (go_split_ands; refine ⟨?_, ?_, ?_, ?_, ?_, ?_, ?_, ?_, ?_, ?_, ?_, ?_⟩ <;> (rw [kk.cell (by assumption)]; assumption)))
      ((first
        | (go_at_call 10; refine (specShowDeed_any _ _ _ _ _).mono ?_; rintro e wz ⟨rfl, kk⟩; have KK := KK.trans kk; have z1 := Nat.lt_of_lt_of_le z1 kk.size; have z4 := Nat.lt_of_lt_of_le z4 kk.size; have z5 := Nat.lt_of_lt_of_le z5 kk.size)
        | (go_at_call 11; refine (implDeedOk_any _ _ _ _ _).mono ?_; rintro e wz ⟨rfl, kk⟩; have KK := KK.trans kk; have z1 := Nat.lt_of_lt_of_le z1 kk.size; have z4 := Nat.lt_of_lt_of_le z4 kk.size; have z5 := Nat.lt_of_lt_of_le z5 kk.size)
        | (go_at_call 12; refine (specDeedOk_any _ _ _ _ _).mono ?_; rintro e wz ⟨rfl, kk⟩; have KK := KK.trans kk; have z1 := Nat.lt_of_lt_of_le z1 kk.size; have z4 := Nat.lt_of_lt_of_le z4 kk.size; have z5 := Nat.lt_of_lt_of_le z5 kk.size)))
    all_goals
      go_wp2_with fail
      go_meet
      case rel => exact ⟨rfl, KK⟩
  case rest =>
    obtain ⟨rfl, KW⟩ := hcut
    have KC : Keep w5 wc := ((Keep.refl w5).alloc _).trans KW
    have KA := K5.trans KC
    have D0 := (KC.cell ds).trans d0
    have D1 := (KC.cell ds).trans d1
    have D2 := (KC.cell ds).trans d2
    have D3 := (KC.cell ds).trans d3
    have X0 := (KC.cell xs).trans x0
    have X1 := (KC.cell xs).trans x1
    have X2 := (KC.cell xs).trans x2
    have X3 := (KC.cell xs).trans x3
    have sD : w1.heap.size < wc.heap.size := Nat.lt_of_lt_of_le ds KC.size
    have W5 := hw.keep KA
    clear KW d0 d1 d2 d3 x0 x1 x2 x3 K5
    have HT : Hid (deedB k p v g = true → readV (fitI (showL k p v g)) (gIk (showL k p v g)) (gIp (showL k p v g)) (gIv (showL k p v g)) (gIg (showL k p v g)) = .tuple #[deedV k p v g, .bool true]) := by
      refine Lib.hid fun hd => ?_
      obtain ⟨e0, e1, e2, e3, e4⟩ := fit_show hd
      rw [e0, e1, e2, e3, e4]
      rfl
    have hsl := showL_length k p v g
    cases b
    · obtain ⟨rfl, rfl, rfl, rfl⟩ := H4.out rfl
      cases hd : deedB k p v g
      · have hse : (showD k p v g).isEmpty = true := by unfold showD; rw [hd]; rfl
        go_wp2_with fail
        refine (implDeedOk_any _ _ _ _ _).mono ?_
        rintro e w7 ⟨rfl, k7⟩
        go_wp2
        go_ret
        exact ⟨rfl, KA.trans k7⟩
      · have HSD : Hid (showD k p v g = showL k p v g) := Lib.hid (by unfold showD; rw [if_pos hd])
        have hse : (showD k p v g).isEmpty = false := by
          rw [HSD.out]
          have := showL_ne hd
          cases h : showL k p v g with
          | nil => exact absurd h this
          | cons _ _ => rfl
        have hle : (showD k p v g).length ≤ 1048576 := by rw [HSD.out]; omega
        have HT' : Hid (readV (fitI (showD k p v g)) (gIk (showD k p v g)) (gIp (showD k p v g)) (gIv (showD k p v g)) (gIg (showD k p v g)) = .tuple #[deedV k p v g, .bool true]) := Lib.hid (by rw [HSD.out]; exact HT.out hd)
        clear hd
        go_wp2_with fail
        refine (implReadDeed_any _ _ hle W5).mono ?_
        rw [HT'.out]
        rintro e w7 ⟨rfl, k7⟩
        have Y0 := (k7.cell sD).trans D0
        have Y1 := (k7.cell sD).trans D1
        have Y2 := (k7.cell sD).trans D2
        have Y3 := (k7.cell sD).trans D3
        have sY := Nat.lt_of_lt_of_le sD k7.size
        go_wp2
        go_ret
        exact ⟨rfl, (KA.trans k7).alloc _⟩
    · obtain ⟨hB, hS⟩ := H3.out rfl
      have HX : Hid (showD K P V G = l) := Lib.hid (by unfold showD; rw [if_pos hB]; exact hS)
      clear hB hS H3 H4
      go_wp2_with fail
      refine (implShowDeed_any _ _ _ _ _).mono ?_
      rw [HX.out]
      rintro e w6 ⟨rfl, k6⟩
      have D0' := (k6.cell sD).trans D0
      have D1' := (k6.cell sD).trans D1
      have D2' := (k6.cell sD).trans D2
      have D3' := (k6.cell sD).trans D3
      have sD' := Nat.lt_of_lt_of_le sD k6.size
      have W5' := W5.keep k6
      have KA' := KA.trans k6
      clear D0 D1 D2 D3 X0 X1 X2 X3 sD W5 KA KC k6
      cases hd : deedB k p v g
      · have hse : (showD k p v g).isEmpty = true := by unfold showD; rw [hd]; rfl
        go_wp2_with fail
        refine (implDeedOk_any _ _ _ _ _).mono ?_
        rintro e w7 ⟨rfl, k7⟩
        go_wp2
        go_ret
        exact ⟨rfl, KA'.trans k7⟩
      · have HSD : Hid (showD k p v g = showL k p v g) := Lib.hid (by unfold showD; rw [if_pos hd])
        have hse : (showD k p v g).isEmpty = false := by
          rw [HSD.out]
          have := showL_ne hd
          cases h : showL k p v g with
          | nil => exact absurd h this
          | cons _ _ => rfl
        have hle : (showD k p v g).length ≤ 1048576 := by rw [HSD.out]; omega
        have HT' : Hid (readV (fitI (showD k p v g)) (gIk (showD k p v g)) (gIp (showD k p v g)) (gIv (showD k p v g)) (gIg (showD k p v g)) = .tuple #[deedV k p v g, .bool true]) := Lib.hid (by rw [HSD.out]; exact HT.out hd)
        clear hd
        go_wp2_with fail
        refine (implReadDeed_any _ _ hle W5').mono ?_
        rw [HT'.out]
        rintro e w7 ⟨rfl, k7⟩
        have Y0 := (k7.cell sD').trans D0'
        have Y1 := (k7.cell sD').trans D1'
        have Y2 := (k7.cell sD').trans D2'
        have Y3 := (k7.cell sD').trans D3'
        have sY := Nat.lt_of_lt_of_le sD' k7.size
        go_wp2
        go_ret
        exact ⟨rfl, (KA'.trans k7).alloc _⟩

abbrev laidL : List (String × DataW Unit) := [("math/bits.deBruijn32tab", Rows.laid_math_bits_deBruijn32tab), ("math/bits.deBruijn64tab", Rows.laid_math_bits_deBruijn64tab), ("internal/strconv.uint64pow10", Rows.laid_internal_strconv_uint64pow10), ("strconv.ErrRange", Rows.laid_strconv_ErrRange), ("strconv.ErrSyntax", Rows.laid_strconv_ErrSyntax)]

theorem door_met (os : Os) (args : Array Value) : laidMetH Tryd.prog laidL ((World.doorLaid Tryd.prog 4000 os).forCall (fun _ _ => 0) ⟨#[], args, []⟩).memory :=
  laidMetH_of_parts3 (fuel := 8) (laidMet_of_run' 8 (by kernel_rfl) (by kernel_rfl)) (by kernel_rfl) (by kernel_rfl)

theorem returns_laid_shaped {H : Type} {enc : TypeId × Value → H} {a : Assume} {C : Checked} {os : Os} {f : FuncId} {fn : Func} {s : ChangeSpec} {conds : List PathCond} {apart fresh handsOn again : Bool} {X : World → Array Value → Prop}
    (hX : ∀ (w w' : World) (args : Array Value), w.heap = w'.heap → X w args → X w' args)
    (own : ownKnob C.prog.godebug = none) (started : os.Started) (noInit : C.prog.inits.idxOf? f = none) (hfn : C.prog.funcs[f]? = some fn)
    (witness : ∃ (w : World) (tape : Tape) (i : Input), w.os = os ∧ (w.forCall tape i).Shaped C.prog ∧ i.vars = [] ∧ Input.okWide C.prog (w.forCall tape i) .any w.heap.size f i ∧
      ((s.pre enc C.prog fn conds apart (w.forCall tape i).memory i.args ∧ X (w.forCall tape i).memory i.args) ∧ sizedMet enc C.prog fn (OpenSpec.ofChange s) apart (w.forCall tape i).memory i.args) ∧ a.holds C.prog (lone (Frame.enter C.prog f i.args .normal) [] (w.forCall tape i)))
    (contract : ∀ (W : World) (base : Nat) (args : Array Value) (ds gs : List (DataW H)) (before : List MemPlace),
      (∀ (j : Nat) t v, fn.params[j]? = some t → args[j]? = some v → Value.okWide C.prog W .any base t v) →
      DataW.Whole enc C.prog fn.params.toList s.vars apart W args.toList ds gs before → X W args → W.ShapedOpen C.prog →
      Calls C.prog f args W fun e W' => ∃ v, e = .returned v ∧ s.post enc C.prog fn apart fresh handsOn again W args v W') :
    ReturnsInHanded a C os f .any (fun w args => (s.pre enc C.prog fn conds apart w args ∧ X w args) ∧ sizedMet enc C.prog fn (OpenSpec.ofChange s) apart w args) (s.post enc C.prog fn apart fresh handsOn again) := by
  refine returnsInHanded_of_calls own started noInit witness ?_
  intro w tape i _ hsh _ hok hpre _
  obtain ⟨_, _, _, fn', hfn', _, _, _, _, hval⟩ := hok
  have e : fn' = fn := Option.some.inj (hfn'.symm.trans hfn)
  subst e
  obtain ⟨⟨⟨ds, gs, before, hw, hc⟩, hx⟩, hz⟩ := hpre
  have hw' := DataW.Whole.of_heap (w' := w.forCall tape i) (by rfl) hw
  refine (contract (w.forCall tape i) w.heap.size i.args ds gs before hval hw' (hX _ _ _ (by rfl) hx) hsh).mono fun e W' ⟨v, he, hp⟩ => ?_
  subst he
  exact ChangeSpec.post_blind hp

/-- What a listed sentinel's cell holds. -/
theorem laid_cell {r : List (String × DataW Unit)} {n nm : String} {d : DataW Unit} {W : World} {g t : Nat} {ms : Array (String × TypeId)} (h : laidMet Tryd.prog ((n, .iface nm d) :: r) W)
    (hg : Tryd.prog.globalNamed n = some g) (ht : (Tryd.prog.globals[g]?).map (·.type) = some t) (hi : Tryd.prog.underlying t = some (.interface ms)) : ∃ tp p, W.cell? ⟨g, 0, none⟩ = some (.iface tp p) := by
  obtain ⟨ps, ⟨g0, t0, cs0, f0, p0, q0, hg0, ht0, hv0, hd0, _, _⟩, _, _⟩ := h
  obtain rfl := Option.some.inj (hg.symm.trans hg0)
  obtain rfl := Option.some.inj (ht.symm.trans ht0)
  obtain ⟨f1, u, v, hcs, _, _⟩ := iface_of_trod hi hd0
  have hc := World.var?_cell hg0 hv0 0
  rw [Array.eq_one_of_toList hcs] at hc
  exact ⟨u, v, by simpa using hc⟩

set_option maxRecDepth 100000 in
theorem lifted (os : Os) (started : os.Started) (H : Type) (enc : TypeId × Value → H) :
    ReturnsInHanded {} Tryd.checked os 3 .any (fun w args => (Rows.fnDeedsSpec.pre enc Tryd.prog Tryd.f3 [] false w args ∧ laidMetH Tryd.prog laidL w) ∧ sizedMet enc Tryd.prog Tryd.f3 (OpenSpec.ofChange Rows.fnDeedsSpec) false w args)
      (Rows.fnDeedsSpec.post enc Tryd.prog Tryd.f3 false true false false) := by
  refine returns_laid_shaped (C := Tryd.checked) (X := fun w _ => laidMetH Tryd.prog laidL w) (fun _ _ _ hh h => h.of_heap hh) own started (by kernel_rfl) Tryd.func3
    (ChangeSpec.witness_shaped (enc := enc) (C := Tryd.checked) (os := os) (X := fun w _ => laidMetH Tryd.prog laidL w) false (World.doorLaid Tryd.prog 4000 os) #[.slice none 0 0] 8 rfl (World.shaped_of_RefB (by kernel_rfl) (by kernel_rfl)) (by kernel_rfl) (by kernel_rfl) (by kernel_rfl) (door_met os _)) ?_
  intro W base args ds gs before hval0 hW hL hsh

  have hval : ∀ (j : Nat) t v, Tryd.f3.params[j]? = some t → args[j]? = some v → Value.okWide Tryd.prog W .any base t v := hval0
  have hW' := hW
  obtain ⟨p, q, hA0, hV, rfl, hfz, hnd⟩ := hW
  have hA : DataW.TrodAll enc Tryd.prog W 0 (fun _ => true) true Tryd.f3.params.toList args.toList ds p := hA0
  rw [Tryd.params3] at hA hval
  obtain ⟨v0, vs0, d0, ds0, p0, q0, hargs, rfl, rfl, h0, r0⟩ := trodAll_cons hA
  obtain ⟨rfl, rfl, rfl⟩ := trodAll_nil r0
  obtain rfl : args = #[v0] := by cases args; simp_all
  obtain ⟨rfl, rfl⟩ := trodVars_none hV
  have k0 := h0
  have lt0 : ∀ x ∈ p0, x.block < W.heap.size := by obtain ⟨m, hm⟩ := k0; exact DataW.trod_lt m _ _ _ hm
  obtain ⟨a0, len0, cap0, rfl⟩ := okWide_slice Tryd.underlying22 (hval 0 22 v0 rfl rfl)
  obtain ⟨z0, w0⟩ : ∃ zs, IsRow .u8 W a0 len0 cap0 zs := by
    obtain ⟨fuel, hf⟩ := h0
    rcases open_ints Tryd.underlying22 Tryd.underlying5 (by kernel_rfl) hf with ⟨hcs, _⟩ | ⟨x, l, c, zs, hcs, _, hl, hm, hz, _, hcell, hwz⟩
    · simp [Value.cells] at hcs
      obtain ⟨rfl, rfl, rfl⟩ := hcs
      exact ⟨[], .inl ⟨rfl, rfl, rfl, rfl⟩⟩
    · simp [Value.cells] at hcs
      obtain ⟨rfl, rfl, rfl⟩ := hcs
      exact ⟨zs, .inr ⟨_, rfl, hl, hm, by simpa using hz, hcell, hwz⟩⟩
  have hm : ∃ m, W.cell? ⟨1, 0, none⟩ = some (.int .i64 m) := cell_of_shapedOpen_int (zero := #[.int .i64 0]) (t := 3) hsh (of_decide_eq_true (by kernel_rfl)) (by kernel_rfl) rfl (by kernel_rfl) (by kernel_rfl) Tryd.underlying3
  rw [MakeChecks.laidMetH_plain _ _ _ (by kernel_rfl)] at hL
  have hsx : ∃ tp p, W.cell? ⟨4, 0, none⟩ = some (.iface tp p) := laid_cell hL.tail.tail.tail.tail (by kernel_rfl) (by kernel_rfl) Tryd.underlying65
  have hrg : ∃ tp p, W.cell? ⟨5, 0, none⟩ = some (.iface tp p) := laid_cell hL.tail.tail.tail (by kernel_rfl) (by kernel_rfl) Tryd.underlying65
  clear hA0 hval0
  refine (walk a0 len0 cap0 z0 W w0 hm hsx hrg).mono fun e W' ⟨he, bel⟩ => ?_
  subst he
  exact ⟨_, rfl, _, _, _, [], _, [], hW', trodAll_mk1 (shut_bool Tryd.underlying4 _), (trodAll_cons_mk (Below.trod laidOut (by kernel_rfl) (of_decide_eq_true (by kernel_rfl)) k0 bel lt0) trodAll_mk0), rfl, bel.frame _, fun h => by cases h⟩

theorem over : Rows.fnDeedsRow.holds Tryd.pinned (OpenSpec.ofChange Rows.fnDeedsSpec) :=
  OpenClaim.holds_of_wide 3 Tryd.f3 rfl rfl rfl rfl rfl rfl rfl ⟨rfl, rfl, rfl, rfl, rfl⟩ rfl rfl rfl rfl rfl (by kernel_rfl) Tryd.func3 (by kernel_rfl)
    (of_decide_eq_true (by kernel_rfl)) (by unfold Func.isWrapper; first | (rw [if_pos (by decide +kernel)]; kernel_rfl) | (rw [if_neg (by decide +kernel)]; exact ⟨rfl, rfl⟩))
    (fun os started H enc _ => lifted os started H enc)

theorem carded : Rows.FnDeedsCardSaid :=
  Claim7.holds_tied_plain_at .later [] [.data, .data, .data, .sentinel, .sentinel] true (true, "b35ec540c8363f8adeb455bc9f2ed0637a50a259ae5a6e8414251859a101b9a3") true
    over (fun _ h => by cases h) (by kernel_rfl) (fun _ h => by cases h) fnDeeds_row_tie rfl ⟨rfl, rfl⟩ (by kernel_rfl) rfl
    (fun f fn hf hfn => by
      obtain rfl : f = 3 := Option.some.inj ((show Tryd.prog.funcNamed "loop.example/g00411/laws.FnDeeds" = some 3 by kernel_rfl).symm.trans hf) |>.symm
      obtain rfl : fn = Tryd.f3 := (Option.some.inj (Tryd.func3.symm.trans hfn)).symm
      exact ⟨by kernel_rfl, fun j t ht => by
        rw [Tryd.params3] at ht
        have hm : t ∈ [22] := by simpa using Array.mem_of_getElem? ht
        have hall : ([22].all fun u => !Tryd.prog.wantsStandIn u) = true := by kernel_rfl
        exact (show Tryd.prog.wantsStandIn t = false by simpa using List.all_eq_true.1 hall t hm)⟩)
    (by kernel_rfl)
#print axioms carded
end Go.Proofs.YtnhcabnckcbbeabDoor.fnDeeds
namespace Go.Proofs.YtnhcabnckcbbeabDoor
theorem fnDeeds_holds : Rows.FnDeedsCardSaid := fnDeeds.carded
end Go.Proofs.YtnhcabnckcbbeabDoor
