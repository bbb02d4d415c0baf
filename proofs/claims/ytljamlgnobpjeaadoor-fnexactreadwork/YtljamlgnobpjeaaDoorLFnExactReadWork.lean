/- At every text the program's ReadWork answers as the specification's does, in memory of its own: the law FnExactReadWork answers true and its argument stays; the listed variables of the library are as the program's text lays them. -/
import Derived.Test.YtljamlgnobpjeaaDoorRows
import Derived.Test.YtljamlgnobpjeaaDoorTie
import Derived.Test.YtljamlgnobpjeaaDoorCards
import Derived.SevenTiedAt
import Derived.LaidMore
import Derived.Lay
import Derived.Stop.Joined
import Derived.Stop.LaidErr
import Derived.HandedShaped
import Derived.Shelf.Vars
import Derived.WalkKit
import Derived.ProofKit
import Derived.OpenShut
import Derived.ShutString
import Derived.ChangeOld
import Derived.Below
import Derived.Test.YtljamlgnobpjeaaDoorReadWI
import Derived.Test.YtljamlgnobpjeaaDoorReadWS
import Derived.Test.YtljamlgnobpjeaaDoorWaitLaw
import Derived.Test.YtljamlgnobpjeaaDoorWorkEq
import Derived.Test.YtljamlgnobpjeaaDoorWorkMark
namespace Go.Proofs.YtljamlgnobpjeaaDoor.fnExactReadWork
open Go.ChangeShapes Go.WideShapes Go.ChangeAt Go.RowKit
open Go.ChangeMaps (open_string shut_string)
set_option linter.unusedVariables false

theorem own : ownKnob Tryd.prog.godebug = none := by kernel_rfl
theorem laidOut : laidOutB Tryd.prog = true := by kernel_rfl

set_option maxHeartbeats 8000000 in
theorem walk (s : ByteArray) (ws : s.size ≤ maxLen) (w : World) (hm : ∃ m, w.cell? ⟨0, 0, none⟩ = some (.int .i64 m)) (hsx : ∃ tp p, w.cell? ⟨6, 0, none⟩ = some (.iface tp p)) (hrg : ∃ tp p, w.cell? ⟨7, 0, none⟩ = some (.iface tp p)) :
    Calls Tryd.prog 4 #[.string s] w fun e w' => e = .returned (.bool true) ∧ Below w.heap.size w w' := by
  obtain ⟨l, rfl⟩ : ∃ l : List UInt8, s = ⟨l.toArray⟩ := ⟨s.data.toList, (Lib.mk_data s).symm⟩
  have hsz : (⟨l.toArray⟩ : ByteArray).size = l.length := by simp [ByteArray.size]
  by_cases hbig : 1048576 < l.length
  · go_enter Tryd.func4, Tryd.ntmps4
    go_wp2
    go_ret
    exact ⟨rfl, Below.refl _ _⟩
  · have hl : l.length ≤ 1048576 := by omega
    have hw : LibW w := ⟨hm, hsx, hrg⟩
    clear hm hsx hrg
    have HS := Lib.hid (specReadWork_any l)
    have HI := Lib.hid (implReadWork_any l)
    have small : ((readW l).getD []).length ≤ 1048576 ∧ lenW ((readW l).getD []) ≤ 1048576 ∧ ∀ i, i < ((readW l).getD []).length → (((readW l).getD []).getD i []).length ≤ 1048576 := by
      cases hq : readW l with
      | none => exact ⟨by simp, by simp [lenW], by simp⟩
      | some x => exact workB_small (readW_right hq)
    have HL : ∀ x : List (List Dd), Hid (likeW x x = true) := fun x => Lib.hid (by unfold likeW; simp)
    generalize (readW l).isSome = b at HS HI
    generalize (readW l).getD [] = R at HS HI small
    obtain ⟨g1, g3, g2⟩ := small
    have eb : (b != b) = false := by simp
    go_enter Tryd.func4, Tryd.ntmps4
    go_wp2_with fail
    refine (HS.out _ hl).mono ?_
    rintro e w3 ⟨v3, rfl, o3, k3⟩
    go_wp2_with fail
    refine (HI.out _ hl (hw.keep k3)).mono ?_
    rintro e w5 ⟨v5, rfl, o5, k5⟩
    have K5 := k3.trans k5
    go_wp2_with fail
    refine (eqW_any _ _ _ _ _ o5.rd (o3.rd.keep k5) g1 g2).mono ?_
    rw [(HL _).out]
    rintro e w10 ⟨rfl, k10⟩
    go_wp2_with fail
    refine (markW_any w10 w5 w3.heap.size _ _ R o5 (fun b hb1 hb2 => Below.block k10 b hb2) g1 g3 (by omega) (by omega)).mono ?_
    rintro e w11 ⟨rfl, o11, k11⟩
    have K11 := (K5.trans k10).only k11 k3.size
    have K311 := (k5.trans k10).only k11 (Nat.le_refl _)
    go_wp2_with fail
    refine (heldW_any _ _ _ _ o11.rd g1 g3 (by omega) (by omega)).mono ?_
    rintro e w12 ⟨rfl, k12⟩
    have K12 := K11.trans k12
    have nq : ((1 : Int) + 4 * lenW R != 1 + 4 * lenW R) = false := by simp
    have dq : ¬ ((1 : Int) + 4 * lenW R < 0) := by omega
    go_wp2_with fail
    refine (HI.out _ hl (hw.keep K12)).mono ?_
    rintro e w14 ⟨v14, rfl, o14, k14⟩
    have K1114 := k12.trans k14
    go_wp2_with fail
    refine (eqW_any _ _ _ _ _ o14.rd (o3.rd.keep (K311.trans K1114)) g1 g2).mono ?_
    rw [(HL _).out]
    rintro e w15 ⟨rfl, k15⟩
    go_wp2_with fail
    refine (heldW_any _ _ _ _ (o11.rd.keep (K1114.trans k15)) g1 g3 (by omega) (by omega)).mono ?_
    rintro e w16 ⟨rfl, k16⟩
    go_wp2
    go_ret
    exact ⟨rfl, ((K11.trans K1114).trans k15).trans k16⟩

abbrev laidL : List (String × DataW Unit) := [("math/bits.deBruijn32tab", Rows.laid_math_bits_deBruijn32tab), ("math/bits.deBruijn64tab", Rows.laid_math_bits_deBruijn64tab), ("internal/strconv.uint64pow10", Rows.laid_internal_strconv_uint64pow10), ("unicode/utf8.acceptRanges", Rows.laid_unicode_utf8_acceptRanges), ("strconv.ErrRange", Rows.laid_strconv_ErrRange), ("strconv.ErrSyntax", Rows.laid_strconv_ErrSyntax), ("unicode/utf8.first", Rows.laid_unicode_utf8_first)]

theorem door_met (os : Os) (args : Array Value) : laidMetH Tryd.prog laidL ((World.laidAll Tryd.prog os laidL).forCall (fun _ _ => 0) ⟨#[], args, []⟩).memory := by
  rw [MakeChecks.laidMetH_plain _ _ _ (by kernel_rfl)]
  exact laidMet_laidAll _ (by kernel_rfl) (by kernel_rfl)

theorem returns_laid_shaped {H : Type} {enc : TypeId × Value → H} {a : Assume} {C : Checked} {os : Os} {f : FuncId} {fn : Func} {s : ChangeSpec} {conds : List PathCond} {apart fresh handsOn again : Bool} {X : World → Array Value → Prop}
    (hX : ∀ (w w' : World) (args : Array Value), w.heap = w'.heap → X w args → X w' args)
    (own : ownKnob C.prog.godebug = none) (started : os.Started) (noInit : C.prog.inits.idxOf? f = none) (hfn : C.prog.funcs[f]? = some fn)
    (witness : ∃ (w : World) (tape : Tape) (i : Input), w.os = os ∧ (w.forCall tape i).Shaped C.prog ∧ i.vars = [] ∧ Input.okWide C.prog (w.forCall tape i) .any w.heap.size f i ∧
      ((s.pre enc C.prog fn conds apart (w.forCall tape i).memory i.args ∧ X (w.forCall tape i).memory i.args) ∧ sizedMet enc C.prog fn (OpenSpec.ofChange s) apart (w.forCall tape i).memory i.args) ∧ a.holds C.prog (lone (Frame.enter C.prog f i.args .normal) [] (w.forCall tape i)))
    (contract : ∀ (W : World) (base : Nat) (args : Array Value) (ds gs : List (DataW H)) (before : List MemPlace),
      (∀ (j : Nat) t v, fn.params[j]? = some t → args[j]? = some v → Value.okWide C.prog W .any base t v) →
      DataW.Whole enc C.prog fn.params.toList s.vars apart W args.toList ds gs before → X W args → W.ShapedOpen C.prog →
      Calls C.prog f args W fun e W' => ∃ v, e = .returned v ∧ s.post enc C.prog fn apart fresh handsOn again W args v W') :
    ReturnsInHanded a C os f .any (fun w args => (s.pre enc C.prog fn conds apart w args ∧ X w args) ∧ sizedMet enc C.prog fn (OpenSpec.ofChange s) apart w args) (s.post enc C.prog fn apart fresh handsOn again) := by
  refine returnsInHanded_of_calls own started noInit witness ?_
  intro w tape i _ hsh _ hok hpre _
  obtain ⟨_, _, _, fn', hfn', _, _, _, _, hval⟩ := hok
  have e : fn' = fn := Option.some.inj (hfn'.symm.trans hfn)
  subst e
  obtain ⟨⟨⟨ds, gs, before, hw, hc⟩, hx⟩, hz⟩ := hpre
  have hw' := DataW.Whole.of_heap (w' := w.forCall tape i) (by rfl) hw
  refine (contract (w.forCall tape i) w.heap.size i.args ds gs before hval hw' (hX _ _ _ (by rfl) hx) hsh).mono fun e W' ⟨v, he, hp⟩ => ?_
  subst he
  exact ChangeSpec.post_blind hp

/-- What a listed sentinel's cell holds. -/
theorem laid_cell {r : List (String × DataW Unit)} {n nm : String} {d : DataW Unit} {W : World} {g t : Nat} {ms : Array (String × TypeId)} (h : laidMet Tryd.prog ((n, .iface nm d) :: r) W)
    (hg : Tryd.prog.globalNamed n = some g) (ht : (Tryd.prog.globals[g]?).map (·.type) = some t) (hi : Tryd.prog.underlying t = some (.interface ms)) : ∃ tp p, W.cell? ⟨g, 0, none⟩ = some (.iface tp p) := by
  obtain ⟨ps, ⟨g0, t0, cs0, f0, p0, q0, hg0, ht0, hv0, hd0, _, _⟩, _, _⟩ := h
  obtain rfl := Option.some.inj (hg.symm.trans hg0)
  obtain rfl := Option.some.inj (ht.symm.trans ht0)
  obtain ⟨f1, u, v, hcs, _, _⟩ := iface_of_trod hi hd0
  have hc := World.var?_cell hg0 hv0 0
  rw [Array.eq_one_of_toList hcs] at hc
  exact ⟨u, v, by simpa using hc⟩

set_option maxRecDepth 100000 in
theorem lifted (os : Os) (started : os.Started) (H : Type) (enc : TypeId × Value → H) :
    ReturnsInHanded {} Tryd.checked os 4 .any (fun w args => (Rows.fnExactReadWorkSpec.pre enc Tryd.prog Tryd.f4 [] false w args ∧ laidMetH Tryd.prog laidL w) ∧ sizedMet enc Tryd.prog Tryd.f4 (OpenSpec.ofChange Rows.fnExactReadWorkSpec) false w args)
      (Rows.fnExactReadWorkSpec.post enc Tryd.prog Tryd.f4 false true false false) := by
  refine returns_laid_shaped (C := Tryd.checked) (X := fun w _ => laidMetH Tryd.prog laidL w) (fun _ _ _ hh h => h.of_heap hh) own started (by kernel_rfl) Tryd.func4
    (ChangeSpec.witness_shaped (enc := enc) (C := Tryd.checked) (os := os) (X := fun w _ => laidMetH Tryd.prog laidL w) false (World.laidAll Tryd.prog os laidL) #[.string ⟨#[]⟩] 8 (World.laidAll_os _ _ _) (World.shaped_of_ZipB (by kernel_rfl) (by kernel_rfl)) (by kernel_rfl) (by kernel_rfl) (by kernel_rfl) (door_met os _)) ?_
  intro W base args ds gs before hval0 hW hL hsh

  have hval : ∀ (j : Nat) t v, Tryd.f4.params[j]? = some t → args[j]? = some v → Value.okWide Tryd.prog W .any base t v := hval0
  have hW' := hW
  obtain ⟨p, q, hA0, hV, rfl, hfz, hnd⟩ := hW
  have hA : DataW.TrodAll enc Tryd.prog W 0 (fun _ => true) true Tryd.f4.params.toList args.toList ds p := hA0
  rw [Tryd.params4] at hA hval
  obtain ⟨v0, vs0, d0, ds0, p0, q0, hargs, rfl, rfl, h0, r0⟩ := trodAll_cons hA
  obtain ⟨rfl, rfl, rfl⟩ := trodAll_nil r0
  obtain rfl : args = #[v0] := by cases args; simp_all
  obtain ⟨rfl, rfl⟩ := trodVars_none hV
  have k0 := h0
  have lt0 : ∀ x ∈ p0, x.block < W.heap.size := by obtain ⟨m, hm⟩ := k0; exact DataW.trod_lt m _ _ _ hm
  obtain ⟨s, rfl, _, _, ws⟩ := open_string Tryd.underlying9 (hval 0 9 v0 rfl rfl) h0
  have hm : ∃ m, W.cell? ⟨0, 0, none⟩ = some (.int .i64 m) := cell_of_shapedOpen_int (zero := #[.int .i64 0]) (t := 3) hsh (of_decide_eq_true (by kernel_rfl)) (by kernel_rfl) rfl (by kernel_rfl) (by kernel_rfl) Tryd.underlying3
  rw [MakeChecks.laidMetH_plain _ _ _ (by kernel_rfl)] at hL
  have hsx : ∃ tp p, W.cell? ⟨6, 0, none⟩ = some (.iface tp p) := laid_cell hL.tail.tail.tail.tail.tail (by kernel_rfl) (by kernel_rfl) Tryd.underlying72
  have hrg : ∃ tp p, W.cell? ⟨7, 0, none⟩ = some (.iface tp p) := laid_cell hL.tail.tail.tail.tail (by kernel_rfl) (by kernel_rfl) Tryd.underlying72
  clear hA0 hval0
  refine (walk s ws W hm hsx hrg).mono fun e W' ⟨he, bel⟩ => ?_
  subst he
  exact ⟨_, rfl, _, _, _, [], _, [], hW', trodAll_mk1 (shut_bool Tryd.underlying4 _), (trodAll_cons_mk (Below.trod laidOut (by kernel_rfl) (of_decide_eq_true (by kernel_rfl)) k0 bel lt0) trodAll_mk0), rfl, bel.frame _, fun h => by cases h⟩

theorem over : Rows.fnExactReadWorkRow.holds Tryd.pinned (OpenSpec.ofChange Rows.fnExactReadWorkSpec) :=
  OpenClaim.holds_of_wide 4 Tryd.f4 rfl rfl rfl rfl rfl rfl rfl ⟨rfl, rfl, rfl, rfl, rfl⟩ rfl rfl rfl rfl rfl (by kernel_rfl) Tryd.func4 (by kernel_rfl)
    (of_decide_eq_true (by kernel_rfl)) (by unfold Func.isWrapper; first | (rw [if_pos (by decide +kernel)]; kernel_rfl) | (rw [if_neg (by decide +kernel)]; exact ⟨rfl, rfl⟩))
    (fun os started H enc _ => lifted os started H enc)

theorem carded : Rows.FnExactReadWorkCardSaid :=
  Claim7.holds_tied_plain_at .later [] [.data, .data, .data, .data, .sentinel, .sentinel, .pinned] true (true, "faf05f6d2d9b1b0b7b95c76ba2ae70d2d2a5a874ae84e3076c66c3e2180d295b") true
    over (fun _ h => by cases h) (by kernel_rfl) (fun _ h => by cases h) fnExactReadWork_row_tie rfl ⟨rfl, rfl⟩ (by kernel_rfl) rfl
    (fun f fn hf hfn => by
      obtain rfl : f = 4 := Option.some.inj ((show Tryd.prog.funcNamed "loop.example/g00411/laws.FnExactReadWork" = some 4 by kernel_rfl).symm.trans hf) |>.symm
      obtain rfl : fn = Tryd.f4 := (Option.some.inj (Tryd.func4.symm.trans hfn)).symm
      exact ⟨by kernel_rfl, fun j t ht => by
        rw [Tryd.params4] at ht
        have hm : t ∈ [9] := by simpa using Array.mem_of_getElem? ht
        have hall : ([9].all fun u => !Tryd.prog.wantsStandIn u) = true := by kernel_rfl
        exact (show Tryd.prog.wantsStandIn t = false by simpa using List.all_eq_true.1 hall t hm)⟩)
    (by kernel_rfl)
#print axioms carded
end Go.Proofs.YtljamlgnobpjeaaDoor.fnExactReadWork
namespace Go.Proofs.YtljamlgnobpjeaaDoor
theorem fnExactReadWork_holds : Rows.FnExactReadWorkCardSaid := fnExactReadWork.carded
end Go.Proofs.YtljamlgnobpjeaaDoor
