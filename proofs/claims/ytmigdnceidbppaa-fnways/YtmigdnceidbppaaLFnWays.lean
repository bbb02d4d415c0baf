/- Whatever bytes the web is drawn from, the program's Ways answers as the specification does; all lines are ways, ways go on by themselves and are what comes of as many rounds as there are: the law FnWays answers true and its argument stays; no condition. -/
import Derived.Test.YtmigdnceidbppaaRows
import Derived.WalkKit
import Derived.ProofKit
import Derived.OpenShut
import Derived.ShutString
import Derived.ChangeOld
import Derived.Below
import Derived.Test.YtmigdnceidbppaaWaysI
import Derived.Test.YtmigdnceidbppaaWaysS
import Derived.Test.YtmigdnceidbppaaThenS
import Derived.Test.YtmigdnceidbppaaJoinS
import Derived.Test.YtmigdnceidbppaaWebDraw
import Derived.Test.YtmigdnceidbppaaWithin
import Derived.Test.YtmigdnceidbppaaExactAid
import Derived.Test.YtmigdnceidbppaaWebMath
namespace Go.Proofs.Ytmigdnceidbppaa.fnWays
open Go.ChangeShapes Go.WideShapes Go.ChangeAt Go.RowKit
open Go.ChangeMaps (open_string shut_string)
set_option linter.unusedVariables false

theorem own : ownKnob Try.prog.godebug = none := by kernel_rfl
theorem laidOut : laidOutB Try.prog = true := by kernel_rfl

/-- WHAT THE WALK IS TOLD OF A SLICE OF INTEGERS THAT CAME IN: it is nil; or it leads to a row of 'cap' cells, the numbers 'zs' (the first 'len' are its elements, the rest its spare room), each fitting its kind. -/
def IsRow (k : IntKind) (w : World) (a : Option Addr) (len cap : Nat) (zs : List Int) : Prop :=
  (a = none ∧ len = 0 ∧ cap = 0 ∧ zs = []) ∨
  ∃ x, a = some x ∧ len ≤ cap ∧ cap ≤ maxLen ∧ zs.length = cap ∧ (∀ i, i < zs.length → w.cell? (x.add i) = some (.int k (zs.getD i 0))) ∧ ∀ n ∈ zs, (Lit.int k n).wf = true

set_option maxHeartbeats 8000000 in
theorem walk (a0 : Option Addr) (len0 cap0 : Nat) (z0 : List Int) (w : World) (w0 : IsRow .u8 w a0 len0 cap0 z0) :
    Calls Try.prog 6 #[.slice a0 len0 cap0] w fun e w' => e = .returned (.bool true) ∧ Below w.heap.size w w' := by
  by_cases hbig : 4096 < len0
  · have hb : decide (4096 < len0) = true := by simpa using hbig
    go_enter Try.func6, Try.ntmps6
    go_wp2_with (go_at_call 7; refine (big_any _ _ _ _).mono ?_; rintro e w' ⟨rfl, rfl⟩)
    go_ret
    exact ⟨rfl, Below.refl _ _⟩
  · obtain ⟨zs, hzl, hrb⟩ := rdb_of_row (by omega) w0
    subst hzl
    have hb : decide (4096 < zs.length) = false := by simpa using hbig
    clear w0 hbig
    go_enter Try.func6, Try.ntmps6
    go_wp2_with fail
    refine (big_any _ _ _ _).mono ?_
    rintro e w1 ⟨rfl, rfl⟩
    go_wp2_with fail
    refine (drawWays_any _ _ _ _ hrb).mono ?_
    rintro e w2 ⟨vr, l, rfl, rr, hl, k2⟩
    clear hrb
    have hr := rr.rd
    have s0 := hr
    obtain ⟨ar, cr, rfl, _⟩ := s0
    have hw12 := waysL_len l
    go_wp2_with fail
    refine (implWays_any _ _ _ hr (by omega)).mono ?_
    rintro e w3 ⟨vw, rfl, rw0, k1⟩
    have rr3 := rr.keep k1
    clear rr
    have hr2 := hr.keep k1
    have K3 := k2.trans k1
    clear hr k2 k1
    have hw := rw0.rd
    clear rw0
    have s1 := hw
    obtain ⟨aw, cw, rfl, _⟩ := s1
    go_wp2_with fail
    refine (specWays_any _ _ _ _ rr3 (by omega)).mono ?_
    rintro e u7 ⟨v4, rfl, r5, k6⟩
    have hr8 := hr2.keep k6
    have hw9 := hw.keep k6
    have K10 := K3.trans k6
    clear hr2 hw K3 k6
    have hq11 := r5.rd
    clear r5
    clear rr3
    have e0 : decide (waysL l = waysL l) = true := by simp
    go_wp2_with fail
    refine (like_any _ _ _ _ _ hw9 hq11 (by omega)).mono ?_
    rintro e u13 ⟨rfl, k12⟩
    have hr14 := hr8.keep k12
    have hw15 := hw9.keep k12
    have hq16 := hq11.keep k12
    have K17 := K10.trans k12
    clear hr8 hw9 hq11 K10 k12
    clear hq16
    cases hwb : webB l
    · have hw0 : (((waysL l).length : Int) == 0) = true := by unfold waysL; rw [hwb]; rfl
      go_wp2_with fail
      refine (specWebOk_any _ _ _ hr14 (by omega)).mono ?_
      rintro e u18 ⟨rfl, rfl⟩
      go_wp2
      go_ret
      exact ⟨rfl, K17⟩
    · have hz : Web l.length l := web_iff.1 hwb
      have HZ : Hid (Web l.length l) := hz
      clear hz
      go_wp2_with fail
      refine (specWebOk_any _ _ _ hr14 (by omega)).mono ?_
      rintro e u19 ⟨rfl, rfl⟩
      go_wp2_with fail
      refine (within_yes _ _ _ _ _ hr14 hw15 (by omega) (ways_in HZ.out)).mono ?_
      rintro e u21 ⟨rfl, k20⟩
      have hr22 := hr14.keep k20
      have hw23 := hw15.keep k20
      have K24 := K17.trans k20
      clear hr14 hw15 K17 k20
      go_wp2_with fail
      refine (specThen_any _ _ _ _ _ hw23 hw23 (by omega) (by omega)).mono ?_
      rintro e u28 ⟨v25, rfl, r26, k27⟩
      have hr29 := hr22.keep k27
      have hw30 := hw23.keep k27
      have K31 := K24.trans k27
      clear hr22 hw23 K24 k27
      have ht32 := r26.rd
      clear r26
      have ht12 := thenL_len (waysL l) (waysL l)
      go_wp2_with fail
      refine (within_yes _ _ _ _ _ ht32 hw30 (by omega) (ways_on HZ.out)).mono ?_
      rintro e u34 ⟨rfl, k33⟩
      have hr35 := hr29.keep k33
      have hw36 := hw30.keep k33
      have ht37 := ht32.keep k33
      have K38 := K31.trans k33
      clear hr29 hw30 ht32 K31 k33
      clear ht37
      go_wp2_with fail
      refine (implWays_any _ _ _ hw36 (by omega)).mono ?_
      rintro e u42 ⟨v39, rfl, r40, k41⟩
      have hr43 := hr35.keep k41
      have hw44 := hw36.keep k41
      have K45 := K38.trans k41
      clear hr35 hw36 K38 k41
      have hx46 := r40.rd
      clear r40
      have hx12 := waysL_len (waysL l)
      have e1 : decide (waysL (waysL l) = waysL l) = true := by rw [decide_eq_true_eq]; exact ways_ways HZ.out
      go_wp2_with fail
      refine (like_any _ _ _ _ _ hx46 hw44 (by omega)).mono ?_
      rintro e u48 ⟨rfl, k47⟩
      have hr49 := hr43.keep k47
      have hw50 := hw44.keep k47
      have hx51 := hx46.keep k47
      have K52 := K45.trans k47
      clear hr43 hw44 hx46 K45 k47
      clear hx51
      go_wp2_with fail
      go_loopw [5, 6] (fun v0 i wr => ∃ (v : Value) (k : Nat), v = v0 ∧ k ≤ l.length ∧ i = .int .i64 k ∧ Rd wr v (goOn l k) ∧ Rd wr (.slice ar l.length cr) l ∧ Rd wr (.slice aw (waysL l).length cw) (waysL l) ∧ Keep w1 wr) (fun _ i _ => l.length - (intOf i).toNat)
      case atStart => exact ⟨_, 0, rfl, Nat.zero_le _, rfl, hr49, hr49, hw50, K52⟩
      case round =>
        clear hr49 hw50 K52
        obtain ⟨v, k, rfl, hk, rfl, hv, hr, hw, hK⟩ := hrel
        have hg := (web_goOn HZ.out k).2.1
        have hgl : (goOn l k).length ≤ 1048576 := by omega
        clear hg
        by_cases hlt : k < l.length
        · have HG : Hid (goOn l (k + 1) = mixL orI l (thenL (goOn l k) l)) := rfl
          have ht12 := thenL_len (goOn l k) l
          go_wp2_with fail
          refine (specThen_any _ _ _ _ _ hv hr hgl (by omega)).mono ?_
          rintro e u56 ⟨v53, rfl, r54, k55⟩
          have hr57 := hr.keep k55
          have hw58 := hw.keep k55
          have hv59 := hv.keep k55
          have K60 := hK.trans k55
          clear hr hw hv hK k55
          have ht61 := r54.rd
          clear r54
          go_wp2_with fail
          refine (specJoined_any _ _ _ _ _ hr57 ht61 (by omega) (by omega)).mono ?_
          rintro e u65 ⟨v62, rfl, r63, k64⟩
          have hr66 := hr57.keep k64
          have hw67 := hw58.keep k64
          have hv68 := hv59.keep k64
          have ht69 := ht61.keep k64
          have K70 := K60.trans k64
          clear hr57 hw58 hv59 ht61 K60 k64
          have hy71 := r63.rd
          clear r63
          go_wp2
          go_roundw
          case rel => exact ⟨_, k + 1, rfl, by omega, by go_num, by rw [HG.out]; exact hy71, hr66, hw67, K70⟩
          case measure => simp [intOf]; omega
        · obtain rfl : k = l.length := by omega
          have e2 : decide (goOn l l.length = waysL l) = true := by rw [decide_eq_true_eq]; exact goOn_ways HZ.out
          go_wp2_with fail
          refine (like_any _ _ _ _ _ hv hw hgl).mono ?_
          rintro e u73 ⟨rfl, k72⟩
          have hr74 := hr.keep k72
          have hw75 := hw.keep k72
          have hv76 := hv.keep k72
          have K77 := hK.trans k72
          clear hr hw hv hK k72
          go_wp2
          go_ret
          exact ⟨rfl, K77⟩

set_option maxRecDepth 100000 in
theorem lifted (os : Os) (started : os.Started) (H : Type) (enc : TypeId × Value → H) :
    ReturnsInHanded {} Try.checked os 6 .any (Rows.fnWaysSpec.pre6 enc Try.prog Try.f6 Rows.fnWaysRow.domain false) (Rows.fnWaysSpec.post enc Try.prog Try.f6 false true false false) := by
  refine returnsInHanded_of_change (C := Try.checked) own started (by kernel_rfl) Try.func6
    (ChangeSpec.witness6 (enc := enc) (C := Try.checked) false ⟨#[], #[.slice none 0 0], []⟩ 8 (by kernel_rfl) (by kernel_rfl) (by kernel_rfl) (by kernel_rfl)) ?_
  intro W base args ds gs before hval0 hW hcnd _
  have hval : ∀ (j : Nat) t v, Try.f6.params[j]? = some t → args[j]? = some v → Value.okWide Try.prog W .any base t v := hval0
  have hW' := hW
  obtain ⟨p, q, hA0, hV, rfl, hfz, hnd⟩ := hW
  have hA : DataW.TrodAll enc Try.prog W 0 (fun _ => true) true Try.f6.params.toList args.toList ds p := hA0
  rw [Try.params6] at hA hval
  obtain ⟨v0, vs0, d0, ds0, p0, q0, hargs, rfl, rfl, h0, r0⟩ := trodAll_cons hA
  obtain ⟨rfl, rfl, rfl⟩ := trodAll_nil r0
  obtain rfl : args = #[v0] := by cases args; simp_all
  obtain ⟨rfl, rfl⟩ := trodVars_none hV
  obtain ⟨a0, len0, cap0, rfl⟩ := okWide_slice Try.underlying22 (hval 0 22 v0 rfl rfl)
  have k0 := h0
  have lt0 : ∀ x ∈ p0, x.block < W.heap.size := by obtain ⟨m, hm⟩ := k0; exact DataW.trod_lt m _ _ _ hm
  obtain ⟨z0, w0⟩ : ∃ zs, IsRow .u8 W a0 len0 cap0 zs := by
    obtain ⟨fuel, hf⟩ := h0
    rcases open_ints Try.underlying22 Try.underlying5 (by kernel_rfl) hf with ⟨hcs, _⟩ | ⟨x, l, c, zs, hcs, _, hl, hm, hz, _, hcell, hwz⟩
    · simp [Value.cells] at hcs
      obtain ⟨rfl, rfl, rfl⟩ := hcs
      exact ⟨[], .inl ⟨rfl, rfl, rfl, rfl⟩⟩
    · simp [Value.cells] at hcs
      obtain ⟨rfl, rfl, rfl⟩ := hcs
      exact ⟨zs, .inr ⟨_, rfl, hl, hm, by simpa using hz, hcell, hwz⟩⟩
  clear hA0 hval0
  refine (walk a0 len0 cap0 z0 W w0).mono fun e W' ⟨he, bel⟩ => ?_
  subst he
  exact ⟨_, rfl, _, _, _, [], _, [], hW', trodAll_mk1 (shut_bool Try.underlying4 _), (trodAll_cons_mk (Below.trod laidOut (by kernel_rfl) (of_decide_eq_true (by kernel_rfl)) k0 bel lt0) trodAll_mk0), rfl, bel.frame _, fun h => by cases h⟩

theorem over : Rows.fnWaysRow.holds Try.pinned (OpenSpec.ofChange Rows.fnWaysSpec) :=
  OpenClaim.holds_of_wide 6 Try.f6 rfl rfl rfl rfl rfl rfl rfl ⟨rfl, rfl, rfl, rfl, rfl⟩ rfl rfl rfl rfl rfl (by kernel_rfl) Try.func6 (by kernel_rfl)
    (of_decide_eq_true (by kernel_rfl)) (by unfold Func.isWrapper; first | (rw [if_pos (by decide +kernel)]; kernel_rfl) | (rw [if_neg (by decide +kernel)]; exact ⟨rfl, rfl⟩))
    (fun os started H enc _ => lifted os started H enc)

theorem proved : Rows.FnWaysSaid := over
#print axioms proved
end Go.Proofs.Ytmigdnceidbppaa.fnWays
namespace Go.Proofs.Ytmigdnceidbppaa
theorem fnWays_holds : Rows.FnWaysSaid := fnWays.proved
end Go.Proofs.Ytmigdnceidbppaa
