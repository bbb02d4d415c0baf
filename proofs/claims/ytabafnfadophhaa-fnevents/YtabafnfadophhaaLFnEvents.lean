/- At every string of bytes the law FnEvents answers true and its argument stays: the program's EventsOf, ReadsOf, WritesTo and ClassesOf answer as the specification's do at what is drawn; of a right work each deed has its events, in order, behind the three beginnings, and classes are whole. -/
import Derived.Test.YtabafnfadophhaaRows
import Derived.WalkKit
import Derived.ProofKit
import Derived.OpenShut
import Derived.ShutString
import Derived.ChangeOld
import Derived.Below
import Derived.Test.YtabafnfadophhaaEvDraw
import Derived.Test.YtabafnfadophhaaEvLaw
import Derived.Test.YtabafnfadophhaaEvOfI
import Derived.Test.YtabafnfadophhaaEventsI
import Derived.Test.YtabafnfadophhaaReadsOfI
import Derived.Test.YtabafnfadophhaaReadsOfS
import Derived.Test.YtabafnfadophhaaWritesToI
import Derived.Test.YtabafnfadophhaaWritesToS
import Derived.Test.YtabafnfadophhaaClassesOfI
import Derived.Test.YtabafnfadophhaaEvLen
import Derived.Test.YtabafnfadophhaaLikeE
import Derived.Test.YtabafnfadophhaaMC
namespace Go.Proofs.Ytabafnfadophhaa.fnEvents
open Go.ChangeShapes Go.WideShapes Go.ChangeAt Go.RowKit
open Go.ChangeMaps (open_string shut_string)
set_option linter.unusedVariables false

theorem own : ownKnob Try.prog.godebug = none := by kernel_rfl
theorem laidOut : laidOutB Try.prog = true := by kernel_rfl

/-- What the walk is told of a slice of bytes that came in: it is nil, or it leads to a row of cells, each fitting its kind. -/
def IsRow (k : IntKind) (w : World) (a : Option Addr) (len cap : Nat) (zs : List Int) : Prop :=
  (a = none ∧ len = 0 ∧ cap = 0 ∧ zs = []) ∨
  ∃ x, a = some x ∧ len ≤ cap ∧ cap ≤ maxLen ∧ zs.length = cap ∧ (∀ i, i < zs.length → w.cell? (x.add i) = some (.int k (zs.getD i 0))) ∧ ∀ n ∈ zs, (Lit.int k n).wf = true

set_option maxRecDepth 100000 in
set_option maxHeartbeats 8000000 in
theorem walk (a0 : Option Addr) (len0 cap0 : Nat) (z0 : List Int) (w : World) (w0 : IsRow .u8 w a0 len0 cap0 z0) :
    Calls Try.prog 3 #[.slice a0 len0 cap0] w fun e w' => e = .returned (.bool true) ∧ Below w.heap.size w w' := by
  by_cases hbig : 4096 < len0
  · have hbb : decide (4096 < len0) = true := by simpa using hbig
    go_enter Try.func3, Try.ntmps3
    go_wp2_with (go_at_call 8; refine (big_any _ _ _ _).mono ?_; rintro e w' ⟨rfl, rfl⟩)
    go_ret
    exact ⟨rfl, Below.refl _ _⟩
  have hbb : decide (4096 < len0) = false := by simpa using hbig
  obtain ⟨zs, hzl, hrd⟩ : ∃ zs : List Int, zs.length = len0 ∧ RdB w w.heap.size a0 zs := rdb_of_row (by omega) w0
  subst hzl
  clear w0 hbig
  go_enter Try.func3, Try.ntmps3
  go_wp2_with fail
  refine (big_any _ _ _ _).mono ?_
  rintro e w' ⟨rfl, rfl⟩
  go_wp2_with fail
  refine (drawEvents_any _ a0 cap0 zs hrd).mono ?_
  rintro e w1 ⟨v, dss, rfl, hR, hS, k1⟩
  have l1 : dss.length ≤ 1048576 := by have := hS.1; omega
  have l2 : ∀ i, i < dss.length → (dss.getD i []).length ≤ 1048576 := fun i hi => by have := hS.2 i hi; omega
  have L2 := Lib.hid l2
  clear hS hbb l2
  go_wp2_with fail
  refine (implEventsOf_any _ _ _ hR l1 L2.out).mono ?_
  rintro e w2 ⟨x, rfl, ax, k2⟩
  replace hR := hR.keep k2
  have hX := ax.rd
  have gx := eventsB_len dss
  have K2 := k1.trans k2
  clear ax k1 k2
  go_wp2_with fail
  refine (drawReads_any _ a0 cap0 zs (hrd.up K2)).mono ?_
  rintro e w3 ⟨vl, ls, rfl, hl, ll, k3⟩
  replace hR := hR.keep k3
  replace hX := hX.keep k3
  have K3 := K2.trans k3
  clear k3 K2
  go_wp2_with fail
  refine (implReadsOf_any _ _ _ hl (by omega)).mono ?_
  rintro e w4 ⟨vr, rfl, or4, k4⟩
  replace hR := hR.keep k4
  replace hX := hX.keep k4
  replace hl := hl.keep k4
  have hr := or4.rd
  have K4 := K3.trans k4
  clear k4 K3 or4
  go_wp2_with fail
  refine (drawWrites_any _ a0 cap0 zs (hrd.up K4)).mono ?_
  rintro e w5 ⟨vq, qs, p, rfl, hq, lq, k5⟩
  replace hR := hR.keep k5
  replace hX := hX.keep k5
  replace hl := hl.keep k5
  replace hr := hr.keep k5
  have K5 := K4.trans k5
  clear k5 K4
  go_wp2_with fail
  refine (drawClasses_any _ a0 cap0 zs (hrd.up K5)).mono ?_
  rintro e w6 ⟨vc, cs, rfl, hc, lc, k6⟩
  replace hR := hR.keep k6
  replace hX := hX.keep k6
  replace hl := hl.keep k6
  replace hr := hr.keep k6
  replace hq := hq.keep k6
  have K6 := K5.trans k6
  clear k6 K5 hrd
  have ga := idxB_len rdE ls
  have gb := idxB_len (toE p) qs
  have gc := clsB_len cs
  have HRise := Lib.hid (idxB_rises rdE ls)
  go_wp2_with fail
  refine (specEventsOf_any _ _ _ hR l1 L2.out).mono ?_
  rintro e w7 ⟨y7, rfl, a7, k7⟩
  replace hR := hR.keep k7
  replace hX := hX.keep k7
  replace hl := hl.keep k7
  replace hr := hr.keep k7
  replace hq := hq.keep k7
  replace hc := hc.keep k7
  have K7 := K6.trans k7
  clear k7 K6
  go_wp2_with fail
  refine (likeE_any _ _ _ _ hX a7.rd gx).mono ?_
  rintro e w8 ⟨rfl, k8⟩
  replace hR := hR.keep k8
  replace hX := hX.keep k8
  replace hl := hl.keep k8
  replace hr := hr.keep k8
  replace hq := hq.keep k8
  replace hc := hc.keep k8
  have K8 := K7.trans k8
  clear k8 K7 a7
  go_wp2_with fail
  refine (specReadsOf_any _ _ _ hl (by omega)).mono ?_
  rintro e w9 ⟨y9, rfl, o9, k9⟩
  replace hR := hR.keep k9
  replace hX := hX.keep k9
  replace hr := hr.keep k9
  replace hq := hq.keep k9
  replace hc := hc.keep k9
  have K9 := K8.trans k9
  clear k9 K8 hl
  generalize idxB rdE ls = ra at hr o9 ga HRise
  go_wp2_with fail
  refine (like_any _ _ _ _ _ hr o9.rd (by omega)).mono ?_
  rintro e w10 ⟨rfl, k10⟩
  replace hR := hR.keep k10
  replace hX := hX.keep k10
  replace hr := hr.keep k10
  replace hq := hq.keep k10
  replace hc := hc.keep k10
  have K10 := K9.trans k10
  clear k10 K9 o9
  go_wp2_with fail
  refine (implWritesTo_any _ _ _ hq (by omega) p).mono ?_
  rintro e w11 ⟨y11, rfl, o11, k11⟩
  replace hR := hR.keep k11
  replace hX := hX.keep k11
  replace hr := hr.keep k11
  replace hq := hq.keep k11
  replace hc := hc.keep k11
  have h11 := o11.rd
  have K11 := K10.trans k11
  clear k11 K10 o11
  go_wp2_with fail
  refine (specWritesTo_any _ _ _ p hq (by omega)).mono ?_
  rintro e w12 ⟨y12, rfl, o12, k12⟩
  replace hR := hR.keep k12
  replace hX := hX.keep k12
  replace hr := hr.keep k12
  replace hc := hc.keep k12
  replace h11 := h11.keep k12
  have K12 := K11.trans k12
  clear k12 K11 hq
  generalize idxB (toE p) qs = rb at h11 o12 gb
  go_wp2_with fail
  refine (like_any _ _ _ _ _ h11 o12.rd (by omega)).mono ?_
  rintro e w13 ⟨rfl, k13⟩
  replace hR := hR.keep k13
  replace hX := hX.keep k13
  replace hr := hr.keep k13
  replace hc := hc.keep k13
  have K13 := K12.trans k13
  clear k13 K12 o12 h11
  go_wp2_with fail
  refine (implClassesOf_any _ _ _ hc (by omega)).mono ?_
  rintro e w14 ⟨y14, rfl, o14, k14⟩
  replace hR := hR.keep k14
  replace hX := hX.keep k14
  replace hr := hr.keep k14
  replace hc := hc.keep k14
  have h14 := o14.rd
  have K14 := K13.trans k14
  clear k14 K13 o14
  go_wp2_with fail
  refine (specClassesOf_any _ _ _ hc (by omega)).mono ?_
  rintro e w15 ⟨y15, rfl, o15, k15⟩
  replace hR := hR.keep k15
  replace hX := hX.keep k15
  replace hr := hr.keep k15
  replace h14 := h14.keep k15
  have K15 := K14.trans k15
  clear k15 K14 hc
  generalize clsB cs = rc at h14 o15 gc
  go_wp2_with fail
  refine (like_any _ _ _ _ _ h14 o15.rd (by omega)).mono ?_
  rintro e w16 ⟨rfl, k16⟩
  replace hR := hR.keep k16
  replace hX := hX.keep k16
  replace hr := hr.keep k16
  have K16 := K15.trans k16
  clear k16 K15 o15 h14
  go_wp2_with fail
  refine (rises_any _ _ _ hr (by omega) HRise.out).mono ?_
  rintro e w17 ⟨rfl, k17⟩
  replace hR := hR.keep k17
  replace hX := hX.keep k17
  have K17 := K16.trans k17
  clear k17 K16 hr HRise
  go_wp2_with fail
  refine (specWorkOk_any _ _ _ hR l1 L2.out).mono ?_
  cases hb : workB dss
  · have HE : Hid (eventsB dss = []) := Lib.hid (by rw [eventsB, hb]; rfl)
    rintro e w18 ⟨rfl, k18⟩
    have K18 := K17.trans k18
    obtain ⟨ax, cx, rfl, -⟩ := hX
    rw [HE.out]
    go_wp2
    go_ret
    exact ⟨rfl, K18⟩
  rintro e w18 ⟨rfl, k18⟩
  replace hR := hR.keep k18
  replace hX := hX.keep k18
  have K18 := K17.trans k18
  clear k18 K17
  obtain ⟨b3, b12, HLEN, HSUM, F0, F1, F2, HG⟩ := events_all hb
  have HLEN := Lib.hid HLEN
  have HSUM := Lib.hid HSUM
  have HG := Lib.hid HG
  clear hb
  generalize eventsB dss = es at hX gx b3 b12 HLEN HSUM F0 F1 F2 HG
  have g0 := idxB_len (toE 0) es
  have g1 := idxB_len (toE 1) es
  have g2 := idxB_len (toE 2) es
  have g3 := idxB_len rdE es
  go_wp2_with fail
  refine (implReadsOf_any _ _ _ hX gx).mono ?_
  rintro e w19 ⟨y19, rfl, o19, k19⟩
  replace hR := hR.keep k19
  replace hX := hX.keep k19
  have K19 := K18.trans k19
  obtain ⟨a19, c19, rfl, -⟩ := o19.rd
  clear k19 K18 o19
  generalize (idxB rdE es).length = n3 at g3 HSUM
  go_wp2
  refine wp_loop_rounds 4 ?_
  obtain ⟨r0, F0⟩ := F0
  obtain ⟨z0, hz0⟩ : ∃ z, z = idxB (toE 0) es := ⟨_, rfl⟩
  rw [← hz0] at F0 g0 HSUM
  have HZ0 := Lib.hid hz0
  have HF0 := Lib.hid F0
  clear hz0 F0
  rw [rounds_succ]
  go_wp2_with fail
  refine (implWritesTo_any _ _ _ hX gx _).mono ?_
  rw [← HZ0.out]
  rintro e w20 ⟨y20, rfl, o20, k20⟩
  replace hR := hR.keep k20
  replace hX := hX.keep k20
  have K20 := K19.trans k20
  obtain ⟨a20, c20, rfl, -⟩ := o20.rd
  clear k20 K19 o20
  go_wp2_with fail
  refine (implWritesTo_any _ _ _ hX gx _).mono ?_
  rw [← HZ0.out]
  rintro e w21 ⟨y21, rfl, o21, k21⟩
  replace hR := hR.keep k21
  replace hX := hX.keep k21
  have K21 := K20.trans k21
  obtain ⟨b21, c21, rfl, l21, d21, p21⟩ := own_first o21 HF0.out
  clear k21 K20 o21 HZ0 HF0
  generalize z0.length = n0 at g0 HSUM p21
  go_wp2
  clear l21 d21 p21
  obtain ⟨r1, F1⟩ := F1
  obtain ⟨z1, hz1⟩ : ∃ z, z = idxB (toE 1) es := ⟨_, rfl⟩
  rw [← hz1] at F1 g1 HSUM
  have HZ1 := Lib.hid hz1
  have HF1 := Lib.hid F1
  clear hz1 F1
  rw [rounds_succ]
  go_wp2_with fail
  refine (implWritesTo_any _ _ _ hX gx _).mono ?_
  rw [← HZ1.out]
  rintro e w22 ⟨y22, rfl, o22, k22⟩
  replace hR := hR.keep k22
  replace hX := hX.keep k22
  have K22 := K21.trans k22
  obtain ⟨a22, c22, rfl, -⟩ := o22.rd
  clear k22 K21 o22
  go_wp2_with fail
  refine (implWritesTo_any _ _ _ hX gx _).mono ?_
  rw [← HZ1.out]
  rintro e w23 ⟨y23, rfl, o23, k23⟩
  replace hR := hR.keep k23
  replace hX := hX.keep k23
  have K23 := K22.trans k23
  obtain ⟨b23, c23, rfl, l23, d23, p23⟩ := own_first o23 HF1.out
  clear k23 K22 o23 HZ1 HF1
  generalize z1.length = n1 at g1 HSUM p23
  go_wp2
  clear l23 d23 p23
  obtain ⟨r2, F2⟩ := F2
  obtain ⟨z2, hz2⟩ : ∃ z, z = idxB (toE 2) es := ⟨_, rfl⟩
  rw [← hz2] at F2 g2 HSUM
  have HZ2 := Lib.hid hz2
  have HF2 := Lib.hid F2
  clear hz2 F2
  rw [rounds_succ]
  go_wp2_with fail
  refine (implWritesTo_any _ _ _ hX gx _).mono ?_
  rw [← HZ2.out]
  rintro e w24 ⟨y24, rfl, o24, k24⟩
  replace hR := hR.keep k24
  replace hX := hX.keep k24
  have K24 := K23.trans k24
  obtain ⟨a24, c24, rfl, -⟩ := o24.rd
  clear k24 K23 o24
  go_wp2_with fail
  refine (implWritesTo_any _ _ _ hX gx _).mono ?_
  rw [← HZ2.out]
  rintro e w25 ⟨y25, rfl, o25, k25⟩
  replace hR := hR.keep k25
  replace hX := hX.keep k25
  have K25 := K24.trans k25
  obtain ⟨b25, c25, rfl, l25, d25, p25⟩ := own_first o25 HF2.out
  clear k25 K24 o25 HZ2 HF2
  generalize z2.length = n2 at g2 HSUM p25
  go_wp2
  clear l25 d25 p25
  rw [rounds_succ]
  obtain ⟨ax, cx, rfl, -⟩ := id hX
  go_wp2_with fail
  refine (implEventsIn_any _ _ _ hR l1 L2.out).mono ?_
  rintro e w26 ⟨rfl, k26⟩
  replace hR := hR.keep k26
  replace hX := hX.keep k26
  have K26 := K25.trans k26
  clear k26 K25
  generalize evB dss = m at HLEN
  have m0 : 0 ≤ m := by have := HLEN.out; omega
  have m1 : m ≤ 12 := by have := HLEN.out; omega
  have q1 : ((es.length : Int) != 3 + m) = false := by have := HLEN.out; simp; omega
  have q2 : ((n3 : Int) + n0 + n1 + n2 != (es.length : Int)) = false := by have := HSUM.out; simp; omega
  clear HLEN HSUM
  go_wp2
  have hRW := hR
  have hXW := hX
  obtain ⟨av, cv, rfl, hR⟩ := hR
  obtain ⟨bx, ox, rfl, hbx, hcx⟩ : ∃ b o, ax = some ⟨b, o, none⟩ ∧ b < w26.heap.size ∧ ∀ i x, es[i]? = some x → AtT cE w26 b (o + i * 6) x := by
    obtain ⟨a', c', he, h⟩ := hX
    simp only [Value.slice.injEq, true_and] at he
    obtain ⟨rfl, _⟩ := he
    rcases h with h | ⟨b, o, rfl, h1, h2⟩
    · exfalso; rw [h] at b3; simp at b3
    · exact ⟨b, o, rfl, h1, h2⟩
  clear hX hXW hRW
  go_loopw [13] (fun i wr => ∃ j : Nat, 3 ≤ j ∧ j ≤ es.length ∧ i = .int .i64 j ∧ Keep w26 wr) (fun i _ => es.length - (intOf i).toNat)
  case atStart => exact ⟨3, Nat.le_refl _, b3, rfl, Keep.refl _⟩
  case round =>
    obtain ⟨j, hj3, hj, rfl, hK⟩ := hrel
    by_cases hlt : j < es.length
    · obtain ⟨i, k, c, rd, vl, e1, i1, k1, r1, r2, c1, k', rd', pl', vl', e2, k2, r3⟩ := HG.out j hj3 hlt
      rcases hR with h | ⟨bw, ow, rfl, hbw, hcw⟩
      · exfalso; rw [h] at i1; simp at i1
      obtain ⟨vi, ei, ri⟩ := hcw i i1
      clear hcw HG
      obtain ⟨ds, hds⟩ : ∃ ds, ds = dss.getD i [] := ⟨_, rfl⟩
      rw [← hds] at ri k1 k2 r2 r3 e1
      clear hds
      obtain ⟨ai, ci, rfl, ri⟩ := ri
      rcases ri with h | ⟨bd, od, rfl, hbd, hcd⟩
      · exfalso; rw [h] at k1; simp at k1
      have T1 := (hcd k k1).keep hbd hK
      have T2 := ((hcd k' k2).keep hbd hK).2.2.2
      have X1 := (hcx j _ e1).keep hbx hK
      have X2 := (hcx c _ e2).keep hbx hK
      have di := (hK.cell hbw).trans ei
      have cl : c < es.length := by omega
      clear hcd hcx e1 e2 ei
      generalize (ds.getD k' zD).2.2.2 = g' at T2 r3
      obtain ⟨d, hd⟩ : ∃ d, d = ds.getD k zD := ⟨_, rfl⟩
      rw [← hd] at T1 X1 r2 r3
      clear hd
      obtain ⟨x0, x1, x2, x3⟩ := d
      obtain ⟨t0, t1, t2, t3⟩ := T1
      simp only at t0 t1 t2 t3 X1 r2 r3
      obtain ⟨s0, s1, s2, s3, s4, s5⟩ := atE X1
      obtain ⟨q0, q1', -, -, -, q5⟩ := atE X2
      clear X1 X2
      have z1 : bx < wr.heap.size := Nat.lt_of_lt_of_le hbx hK.size
      have z2 : bw < wr.heap.size := Nat.lt_of_lt_of_le hbw hK.size
      have z3 : bd < wr.heap.size := Nat.lt_of_lt_of_le hbd hK.size
      have j1 : (0 : Int) ≤ (j : Int) := Int.natCast_nonneg _
      have j2 : (j : Int) < (es.length : Int) := by omega
      have j3 : (0 : Int) ≤ (i : Int) := Int.natCast_nonneg _
      have j4 : (i : Int) < (dss.length : Int) := by omega
      have j5 : (0 : Int) ≤ (k : Int) := Int.natCast_nonneg _
      have j6 : (k : Int) < (ds.length : Int) := by omega
      have j7 : (0 : Int) ≤ (c : Int) := Int.natCast_nonneg _
      have j8 : (c : Int) < (es.length : Int) := by omega
      have j9 : (0 : Int) ≤ (k' : Int) := Int.natCast_nonneg _
      have j10 : (k' : Int) < (ds.length : Int) := by omega
      have j11 : (c : Int) ≤ (j : Int) := by omega
      have j12 : decide (j < c) = false := by simp; omega
      cases rd
      · have hv := r2 rfl
        subst hv
        clear r1 r2
        go_wp2
        go_region
        go_wp2
        simp only [List.append_eq, List.cons_append, List.nil_append]
        go_quiet (fail)
        go_wp2
        by_cases hcj : c = j
        · have ecj : ((c : Int) != (j : Int)) = false := by simp [hcj]
          clear hcj
          go_quiet (fail)
          go_wp2
          go_roundw
          case rel => exact ⟨j + 1, by omega, by omega, by go_num, (hK.alloc _).drewN _⟩
          case measure => simp [intOf]; omega
        · have ecj : ((c : Int) != (j : Int)) = true := by simp; omega
          by_cases hx3 : x0 = 3
          · have ex3 : (x0 != 3) = false := by simp [hx3]
            clear hcj hx3 r3
            go_quiet (fail)
            go_wp2
            go_roundw
            case rel => exact ⟨j + 1, by omega, by omega, by go_num, (hK.alloc _).drewN _⟩
            case measure => simp [intOf]; omega
          · have ex3 : (x0 != 3) = true := by simp [hx3]
            obtain ⟨gn, ge⟩ := r3 hcj hx3
            have eg0 : (x3 == 0) = false := by simp [gn]
            have eg1 : (g' != x3) = false := by simp [ge]
            clear hcj hx3 gn ge r3
            go_quiet (fail)
            go_wp2
            go_roundw
            case rel => exact ⟨j + 1, by omega, by omega, by go_num, (hK.alloc _).drewN _⟩
            case measure => simp [intOf]; omega
      · have hv := r1 rfl
        subst hv
        clear r1 r2
        go_wp2
        go_region
        go_wp2
        simp only [List.append_eq, List.cons_append, List.nil_append]
        go_quiet (fail)
        go_wp2
        by_cases hcj : c = j
        · have ecj : ((c : Int) != (j : Int)) = false := by simp [hcj]
          clear hcj
          go_quiet (fail)
          go_wp2
          go_roundw
          case rel => exact ⟨j + 1, by omega, by omega, by go_num, (hK.alloc _).drewN _⟩
          case measure => simp [intOf]; omega
        · have ecj : ((c : Int) != (j : Int)) = true := by simp; omega
          by_cases hx3 : x0 = 3
          · have ex3 : (x0 != 3) = false := by simp [hx3]
            clear hcj hx3 r3
            go_quiet (fail)
            go_wp2
            go_roundw
            case rel => exact ⟨j + 1, by omega, by omega, by go_num, (hK.alloc _).drewN _⟩
            case measure => simp [intOf]; omega
          · have ex3 : (x0 != 3) = true := by simp [hx3]
            obtain ⟨gn, ge⟩ := r3 hcj hx3
            have eg0 : (x3 == 0) = false := by simp [gn]
            have eg1 : (g' != x3) = false := by simp [ge]
            clear hcj hx3 gn ge r3
            go_quiet (fail)
            go_wp2
            go_roundw
            case rel => exact ⟨j + 1, by omega, by omega, by go_num, (hK.alloc _).drewN _⟩
            case measure => simp [intOf]; omega
    · obtain rfl : j = es.length := by omega
      go_wp2
      go_ret
      exact ⟨rfl, K26.trans hK⟩

set_option maxRecDepth 100000 in
theorem lifted (os : Os) (started : os.Started) (H : Type) (enc : TypeId × Value → H) :
    ReturnsInHanded {} Try.checked os 3 .any (Rows.fnEventsSpec.pre6 enc Try.prog Try.f3 Rows.fnEventsRow.domain false) (Rows.fnEventsSpec.post enc Try.prog Try.f3 false true false false) := by
  refine returnsInHanded_of_change (C := Try.checked) own started (by kernel_rfl) Try.func3
    (ChangeSpec.witness6 (enc := enc) (C := Try.checked) false ⟨#[], #[.slice none 0 0], []⟩ 8 (by kernel_rfl) (by kernel_rfl) (by kernel_rfl) (by kernel_rfl)) ?_
  intro W base args ds gs before hval0 hW hcnd _

  have hval : ∀ (j : Nat) t v, Try.f3.params[j]? = some t → args[j]? = some v → Value.okWide Try.prog W .any base t v := hval0
  have hW' := hW
  obtain ⟨p, q, hA0, hV, rfl, hfz, hnd⟩ := hW
  have hA : DataW.TrodAll enc Try.prog W 0 (fun _ => true) true Try.f3.params.toList args.toList ds p := hA0
  rw [Try.params3] at hA hval
  obtain ⟨v0, vs0, d0, ds0, p0, q0, hargs, rfl, rfl, h0, r0⟩ := trodAll_cons hA
  obtain ⟨rfl, rfl, rfl⟩ := trodAll_nil r0
  obtain rfl : args = #[v0] := by cases args; simp_all
  obtain ⟨rfl, rfl⟩ := trodVars_none hV
  have k0 := h0
  have lt0 : ∀ x ∈ p0, x.block < W.heap.size := by obtain ⟨m, hm⟩ := k0; exact DataW.trod_lt m _ _ _ hm
  obtain ⟨a0, len0, cap0, rfl⟩ := okWide_slice Try.underlying22 (hval 0 22 v0 rfl rfl)
  obtain ⟨z0, w0⟩ : ∃ zs, IsRow .u8 W a0 len0 cap0 zs := by
    obtain ⟨fuel, hf⟩ := h0
    rcases open_ints Try.underlying22 Try.underlying5 (by kernel_rfl) hf with ⟨hcs, _⟩ | ⟨x, l, c, zs, hcs, _, hl, hm, hz, _, hcell, hwz⟩
    · simp [Value.cells] at hcs
      obtain ⟨rfl, rfl, rfl⟩ := hcs
      exact ⟨[], .inl ⟨rfl, rfl, rfl, rfl⟩⟩
    · simp [Value.cells] at hcs
      obtain ⟨rfl, rfl, rfl⟩ := hcs
      exact ⟨zs, .inr ⟨_, rfl, hl, hm, by simpa using hz, hcell, hwz⟩⟩
  clear hA0 hval0
  refine (walk a0 len0 cap0 z0 W w0).mono fun e W' ⟨he, bel⟩ => ?_
  subst he
  exact ⟨_, rfl, _, _, _, [], _, [], hW', trodAll_mk1 (shut_bool Try.underlying4 _), (trodAll_cons_mk (Below.trod laidOut (by kernel_rfl) (of_decide_eq_true (by kernel_rfl)) k0 bel lt0) trodAll_mk0), rfl, bel.frame _, fun h => by cases h⟩

theorem over : Rows.fnEventsRow.holds Try.pinned (OpenSpec.ofChange Rows.fnEventsSpec) :=
  OpenClaim.holds_of_wide 3 Try.f3 rfl rfl rfl rfl rfl rfl rfl ⟨rfl, rfl, rfl, rfl, rfl⟩ rfl rfl rfl rfl rfl (by kernel_rfl) Try.func3 (by kernel_rfl)
    (of_decide_eq_true (by kernel_rfl)) (by unfold Func.isWrapper; first | (rw [if_pos (by decide +kernel)]; kernel_rfl) | (rw [if_neg (by decide +kernel)]; exact ⟨rfl, rfl⟩))
    (fun os started H enc _ => lifted os started H enc)

#print axioms over
end Go.Proofs.Ytabafnfadophhaa.fnEvents
namespace Go.Proofs.Ytabafnfadophhaa
theorem fnEvents_holds : Rows.FnEventsSaid := fnEvents.over
end Go.Proofs.Ytabafnfadophhaa
