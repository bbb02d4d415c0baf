/- Several texts in one. -/
import Derived.Test.YtkbkdlaknmgjpaaMB
import Derived.Outline
import Derived.BigRegion
import Derived.RegionTactic
import Derived.Deep.RegionHeld3
import Derived.Deep.QuietTactic
import Derived.BigQuiet
import Derived.Lib.Hide
import Derived.Test.YtkbkdlaknmgjpaaMA
import Derived.Maps.AppendAt
import Derived.Laws.OwnMore
import Derived.OwnWalk
import Derived.Deep.CutRange
namespace Go.Proofs.Ytkbkdlaknmgjpaa
open Go
open Go.ChangeShapes Go.WideShapes Go.ChangeAt Go.RowKit
open Go.RowKit
set_option maxHeartbeats 1000000 in
theorem wClo_any (x0 x1 : Int) (x2 : Bool) (x3 x4 x5 p : Int) (P : Nat) (w : World) (hP : w.cell? ⟨P, 0, none⟩ = some (.int .i64 p)) (hPl : P < w.heap.size) :
  Calls Try.prog 71 #[.agg #[.int .i64 x0, .int .i64 x1, .bool x2, .int .i64 x3, .int .i64 x4, .int .i64 x5], .pointer (some ⟨P, 0, none⟩)] w fun e w' => e = .returned (.bool (toE p (x0, x1, x2, x3, x4, x5))) ∧ Keep w w' := by
 cases x2
 ·
  by_cases hp : x3 = p
  ·
   subst hp
   go_enter Try.func71, Try.ntmps71
   go_wp2
   go_ret
   exact ⟨ret_bool (by simp [toE]), (Keep.refl w).alloc _⟩
  ·
   have he : (x3 == p) = false := by simpa using hp
   go_enter Try.func71, Try.ntmps71
   go_wp2
   go_ret
   exact ⟨ret_bool (by simp [toE, hp]), (Keep.refl w).alloc _⟩
 ·
  go_enter Try.func71, Try.ntmps71
  go_wp2
  go_ret
  exact ⟨ret_bool (by simp [toE]), (Keep.refl w).alloc _⟩
set_option maxRecDepth 100000 in
set_option maxHeartbeats 2000000 in
theorem wNum_any (w : World) (v : Value) (es : List Ev) (h : RdE w v es) (k : Nat) (A B : Nat) (p : Int) (P : Nat) (hP : w.cell? ⟨P, 0, none⟩ = some (.int .i64 p)) (hPl : P < w.heap.size) (hA : w.cell? ⟨A, 0, none⟩ = some v) (hAl : A < w.heap.size) (hB : w.cell? ⟨B, 0, none⟩ = some (.func (Fn.func 71) #[] #[.pointer (some ⟨P, 0, none⟩)])) (hBl : B < w.heap.size) :
  Calls Try.prog 66 #[.int .i64 k, .pointer (some ⟨A, 0, none⟩), .pointer (some ⟨B, 0, none⟩)] w fun e w' => e = .returned (.bool (tstE (toE p) es k)) ∧ Keep w w' := by
 obtain ⟨a, c, rfl, h⟩ := h
 by_cases hlt : k < es.length
 ·
  rcases h with h | ⟨b, o, rfl, hb, hc⟩
  ·
   exfalso; rw [h] at hlt; simp at hlt
  have AT := hc k _ (evs_get hlt)
  have HE : Hid (tstE (toE p) es k = (toE p) (es.getD k zE)) := Lib.hid (by unfold tstE; simp [hlt])
  clear hc
  obtain ⟨e, he⟩ : ∃ e, e = es.getD k zE := ⟨_, rfl⟩
  rw [← he] at AT HE
  clear he
  obtain ⟨x0, x1, x2, x3, x4, x5⟩ := e
  obtain ⟨d0, d1, d2, d3, d4, d5⟩ := atE AT
  clear AT
  have i1 : (0 : Int) ≤ (k : Int) := Int.natCast_nonneg _
  have i2 : (k : Int) < (es.length : Int) := by omega
  have z1 : b < w.drew.heap.size := hb
  have z2 : A < w.drew.heap.size := hAl
  have z3 : B < w.drew.heap.size := hBl
  have z4 : P < w.drew.heap.size := hPl
  go_enter Try.func66, Try.ntmps66
  go_wp2_with fail
  go_region_held3 (fun w' => w'.cell? ⟨A, 0, none⟩ = some (.slice (some ⟨b, o, none⟩) es.length (es.length + c)) ∧ w'.cell? ⟨B, 0, none⟩ = some (.func (Fn.func 71) #[] #[.pointer (some ⟨P, 0, none⟩)]) ∧ w'.cell? ⟨P, 0, none⟩ = some (.int .i64 p) ∧ w'.cell? ⟨b, o + k * 6, none⟩ = some (.int .i64 x0) ∧ w'.cell? ⟨b, o + k * 6 + 1, none⟩ = some (.int .i64 x1) ∧ w'.cell? ⟨b, o + k * 6 + 2, none⟩ = some (.bool x2) ∧ w'.cell? ⟨b, o + k * 6 + 3, none⟩ = some (.int .i64 x3) ∧ w'.cell? ⟨b, o + k * 6 + 4, none⟩ = some (.int .i64 x4) ∧ w'.cell? ⟨b, o + k * 6 + 5, none⟩ = some (.int .i64 x5))
   (first | go_keep | (go_split_ands; refine ⟨?_, ?_, ?_, ?_, ?_, ?_, ?_, ?_, ?_⟩ <;> (rw [kk.cell (by assumption)]; assumption)))
   ((go_at_call 71; refine (wClo_any x0 x1 x2 x3 x4 x5 p P _ (by assumption) (by assumption)).mono ?_; rintro e wz ⟨rfl, kk⟩))
  all_goals
   go_wp2
   go_ret
   exact ⟨by rw [HE.out]; rfl, ((Keep.refl w).drew).trans kk⟩
 ·
  have HE : Hid (tstE (toE p) es k = false) := Lib.hid (by unfold tstE; simp [hlt])
  have i2 : ¬ ((k : Int) < (es.length : Int)) := by omega
  go_enter Try.func66, Try.ntmps66
  go_wp2_with fail
  go_quiet (fail)
  go_wp2
  go_ret
  exact ⟨by rw [HE.out]; rfl, (Keep.refl w).drewN _⟩
set_option maxRecDepth 100000 in
set_option maxHeartbeats 1000000 in
theorem wChosen_any (w : World) (v : Value) (es : List Ev) (h : RdE w v es) (hx : es.length ≤ 12) (A B : Nat) (p : Int) (P : Nat) (hP : w.cell? ⟨P, 0, none⟩ = some (.int .i64 p)) (hPl : P < w.heap.size) (hA : w.cell? ⟨A, 0, none⟩ = some v) (hAl : A < w.heap.size) (hB : w.cell? ⟨B, 0, none⟩ = some (.func (Fn.func 71) #[] #[.pointer (some ⟨P, 0, none⟩)])) (hBl : B < w.heap.size) :
  Calls Try.prog 61 #[.func (Fn.func 66) #[] #[.pointer (some ⟨A, 0, none⟩), .pointer (some ⟨B, 0, none⟩)]] w fun e w' => ∃ v', e = .returned v' ∧ Own w' w.heap.size v' (idxK (toE p) es es.length) ∧ Keep w w' := by
 have hown0 : Own (w.alloc (.cells #[] 2)) w.heap.size (.slice (some ⟨w.heap.size, 0, none⟩) 0 0) [] := World.ownsRow_lit w #[] 0 (Nat.le_refl _) (by decide) rfl
 obtain ⟨i0, hi, hz0, hz1, hz2⟩ := info_parts Try.infoI
 go_enter Try.func61, Try.ntmps61
 go_wp2
 go_loopw [3, 6] (fun v i wr => ∃ k : Nat, k ≤ 12 ∧ i = .int .i64 k ∧ Own wr w.heap.size v (chK (toE p) es k) ∧ Keep w wr) (fun _ i _ => 12 - (intOf i).toNat)
 case atStart => exact ⟨0, Nat.zero_le _, rfl, hown0, (Keep.refl _).alloc _⟩
 case round =>
  obtain ⟨k, hk, rfl, ho, hK⟩ := hrel
  clear hown0
  by_cases hlt : k < 12
  ·
   have hml := chK_len (toE p) es k
   have hsz := hK.size
   have C := wNum_any wr v es (h.keep hK) k A B p P (by rw [hK.cell hPl]; exact hP) (Nat.lt_of_lt_of_le hPl hK.size) (by rw [hK.cell hAl]; exact hA) (Nat.lt_of_lt_of_le hAl hK.size) (by rw [hK.cell hBl]; exact hB) (Nat.lt_of_lt_of_le hBl hK.size)
   clear h hA hB
   cases hb : tstE (toE p) es k
   ·
    have HM : Hid (chK (toE p) es (k + 1) = chK (toE p) es k) := Lib.hid (by rw [chK, hb]; rfl)
    rw [hb] at C
    go_wp2_with fail
    refine C.mono ?_
    rintro e w1 ⟨rfl, k1⟩
    go_wp2
    go_roundw
    case rel => exact ⟨k + 1, by omega, by go_num, by rw [HM.out]; exact ho.keep k1, hK.trans k1⟩
    case measure => simp [intOf]; omega
   ·
    have HM : Hid (chK (toE p) es (k + 1) = chK (toE p) es k ++ [(k : Int)]) := Lib.hid (by rw [chK, hb]; rfl)
    rw [hb] at C
    go_wp2_with fail
    refine C.mono ?_
    rintro e w1 ⟨rfl, k1⟩
    have ho1 := ho.keep k1
    have hK1 := hK.trans k1
    have hsz1 := hK1.size
    clear ho hK C
    go_wp2_with (at_builtin; refine wpList_append_own _ rfl _ _ 23 rfl w.heap.size 2 i0 (.int .i64 0) 1 8 Try.underlying23 hi hz0 hz1 hz2 rfl (by decide) _ _ _ rfl (World.ownsRow.alloc ho1 _) ⟨_, 0, none⟩ 1 1 [.int .i64 k] rfl rfl ?c1 ?c2 ?c3 ?c4 ?c5 ?_)
    case c1 =>
     intro j u hj
     match j, hj with
     | 0, hj => simp at hj; subst hj; simp [Addr.add]
    case c2 => intro u hu; simp at hu; subst hu; rfl
    case c3 => unfold maxLen; omega
    case c4 => omega
    case c5 => simp; omega
    intro v' w2 hown' hgrow _
    have hK2 : Keep w w2 := (hK1.alloc _).grown hgrow ho1.ge
    clear hgrow
    go_wp2
    go_roundw
    case rel => exact ⟨k + 1, by omega, by go_num, by rw [HM.out]; exact own_hit hown', hK2⟩
    case measure => simp [intOf]; omega
  ·
   obtain rfl : k = 12 := by omega
   rw [chK_all (toE p) es 12 hx] at ho
   go_wp2
   go_ret
   exact ⟨_, rfl, ho, hK⟩
set_option maxRecDepth 100000 in
set_option maxHeartbeats 1000000 in
theorem wNumbers_any (w : World) (v : Value) (es : List Ev) (h : RdE w v es) (hx : es.length ≤ 1048576) (p : Int) (P : Nat) (hP : w.cell? ⟨P, 0, none⟩ = some (.int .i64 p)) (hPl : P < w.heap.size) :
  Calls Try.prog 53 #[v, (.func (Fn.func 71) #[] #[.pointer (some ⟨P, 0, none⟩)])] w fun e w' => ∃ v', e = .returned v' ∧ Own w' w.heap.size v' (idxB (toE p) es) ∧ Keep w w' := by
 by_cases hl : 12 < es.length
 ·
  have HE : Hid (idxB (toE p) es = []) := Lib.hid (by unfold idxB; rw [if_neg (by omega)])
  have l1 : (12 : Int) < (es.length : Int) := by omega
  have O : ∀ o1 o2 : Obj, Own (((w.alloc o1).alloc o2).alloc (.cells #[] 2)) w.heap.size (.slice (some ⟨w.heap.size + 1 + 1, 0, none⟩) 0 0) [] := fun o1 o2 => by
   have q : Own (((w.alloc o1).alloc o2).alloc (.cells #[] 2)) ((w.alloc o1).alloc o2).heap.size (.slice (some ⟨((w.alloc o1).alloc o2).heap.size, 0, none⟩) 0 0) [] := World.ownsRow_lit _ #[] 0 (Nat.le_refl _) (by decide) rfl
   have z : ((w.alloc o1).alloc o2).heap.size = w.heap.size + 1 + 1 := by rw [heap_size, heap_size]
   rw [z] at q
   exact q.base_le (by omega)
  obtain ⟨a, c, rfl, h⟩ := h
  go_enter Try.func53, Try.ntmps53
  go_wp2
  go_ret
  refine ⟨_, rfl, ?_, (((Keep.refl w).alloc _).alloc _).alloc _⟩
  rw [HE.out]
  exact O _ _
 ·
  have l1 : es.length ≤ 12 := by omega
  have HE : Hid (idxB (toE p) es = idxK (toE p) es es.length) := Lib.hid (by unfold idxB; rw [if_pos l1])
  clear hl
  have C := fun (o1 o2 : Obj) => wChosen_any ((w.alloc o1).alloc o2) v es (h.keep (((Keep.refl w).alloc _).alloc _)) l1 w.heap.size (w.heap.size + 1) p P (by rw [Keep.cell (((Keep.refl w).alloc _).alloc _) hPl]; exact hP) (Nat.lt_of_lt_of_le hPl (Keep.size (((Keep.refl w).alloc _).alloc _)))
  obtain ⟨a, c, rfl, h⟩ := h
  have l2 : (es.length : Int) ≤ 12 := by omega
  go_enter Try.func53, Try.ntmps53
  go_wp2_with fail
  refine (C _ _ ?g1 ?g2 ?g3 ?g4).mono ?_
  case g1 => simp
  case g2 => simp only [heap_size]; omega
  case g3 => simp
  case g4 => simp only [heap_size]; omega
  rintro e w1 ⟨v1, rfl, ho, hK⟩
  go_wp2
  go_ret
  refine ⟨_, rfl, ?_, (((Keep.refl w).alloc _).alloc _).trans hK⟩
  rw [HE.out]
  exact ho.base_le (by simp only [heap_size]; omega)
theorem implWritesTo_any (w : World) (v : Value) (es : List Ev) (h : RdE w v es) (hx : es.length ≤ 1048576) (p : Int) :
  Calls Try.prog 64 #[v, .int .i64 p] w fun e w' => ∃ v', e = .returned v' ∧ Own w' w.heap.size v' (idxB (toE p) es) ∧ Keep w w' := by
 have C := fun (o1 : Obj) => wNumbers_any (w.alloc o1) v es (h.keep ((Keep.refl w).alloc _)) hx p w.heap.size
 go_enter Try.func64, Try.ntmps64
 go_wp2_with fail
 refine (C _ ?g1 ?g2).mono ?_
 case g1 => simp
 case g2 => simp only [heap_size]; omega
 rintro e w1 ⟨v1, rfl, ho, hK⟩
 go_wp2
 go_ret
 exact ⟨_, rfl, ho.base_le (by simp only [heap_size]; omega), ((Keep.refl w).alloc _).trans hK⟩
theorem cell_list {w : World} {b : Nat} {v : Value} (h : w.cell? ⟨b, 0, none⟩ = some v) : ∀ j u, ([v] : List Value)[j]? = some u → w.cell? ((⟨b, 0, none⟩ : Addr).add j) = some u := by
 intro j u hj
 match j, hj with
 | 0, hj =>
  simp at hj
  subst hj
  exact h
 | k + 1, hj => simp at hj
def Ge (s : Nat) (vs : List Value) : Prop := ∀ (i : Nat) u, vs[i]? = some u → ∀ k, u.ownBlock = some k → s ≤ k
theorem Ge.push {s : Nat} {vs : List Value} {u : Value} (h : Ge s vs) (hu : ∀ k, u.ownBlock = some k → s ≤ k) : Ge s (vs ++ [u]) := by
 intro i y hy
 by_cases hi : i < vs.length
 ·
  rw [List.getElem?_append_left hi] at hy
  exact h i y hy
 ·
  rw [List.getElem?_append_right (by omega)] at hy
  have : i - vs.length = 0 := by
   have := (List.getElem?_eq_some_iff.1 hy).1
   simp at this
   omega
  rw [this] at hy
  simp only [List.getElem?_cons_zero, Option.some.injEq] at hy
  subst hy
  exact hu
set_option maxRecDepth 100000 in
set_option maxHeartbeats 2000000 in
theorem choicesOf_any (w : World) (v : Value) (es : List Ev) (h : RdE w v es) (hx : es.length ≤ 12) :
  Calls Try.prog 51 #[v] w fun e w' => ∃ v', e = .returned v' ∧ RdP w.heap.size w'.heap.size w' v' (chcL es).length (chcL es) ∧ Keep w w' := by
 obtain ⟨i0, hi, hz0, hz1, hz2⟩ := info_parts Try.infoL
 have A0 := appL_empty w
 have rl : (idxB rdE es).length ≤ 12 := by
  unfold idxB
  rw [if_pos hx]
  have := idxK_len rdE es es.length
  omega
 have rin : ∀ i, i < (idxB rdE es).length → 0 ≤ (idxB rdE es).getD i 0 ∧ (idxB rdE es).getD i 0 < (es.length : Int) := by
  intro i hi
  have hm : (idxB rdE es).getD i 0 ∈ idxB rdE es := by
   rw [List.getD_eq_getElem?_getD, List.getElem?_eq_getElem hi]
   exact List.getElem_mem hi
  refine idxK_lt rdE es _ _ ?_
  unfold idxB at hm ⊢
  rw [if_pos hx] at hm ⊢
  exact hm
 have HL : Hid (chcL es = chcK es (idxB rdE es) (idxB rdE es).length) := Lib.hid rfl
 go_enter Try.func51, Try.ntmps51
 go_wp2_with fail
 refine (implReadsOf_any _ _ _ (h.keep ((Keep.refl w).alloc _)) (by omega)).mono ?_
 rintro e w1 ⟨vr, rfl, or1, k1⟩
 generalize idxB rdE es = rs at rl rin HL or1
 have A1 := A0.keep k1
 have K1 : Keep w w1 := ((Keep.refl w).alloc _).trans k1
 have R1 : Beside w1 (.slice (some ⟨w.heap.size, 0, none⟩) 0 0) vr rs := or1.beside (fun k hk => by rw [heap_size]; simp [Value.ownBlock] at hk; omega)
 have RIN := Lib.hid rin
 obtain ⟨ar, cr, rfl, -⟩ := R1.rd
 clear A0 k1 or1 rin
 go_wp2
 go_loopw [3, 10] (fun x i wr => ∃ k : Nat, ∃ vs : List Value, k ≤ rs.length ∧ i = .int .i64 k ∧ Ge w.heap.size vs ∧ AppL wr w.heap.size x vs (chcK es rs k) ∧ Beside wr x (.slice ar rs.length cr) rs ∧ Keep w wr) (fun _ i _ => rs.length - (intOf i).toNat)
 case atStart => exact ⟨0, [], Nat.zero_le _, rfl, fun i u h => by simp at h, A1, R1, K1⟩
 case round =>
  obtain ⟨k, vs, hk, rfl, hG, hA, hB, hK⟩ := hrel
  clear A1 R1 K1
  by_cases hlt : k < rs.length
  ·
   have hr := RIN.out k hlt
   obtain ⟨r, hr'⟩ := Int.eq_ofNat_of_zero_le hr.1
   have hre : r < es.length := by omega
   have hRd := hB.rd
   obtain ⟨a', c', he', hRd⟩ := hRd
   simp only [Value.slice.injEq, true_and] at he'
   obtain ⟨rfl, rfl⟩ := he'
   rcases hRd with h0 | ⟨br, or', rfl, hbr, hcr⟩
   ·
    exfalso; rw [h0] at hlt; simp at hlt
   have d1 := hcr k hlt
   rw [hr'] at d1
   have HC : Hid (chcK es rs (k + 1) = chcK es rs k ++ [idxB (toE (plE es (r : Int))) es]) := Lib.hid (by rw [chcK, hr'])
   have HP : Hid (plE es (r : Int) = (es.getD r zE).2.2.2.1) := Lib.hid (by unfold plE; rw [Int.toNat_natCast])
   clear hr hr' hcr
   have hE := h.keep hK
   obtain ⟨ae, ce, rfl, h2⟩ := id hE
   rcases h2 with h0 | ⟨be, oe, rfl, hbe, hce⟩
   ·
    exfalso; rw [h0] at hre; simp at hre
   have AT := hce r _ (evs_get hre)
   clear hce
   generalize es.getD r zE = e at AT HP
   obtain ⟨x0, x1, x2, x3, x4, x5⟩ := e
   obtain ⟨-, -, -, q3, -, -⟩ := atE AT
   clear AT
   simp only at HP
   rw [HP.out] at HC
   clear HP
   have i1 : (0 : Int) ≤ (k : Int) := Int.natCast_nonneg _
   have i2 : (k : Int) < (rs.length : Int) := by omega
   have j1 : (0 : Int) ≤ (r : Int) := Int.natCast_nonneg _
   have j2 : (r : Int) < (es.length : Int) := by omega
   have hcl := chcK_len es rs k
   go_wp2_with fail
   refine (implWritesTo_any _ _ _ hE (by omega) _).mono ?_
   rintro e w2 ⟨v2, rfl, o2, k2⟩
   obtain ⟨D, hD⟩ : ∃ D, D = chcK es rs k := ⟨_, rfl⟩
   rw [← hD] at hA HC hcl
   clear hD
   generalize idxB (toE x3) es = zs at o2 HC
   have hA2 := (hA.keep k2).keep ((Keep.refl w2).alloc (.cells #[v2] 23))
   have hB2 := (hB.keep k2).keep ((Keep.refl w2).alloc (.cells #[v2] 23))
   have hU : Beside (w2.alloc (.cells #[v2] 23)) _ v2 zs := (o2.beside (x := u3) (fun k hk => (hA.lt k hk).2)).keep ((Keep.refl w2).alloc _)
   have hK2 := hK.trans k2
   have hsz := hK2.size
   have hG2 := hG.push (fun k hk => Nat.le_trans hK.size (o2.ge k hk))
   obtain ⟨a2, c2, hv2, -⟩ := o2.rd
   clear hA hB o2
   generalize zs.length = nz at hv2
   subst hv2
   go_wp2_with (at_builtin; refine wpList_append_own_at _ rfl _ _ 57 rfl w.heap.size 23 i0 (.slice none 0 0) 1 24 Try.underlying57 hi hz0 hz1 hz2 rfl (by decide) _ _ _ rfl hA2.row ⟨_, 0, none⟩ 1 1 [.slice a2 nz c2] rfl rfl ?c1 ?c2 ?c3 ?c4 ?c5 ?_)
   case c1 => exact cell_list (Boxed.new _ _ _).cell
   case c2 => intro u hu; simp at hu; subst hu; rfl
   case c3 => unfold maxLen; omega
   case c4 => omega
   case c5 => first | omega | (simp; omega)
   intro v' w3 hown' hgrow _ hblk
   have hblk' : v'.ownBlock = u3.ownBlock ∨ v'.ownBlock = some (w2.alloc (.cells #[.slice a2 nz c2] 23)).heap.size := by rw [heap_size]; exact hblk
   have hA3 := hA2.push hU (by rw [hcl]; exact hown') hgrow hblk'
   have hB3 := hB2.grow hgrow hblk'
   have hK3 : Keep w w3 := (hK2.alloc _).grown hgrow (fun k hk => (hA2.lt k hk).1)
   clear hown' hgrow hblk hblk' hA2 hB2 hU
   go_wp2
   go_roundw
   case rel => exact ⟨k + 1, _, by omega, by go_num, hG2, by rw [HC.out]; exact hA3, hB3, hK3⟩
   case measure => simp [intOf]; omega
  ·
   obtain rfl : k = rs.length := by omega
   have HR := Lib.hid (hA.rdp hG)
   go_wp2
   go_ret
   exact ⟨_, rfl, by rw [HL.out]; exact HR.out, hK⟩
theorem isB_take {l : List Int} {n : Int} (h : ∀ i, i < l.length → l.getD i 0 ≠ n) : isB l n = false := by
 unfold isB
 rw [List.any_eq_false]
 intro x hx
 obtain ⟨i, hi, e⟩ := List.getElem_of_mem hx
 have := h i hi
 rw [List.getD_eq_getElem?_getD, List.getElem?_eq_getElem hi] at this
 simp only [Option.getD_some] at this
 rw [← e]
 simpa using this
theorem isB_at {l : List Int} {n : Int} {i : Nat} (hi : i < l.length) (h : l.getD i 0 = n) : isB l n = true := by
 unfold isB
 rw [List.any_eq_true]
 refine ⟨n, ?_, by simp⟩
 rw [← h, List.getD_eq_getElem?_getD, List.getElem?_eq_getElem hi]
 exact List.getElem_mem hi
set_option maxHeartbeats 1000000 in
theorem index_any (w : World) (v : Value) (zs : List Int) (h : Rd w v zs) (hn : zs.length ≤ 1048576) (n : Int) :
  Calls Try.prog 65 #[v, .int .i64 n] w fun e w' => ∃ r : Int, e = .returned (.int .i64 r) ∧ Hid (decide (0 ≤ r) = isB zs n) ∧ w' = w := by
 obtain ⟨a, c, rfl, h⟩ := h
 go_enter Try.func65, Try.ntmps65
 go_wp2
 go_loop [8] (fun i => ∃ k : Nat, k ≤ zs.length ∧ i = .int .i64 k ∧ Hid (∀ i, i < k → zs.getD i 0 ≠ n)) (fun i => zs.length - (intOf i).toNat)
 case atStart => exact ⟨0, Nat.zero_le _, rfl, Lib.hid (fun i hi => absurd hi (Nat.not_lt_zero _))⟩
 case round =>
  obtain ⟨k, hk, rfl, hno⟩ := hrel
  by_cases hlt : k < zs.length
  ·
   rcases h with h | ⟨b, o, rfl, hb, hc⟩
   ·
    exfalso; rw [h] at hlt; simp at hlt
   have d1 := hc k hlt
   obtain ⟨p, hp⟩ : ∃ p, p = zs.getD k 0 := ⟨_, rfl⟩
   have HP := Lib.hid hp
   rw [← hp] at d1
   clear hc hp
   have i1 : (0 : Int) ≤ (k : Int) := Int.natCast_nonneg _
   have i2 : (k : Int) < (zs.length : Int) := by omega
   by_cases he : p = n
   ·
    have hb : (n == p) = true := by simp [he]
    have HE : Hid (isB zs n = true) := Lib.hid (isB_at hlt (by rw [← HP.out]; exact he))
    clear he
    go_wp2
    go_ret
    exact ⟨k, rfl, Lib.hid (by rw [HE.out]; simp), rfl⟩
   ·
    have hb : (n == p) = false := by simp; exact fun h => he h.symm
    have HE : Hid (∀ i, i < k + 1 → zs.getD i 0 ≠ n) := Lib.hid (fun i hi => by
     by_cases e : i = k
     ·
      subst e; rw [← HP.out]; exact he
     ·
      exact hno.out i (by omega))
    clear he
    go_wp2
    go_round
    case rel => exact ⟨k + 1, by omega, by go_num, HE⟩
    case measure => simp [intOf]; omega
  ·
   obtain rfl : k = zs.length := by omega
   have HE : Hid (isB zs n = false) := Lib.hid (isB_take hno.out)
   go_wp2
   go_ret
   exact ⟨-1, rfl, Lib.hid (by rw [HE.out]; rfl), rfl⟩
theorem contains_any (w : World) (v : Value) (zs : List Int) (h : Rd w v zs) (hn : zs.length ≤ 1048576) (n : Int) :
  Calls Try.prog 52 #[v, .int .i64 n] w fun e w' => e = .returned (.bool (isB zs n)) ∧ w' = w := by
 go_enter Try.func52, Try.ntmps52
 go_wp2_with fail
 refine (index_any _ _ _ h hn _).mono ?_
 rintro e w1 ⟨r, rfl, hr, rfl⟩
 go_wp2
 go_ret
 exact ⟨by rw [← hr.out]; rfl, rfl⟩
def grD (d : Dd) : Int := d.2.2.2
def gK (ds : List Dd) : Nat → Int
 | 0 => 0
 | k + 1 => if grD (ds.getD k zD) = 0 then gK ds k else gAdd (gK ds k) (grD (ds.getD k zD))
def gC (ds : List Dd) : Int := gK ds ds.length
def partK (ds : List Dd) (k : Nat) : Bool := decide (0 < k) && (grD (ds.getD k zD) != grD (ds.getD (k - 1) zD)) && inSetB (gK ds k) (grD (ds.getD k zD))
def togK (ds : List Dd) : Nat → Bool
 | 0 => true
 | k + 1 => togK ds k && !partK ds k
def takW (dss : List (List Dd)) : Nat → Int
 | 0 => 0
 | i + 1 => bits .or .i64 (takW dss i) (gC (dss.getD i []))
def rightB (ds : List Dd) (t : Int) : Bool := decide (ds.length ≤ 5) && ds.all okD && togK ds ds.length && (bits .and .i64 (gC ds) t == 0)
def rightsW (dss : List (List Dd)) : Nat → Bool
 | 0 => true
 | i + 1 => rightsW dss i && rightB (dss.getD i []) (takW dss i)
theorem take_getD {α : Type} (l : List α) (i k : Nat) (z : α) (h : k < i) : (l.take i).getD k z = l.getD k z := by
 rw [List.getD_eq_getElem?_getD, List.getElem?_take, if_pos h, List.getD_eq_getElem?_getD]
theorem gK_take (ds : List Dd) (i : Nat) : ∀ k : Nat, k ≤ i → gK (ds.take i) k = gK ds k
 | 0, _ => rfl
 | k + 1, h => by rw [gK, gK, gK_take ds i k (by omega), take_getD ds i k zD (by omega)]
theorem gC_take (ds : List Dd) (i : Nat) (h : i ≤ ds.length) : gC (ds.take i) = gK ds i := by
 rw [gC, List.length_take, Nat.min_eq_left h, gK_take ds i i (Nat.le_refl _)]
theorem togK_false {ds : List Dd} {k : Nat} (h : togK ds k = false) : ∀ n : Nat, k ≤ n → togK ds n = false
 | 0, hn => by
  obtain rfl : k = 0 := by omega
  exact h
 | n + 1, hn => by
  by_cases e : k = n + 1
  ·
   rw [← e]; exact h
  ·
   rw [togK, togK_false h n (by omega)]; rfl
theorem rightsW_false {dss : List (List Dd)} {k : Nat} (h : rightsW dss k = false) : ∀ n : Nat, k ≤ n → rightsW dss n = false
 | 0, hn => by
  obtain rfl : k = 0 := by omega
  exact h
 | n + 1, hn => by
  by_cases e : k = n + 1
  ·
   rw [← e]; exact h
  ·
   rw [rightsW, rightsW_false h n (by omega)]; rfl
def Dis (a b : Nat) : Prop := ∀ k, a.testBit k = true → b.testBit k = false
theorem dis_iff (a b : Nat) : Dis a b ↔ a &&& b = 0 := by
 constructor
 ·
  intro h
  apply Nat.eq_of_testBit_eq
  intro k
  rw [Nat.testBit_and, Nat.zero_testBit]
  cases ha : a.testBit k
  ·
   rfl
  ·
   rw [h k ha]; rfl
 ·
  intro h k ha
  have h1 : (a &&& b).testBit k = false := by rw [h, Nat.zero_testBit]
  rw [Nat.testBit_and, ha] at h1
  simpa using h1
theorem or_bit (a g k : Nat) : (a ||| 2 ^ g).testBit k = (a.testBit k || decide (g = k)) := by
 rw [Nat.testBit_or, Nat.testBit_two_pow]
theorem set_getD (o : List Int) (g : Nat) (x : Int) (j : Nat) (hg : g < o.length) : (o.set g x).getD j 0 = if g = j then x else o.getD j 0 := by
 rw [List.getD_eq_getElem?_getD, List.getElem?_set]
 by_cases e : g = j
 ·
  subst e; rw [if_pos rfl, if_pos hg, if_pos rfl]; rfl
 ·
  rw [if_neg e, if_neg e, List.getD_eq_getElem?_getD]
theorem okD_grp {d : Dd} (h : okD d = true) : 0 ≤ grD d ∧ grD d ≤ 9 := by
 simp [okD, deedB] at h
 unfold grD
 omega
theorem clerk_same {i : Nat} {own : List Int} {T : Nat} {ds : List Dd} (hl : own.length = 10) (hT : ∀ g, g < 10 → (own.getD g 0 ≠ 0 ↔ T.testBit g = true)) (hi : ∀ g, g < 10 → own.getD g 0 ≠ (i : Int) + 1) (hT0 : T.testBit 0 = false) :
  ∀ k : Nat, (∀ j, j < k → okD (ds.getD j zD) = true) → ∃ G : Nat, G < 4096 ∧ gK ds k = (G : Int) ∧ G.testBit 0 = false ∧ (k = 0 → G = 0) ∧
   (grpK i own ds k = none → togK ds k = false ∨ ¬ Dis G T) ∧
   ∀ o, grpK i own ds k = some o → togK ds k = true ∧ Dis G T ∧ o.length = 10 ∧ ∀ g, g < 10 → o.getD g 0 = if G.testBit g = true then (i : Int) + 1 else own.getD g 0
 | 0, _ => ⟨0, by omega, rfl, by simp, fun _ => rfl, by simp [grpK], by
   intro o ho
   simp only [grpK, Option.some.injEq] at ho
   subst ho
   exact ⟨rfl, fun k hk => by simp at hk, hl, by simp⟩⟩
 | k + 1, hok => by
  obtain ⟨G, hG, hgK, hG0, hz, hN, hS⟩ := clerk_same hl hT hi hT0 k (fun j hj => hok j (by omega))
  obtain ⟨h0, h9⟩ := okD_grp (hok k (by omega))
  obtain ⟨g, hg⟩ := Int.eq_ofNat_of_zero_le h0
  have hgg : (ds.getD k zD).2.2.2 = (g : Int) := hg
  by_cases hg0 : g = 0
  ·
   subst hg0
   have hz0 : (ds.getD k zD).2.2.2 = 0 := hgg
   have e1 : gK ds (k + 1) = (G : Int) := by rw [gK, hg, if_pos (by simp), hgK]
   have e2 : partK ds k = false := by
    have : inSetB (gK ds k) (grD (ds.getD k zD)) = false := by rw [hgK, hg, inSetB_nat G 0 hG (by omega), hG0]
    rw [partK, this, Bool.and_false]
   have e3 : togK ds (k + 1) = togK ds k := by rw [togK, e2]; simp
   have e4 : grpK i own ds (k + 1) = grpK i own ds k := by
    rw [grpK]
    cases hq : grpK i own ds k with
    | none => rfl
    | some o => simp only; rw [if_pos hz0]
   refine ⟨G, hG, e1, hG0, by omega, ?_, ?_⟩
   ·
    rw [e3, e4]; exact hN
   ·
    rw [e3, e4]; exact hS
  ·
   have hgne : (ds.getD k zD).2.2.2 ≠ 0 := by rw [hgg]; omega
   have g9 : g ≤ 9 := by rw [hg] at h9; omega
   have e1 : gK ds (k + 1) = ((G ||| 2 ^ g : Nat) : Int) := by
    rw [gK, hg, if_neg (by omega), hgK, gAdd_nat G g hG (by omega)]
   have e0 : (G ||| 2 ^ g).testBit 0 = false := by rw [or_bit, hG0]; simp [hg0]
   have inS : inSetB (gK ds k) (grD (ds.getD k zD)) = G.testBit g := by rw [hgK, hg, inSetB_nat G g hG (by omega)]
   refine ⟨G ||| 2 ^ g, or_lt G g hG (by omega), e1, e0, by omega, ?_, ?_⟩
   ·
    intro hn
    rw [grpK] at hn
    cases hq : grpK i own ds k with
    | none =>
     rcases hN hq with h | h
     ·
      left; rw [togK, h]; rfl
     ·
      right
      intro hd
      refine h (fun b hb => hd b ?_)
      rw [or_bit, hb]; rfl
    | some o =>
     rw [hq] at hn
     simp only at hn
     rw [if_neg hgne, hgg, Int.toNat_natCast] at hn
     obtain ⟨ht, hd, hlen, ho⟩ := hS o hq
     split at hn
     ·
      rename_i hc
      cases hTg : T.testBit g with
      | true =>
       right
       intro hd2
       have := hd2 g (by rw [or_bit]; simp)
       rw [hTg] at this
       cases this
      | false =>
       left
       have hown : own.getD g 0 = 0 := by
        apply Classical.byContradiction
        intro hne
        rw [(hT g (by omega)).1 hne] at hTg
        cases hTg
       cases hGg : G.testBit g with
       | false =>
        exfalso
        have := ho g (by omega)
        rw [hGg, hown] at this
        exact hc.1 (by simpa using this)
       | true =>
        have hk0 : k ≠ 0 := by
         intro hk
         rw [hz hk] at hGg
         simp at hGg
        have hog := ho g (by omega)
        rw [hGg, if_pos rfl] at hog
        have hp : (ds.getD (k - 1) zD).2.2.2 ≠ (g : Int) := by
         rcases hc.2 with h | h | h
         ·
          exact absurd hog h
         ·
          exact absurd h hk0
         ·
          exact h
        have : partK ds k = true := by
         rw [partK, inS, hGg, hg]
         have hp' : ((g : Int) != grD (ds.getD (k - 1) zD)) = true := by
          rw [bne_iff_ne]; exact fun e => hp e.symm
         rw [hp']
         simp; omega
        rw [togK, this]; simp
     ·
      cases hn
   ·
    intro o' hn
    rw [grpK] at hn
    cases hq : grpK i own ds k with
    | none => rw [hq] at hn; cases hn
    | some o =>
     rw [hq] at hn
     simp only at hn
     rw [if_neg hgne, hgg, Int.toNat_natCast] at hn
     obtain ⟨ht, hd, hlen, ho⟩ := hS o hq
     split at hn
     ·
      cases hn
     ·
      rename_i hc
      simp only [Option.some.injEq] at hn
      subst hn
      have hog := ho g (by omega)
      have hTg : T.testBit g = false := by
       cases hTg : T.testBit g with
       | false => rfl
       | true =>
        exfalso
        have hGg : G.testBit g = false := by
         cases hGg : G.testBit g with
         | false => rfl
         | true => rw [hd g hGg] at hTg; cases hTg
        rw [hGg] at hog
        simp only [Bool.false_eq_true, if_false] at hog
        exact hc ⟨by rw [hog]; exact (hT g (by omega)).2 hTg, .inl (by rw [hog]; exact hi g (by omega))⟩
      refine ⟨?_, ?_, by rw [List.length_set]; exact hlen, ?_⟩
      ·
       have : partK ds k = false := by
        cases hp : partK ds k with
        | false => rfl
        | true =>
         exfalso
         rw [partK, inS, hg, Bool.and_eq_true, Bool.and_eq_true, decide_eq_true_eq, bne_iff_ne] at hp
         obtain ⟨⟨hk, hne⟩, hGg⟩ := hp
         rw [hGg, if_pos rfl] at hog
         exact hc ⟨by rw [hog]; omega, .inr (.inr (fun e => hne e.symm))⟩
       rw [togK, ht, this]; rfl
      ·
       intro b hb
       rw [or_bit, Bool.or_eq_true, decide_eq_true_eq] at hb
       rcases hb with hb | rfl
       ·
        exact hd b hb
       ·
        exact hTg
      ·
       intro j hj
       rw [set_getD o g _ j (by omega), or_bit]
       by_cases e : g = j
       ·
        subst e; simp
       ·
        rw [if_neg e, ho j hj]; simp [e]
theorem work_same {dss : List (List Dd)} : ∀ n : Nat, (∀ i, i < n → okL (dss.getD i []) = true) → ∃ T : Nat, T < 4096 ∧ takW dss n = (T : Int) ∧ T.testBit 0 = false ∧
   (grpW dss n = none → rightsW dss n = false) ∧
   ∀ o, grpW dss n = some o → rightsW dss n = true ∧ o.length = 10 ∧ (∀ g, g < 10 → (o.getD g 0 ≠ 0 ↔ T.testBit g = true)) ∧ ∀ g, g < 10 → 0 ≤ o.getD g 0 ∧ o.getD g 0 ≤ (n : Int)
 | 0, _ => ⟨0, by omega, rfl, by simp, by simp [grpW], by
   intro o ho
   simp only [grpW, Option.some.injEq] at ho
   subst ho
   refine ⟨rfl, by simp, fun g hg => ?_, fun g hg => ?_⟩
   ·
    rw [List.getD_eq_getElem?_getD, List.getElem?_replicate, if_pos hg]; simp
   ·
    rw [List.getD_eq_getElem?_getD, List.getElem?_replicate, if_pos hg]; simp⟩
 | n + 1, hok => by
  obtain ⟨T, hT, htk, hT0, hN, hS⟩ := work_same n (fun i hi => hok i (by omega))
  have okn := hok n (by omega)
  simp only [okL, Bool.and_eq_true, decide_eq_true_eq] at okn
  have hall := okn.1
  have hok2 : ∀ j, j < (dss.getD n []).length → okD ((dss.getD n []).getD j zD) = true := fun j hj => all_get zD hall j hj
  obtain ⟨G0, hG0, hgK0, hG00, -⟩ := clerk_same (i := 0) (own := List.replicate 10 0) (T := 0) (ds := dss.getD n []) (by simp) (fun g hg => by rw [List.getD_eq_getElem?_getD, List.getElem?_replicate, if_pos hg]; simp) (fun g hg => by rw [List.getD_eq_getElem?_getD, List.getElem?_replicate, if_pos hg]; simp) (by simp) (dss.getD n []).length hok2
  have hor : takW dss (n + 1) = ((T ||| G0 : Nat) : Int) := by
   rw [takW, htk, gC, hgK0, i64_or_nat T G0 (by omega) (by omega)]
  have hand : bits .and .i64 (gC (dss.getD n [])) (takW dss n) = ((G0 &&& T : Nat) : Int) := by
   rw [gC, hgK0, htk, i64_and_nat G0 T (by omega) (by omega)]
  have hR : rightB (dss.getD n []) (takW dss n) = (togK (dss.getD n []) (dss.getD n []).length && decide (G0 &&& T = 0)) := by
   rw [rightB, hall, decide_eq_true okn.2, hand]
   simp only [Bool.true_and]
   congr 1
   rw [Bool.eq_iff_iff, beq_iff_eq, decide_eq_true_eq]
   omega
  refine ⟨T ||| G0, Nat.or_lt_two_pow (n := 12) hT hG0, hor, by rw [Nat.testBit_or, hT0, hG00]; rfl, ?_, ?_⟩
  ·
   intro hn
   rw [grpW] at hn
   cases hq : grpW dss n with
   | none => rw [rightsW, hN hq]; rfl
   | some o =>
    rw [hq] at hn
    simp only at hn
    obtain ⟨hr, hl, hb, hle⟩ := hS o hq
    obtain ⟨G, hG, hgK, -, -, hN2, -⟩ := clerk_same (i := n) (own := o) (T := T) (ds := dss.getD n []) hl hb (fun g hg => by have := hle g hg; omega) hT0 (dss.getD n []).length hok2
    obtain rfl : G = G0 := by rw [hgK0] at hgK; omega
    rw [rightsW, hr, hR]
    rcases hN2 hn with h | h
    ·
     rw [h]; rfl
    ·
     rw [decide_eq_false (fun e => h ((dis_iff _ _).2 e))]; simp
  ·
   intro o' hn
   rw [grpW] at hn
   cases hq : grpW dss n with
   | none => rw [hq] at hn; cases hn
   | some o =>
    rw [hq] at hn
    simp only at hn
    obtain ⟨hr, hl, hb, hle⟩ := hS o hq
    obtain ⟨G, hG, hgK, -, -, -, hS2⟩ := clerk_same (i := n) (own := o) (T := T) (ds := dss.getD n []) hl hb (fun g hg => by have := hle g hg; omega) hT0 (dss.getD n []).length hok2
    obtain rfl : G = G0 := by rw [hgK0] at hgK; omega
    obtain ⟨h1, h2, h3, h4⟩ := hS2 o' hn
    refine ⟨by rw [rightsW, hr, hR, h1, decide_eq_true ((dis_iff _ _).1 h2)]; rfl, h3, fun g hg => ?_, fun g hg => ?_⟩
    ·
     rw [h4 g hg, Nat.testBit_or, Bool.or_eq_true]
     cases hGg : G.testBit g
     ·
      simp only [Bool.false_eq_true, if_false, or_false]; exact hb g hg
     ·
      simp only [if_true, or_true, iff_true]; omega
    ·
     rw [h4 g hg]
     have := hle g hg
     split <;> omega
theorem rights_same {dss : List (List Dd)} (h : dss.all okL = true) : rightsW dss dss.length = grpB dss := by
 obtain ⟨T, -, -, -, hN, hS⟩ := work_same (dss := dss) dss.length (fun i hi => all_get [] h i hi)
 rw [grpB]
 cases hq : grpW dss dss.length with
 | none => rw [hN hq]; rfl
 | some o => rw [(hS o hq).1]; rfl
theorem rights_okL {dss : List (List Dd)} (h : rightsW dss dss.length = true) : dss.all okL = true := by
 refine all_of [] (fun i hi => ?_)
 cases hb : rightsW dss (i + 1) with
 | false => rw [rightsW_false hb _ hi] at h; cases h
 | true =>
  rw [rightsW, Bool.and_eq_true] at hb
  have := hb.2
  simp only [rightB, Bool.and_eq_true] at this
  rw [okL, this.1.1.2, Bool.true_and]
  exact this.1.1.1
theorem work_rights (dss : List (List Dd)) : workB dss = (decide (1 ≤ dss.length ∧ dss.length ≤ 3) && rightsW dss dss.length && decide (lenW dss ≤ 12) && decide (evW dss dss.length ≤ 6)) := by
 rw [workB]
 cases h : dss.all okL with
 | true =>
  rw [rights_same h]
  cases grpB dss <;> simp
 | false =>
  cases hr : rightsW dss dss.length with
  | false => simp
  | true => rw [rights_okL hr] at h; cases h
theorem isFrom_any (lo x hi : Int) (w : World) :
  Calls Try.prog 55 #[.int .i64 lo, .int .i64 x, .int .i64 hi] w fun e w' => e = .returned (.bool (inB x lo hi)) ∧ w' = w := by
 go_enter Try.func55, Try.ntmps55
 go_wp2
 all_goals
  go_ret
  exact ⟨ret_bool (by rw [Bool.eq_iff_iff]; unfold inB; simp; omega), rfl⟩
def mostP (k : Int) : Int := if k = 1 ∨ k = 2 ∨ k = 3 then 2 else 0
def mostV (k : Int) : Int := if k = 2 ∨ k = 3 then 9 else 0
def leastV (k : Int) : Int := if k = 2 ∨ k = 3 then 1 else 0
def mostG (k : Int) : Int := if k = 1 ∨ k = 2 then 9 else 0
theorem limits_any (k : Int) (w : World) :
  Calls Try.prog 73 #[.int .i64 k] w fun e w' => e = .returned (.tuple #[deedV 1 0 (leastV k) 0, deedV 4 (mostP k) (mostV k) (mostG k)]) ∧ Keep w w' := by
 have hk : k = 1 ∨ k = 2 ∨ k = 3 ∨ (¬ k = 1 ∧ ¬ k = 2 ∧ ¬ k = 3) := by omega
 rcases hk with rfl | rfl | rfl | ⟨h1, h2, h3⟩
 all_goals
  go_enter Try.func73, Try.ntmps73
  go_wp2
  go_region
  go_wp2
  refine bodyPost_ret (results_row2 (by rfl) _ _ _ _ _ _ _ _ _ _ _ rfl (by simp only [heap_at, heap_drew, heap_size]; repeat (first | exact if_pos rfl | exact if_pos trivial | rw [if_neg (by omega)])) rfl (by simp only [heap_at, heap_drew, heap_size]; repeat (first | exact if_pos rfl | exact if_pos trivial | rw [if_neg (by omega)])) Try.underlying62 rfl (by kernel_rfl) (by kernel_rfl)) rfl ?_
  refine ⟨?_, (((((Keep.refl w).alloc _).alloc _).alloc _).alloc _).drew⟩
  first | rfl | simp [deedV, leastV, mostP, mostV, mostG, h1, h2, h3]
theorem deedB_from (k p v g : Int) : deedB k p v g = (inB k 1 4 && inB p 0 (mostP k) && inB v (leastV k) (mostV k) && inB g 0 (mostG k)) := by
 have hk : k = 1 ∨ k = 2 ∨ k = 3 ∨ k = 4 ∨ ¬ (1 ≤ k ∧ k ≤ 4) := by omega
 rw [Bool.eq_iff_iff]
 rcases hk with rfl | rfl | rfl | rfl | h
 all_goals
  simp [deedB, inB, mostP, mostV, leastV, mostG]
  omega
theorem implDeedOk_any (k p v g : Int) (w : World) :
  Calls Try.prog 72 #[deedV k p v g] w fun e w' => e = .returned (.bool (deedB k p v g)) ∧ Keep w w' := by
 rw [deedB_from]
 unfold deedV
 go_enter Try.func72, Try.ntmps72
 go_wp2_with fail
 refine (limits_any _ _).mono ?_
 rintro e w1 ⟨rfl, k1⟩
 have hs := box_size k1
 have c0 : w1.cell? ⟨w.heap.size, 0, none⟩ = some (.int .i64 k) := box_cell k1 0
 have c1 : w1.cell? ⟨w.heap.size, 1, none⟩ = some (.int .i64 p) := box_cell k1 1
 have c2 : w1.cell? ⟨w.heap.size, 2, none⟩ = some (.int .i64 v) := box_cell k1 2
 have c3 : w1.cell? ⟨w.heap.size, 3, none⟩ = some (.int .i64 g) := box_cell k1 3
 have K1 : Keep w w1 := ((Keep.refl w).alloc _).trans k1
 clear k1
 go_wp2_with (go_at_call 55; refine (isFrom_any _ _ _ _).mono ?_; rintro e w' ⟨rfl, rfl⟩)
 all_goals
  go_ret
  exact ⟨ret_bool (by simp [*]), (K1.alloc _).alloc _⟩
theorem with_any (s i : Int) (w : World) :
  Calls Try.prog 43 #[.int .i64 s, .int .i64 i] w fun e w' => e = .returned (.int .i64 (gAdd s i)) ∧ w' = w := by
 by_cases hs : s = -1
 ·
  subst hs
  go_enter Try.func43, Try.ntmps43
  go_wp2
  go_ret
  exact ⟨ret_int (gAdd_none i).symm, rfl⟩
 ·
  have hsb : (s == -1) = false := by simp [hs]
  have HS : Hid (¬ s = -1) := hs
  clear hs
  cases hi : inB i 0 11
  ·
   go_enter Try.func43, Try.ntmps43
   go_wp2_with (go_at_call 63; refine (inSize_any _ _).mono ?_; rintro e w' ⟨rfl, rfl⟩)
   go_ret
   exact ⟨ret_int (gAdd_bad s i hi).symm, rfl⟩
  ·
   have hi' := hi
   simp only [inB, decide_eq_true_eq] at hi'
   obtain ⟨i1, i2⟩ := hi'
   go_enter Try.func43, Try.ntmps43
   go_wp2_with (go_at_call 63; refine (inSize_any _ _).mono ?_; rintro e w' ⟨rfl, rfl⟩)
   go_ret
   exact ⟨ret_int (by simp [gAdd, HS.out, hi]), rfl⟩
theorem setAnd_bits (s t : Int) (w : World) :
  Calls Try.prog 69 #[.int .i64 s, .int .i64 t] w fun e w' => e = .returned (.int .i64 (bits .and .i64 s t)) ∧ w' = w := by
 go_enter Try.func69, Try.ntmps69
 go_wp2
 go_ret
 exact ⟨rfl, rfl⟩
theorem setOr_bits (s t : Int) (w : World) :
  Calls Try.prog 59 #[.int .i64 s, .int .i64 t] w fun e w' => e = .returned (.int .i64 (bits .or .i64 s t)) ∧ w' = w := by
 go_enter Try.func59, Try.ntmps59
 go_wp2
 go_ret
 exact ⟨rfl, rfl⟩
theorem count_any (a : Option Addr) (n c : Nat) (w : World) :
  Calls Try.prog 57 #[.slice a n c] w fun e w' => e = .returned (.int .i64 (n : Int)) ∧ w' = w := by
 go_enter Try.func57, Try.ntmps57
 go_wp2
 go_ret
 exact ⟨rfl, rfl⟩
theorem evD_cases (d : Dd) : (d.1 = 3 ∧ evD d = 2) ∨ (d.1 = 1 ∧ evD d = 1) ∨ (d.1 = 2 ∧ evD d = 1) ∨ (¬ d.1 = 3 ∧ ¬ d.1 = 1 ∧ ¬ d.1 = 2 ∧ evD d = 0) := by
 unfold evD
 repeat' split
 all_goals omega
set_option maxRecDepth 100000 in
set_option maxHeartbeats 2000000 in
theorem events_any (w : World) (v : Value) (ds : List Dd) (h : RdD w v ds) (hx : ds.length ≤ 1048576) :
  Calls Try.prog 58 #[v] w fun e w' => e = .returned (.int .i64 (evK ds ds.length)) ∧ Keep w w' := by
 obtain ⟨a, c, rfl, h⟩ := h
 go_enter Try.func58, Try.ntmps58
 go_wp2
 go_loopw [3, 8] (fun n i wr => ∃ k : Nat, ∃ m : Int, k ≤ ds.length ∧ n = .int .i64 m ∧ i = .int .i64 k ∧ Hid (m = evK ds k) ∧ 0 ≤ m ∧ m ≤ 2 * k ∧ Keep w wr) (fun _ i _ => ds.length - (intOf i).toNat)
 case atStart => exact ⟨0, 0, Nat.zero_le _, rfl, rfl, Lib.hid rfl, by omega, by omega, Keep.refl _⟩
 case round =>
  obtain ⟨k, m, hk, rfl, rfl, hm, m0, m1, hK⟩ := hrel
  by_cases hlt : k < ds.length
  ·
   rcases h with h | ⟨b, o, rfl, hb, hc⟩
   ·
    exfalso; rw [h] at hlt; simp at hlt
   obtain ⟨A0, A1, A2, A3⟩ := (hc k hlt).keep hb hK
   clear hc
   have HE : Hid (m + evD (ds.getD k zD) = evK ds (k + 1)) := Lib.hid (by rw [evK, hm.out])
   have CS := evD_cases (ds.getD k zD)
   clear hm
   obtain ⟨d, hd⟩ : ∃ d, d = ds.getD k zD := ⟨_, rfl⟩
   rw [← hd] at A0 A1 A2 A3 HE CS
   clear hd
   obtain ⟨x0, x1, x2, x3⟩ := d
   simp only at A0 A1 A2 A3 CS
   have hbw : b < wr.heap.size := Nat.lt_of_lt_of_le hb hK.size
   have i1 : (0 : Int) ≤ (k : Int) := Int.natCast_nonneg _
   have i2 : (k : Int) < (ds.length : Int) := by omega
   rcases CS with ⟨rfl, e⟩ | ⟨rfl, e⟩ | ⟨rfl, e⟩ | ⟨n3, n1, n2, e⟩
   ·
    rw [e] at HE
    clear e
    go_wp2
    go_roundw
    case rel => exact ⟨k + 1, m + 2, by omega, by go_num, by go_num, HE, by omega, by omega, hK.alloc _⟩
    case measure => simp [intOf]; omega
   ·
    rw [e] at HE
    clear e
    go_wp2
    go_roundw
    case rel => exact ⟨k + 1, m + 1, by omega, by go_num, by go_num, HE, by omega, by omega, hK.alloc _⟩
    case measure => simp [intOf]; omega
   ·
    rw [e] at HE
    clear e
    go_wp2
    go_roundw
    case rel => exact ⟨k + 1, m + 1, by omega, by go_num, by go_num, HE, by omega, by omega, hK.alloc _⟩
    case measure => simp [intOf]; omega
   ·
    rw [e, Int.add_zero] at HE
    clear e
    have e3 : (x0 == 3) = false := by simp [n3]
    have e1 : (x0 == 1) = false := by simp [n1]
    have e2 : (x0 == 2) = false := by simp [n2]
    clear n3 n1 n2
    go_wp2
    go_roundw
    case rel => exact ⟨k + 1, m, by omega, by go_num, by go_num, HE, by omega, by omega, hK.alloc _⟩
    case measure => simp [intOf]; omega
  ·
   obtain rfl : k = ds.length := by omega
   go_wp2
   go_ret
   exact ⟨by rw [hm.out]; rfl, hK⟩
set_option maxRecDepth 100000 in
set_option maxHeartbeats 2000000 in
theorem groups_any (w : World) (v : Value) (ds : List Dd) (h : RdD w v ds) (hx : ds.length ≤ 1048576) :
  Calls Try.prog 60 #[v] w fun e w' => e = .returned (.int .i64 (gC ds)) ∧ Keep w w' := by
 obtain ⟨a, c, rfl, h⟩ := h
 go_enter Try.func60, Try.ntmps60
 go_wp2
 go_loopw [3, 8] (fun n i wr => ∃ k : Nat, ∃ m : Int, k ≤ ds.length ∧ n = .int .i64 m ∧ i = .int .i64 k ∧ Hid (m = gK ds k) ∧ Keep w wr) (fun _ i _ => ds.length - (intOf i).toNat)
 case atStart => exact ⟨0, 0, Nat.zero_le _, rfl, rfl, Lib.hid rfl, Keep.refl _⟩
 case round =>
  obtain ⟨k, m, hk, rfl, rfl, hm, hK⟩ := hrel
  by_cases hlt : k < ds.length
  ·
   rcases h with h | ⟨b, o, rfl, hb, hc⟩
   ·
    exfalso; rw [h] at hlt; simp at hlt
   obtain ⟨A0, A1, A2, A3⟩ := (hc k hlt).keep hb hK
   clear hc
   have HE : Hid (gK ds (k + 1) = if grD (ds.getD k zD) = 0 then m else gAdd m (grD (ds.getD k zD))) := Lib.hid (by rw [gK, hm.out])
   clear hm
   obtain ⟨d, hd⟩ : ∃ d, d = ds.getD k zD := ⟨_, rfl⟩
   rw [← hd] at A0 A1 A2 A3 HE
   clear hd
   obtain ⟨x0, x1, x2, x3⟩ := d
   unfold grD at HE
   simp only at A0 A1 A2 A3 HE
   have hbw : b < wr.heap.size := Nat.lt_of_lt_of_le hb hK.size
   have i1 : (0 : Int) ≤ (k : Int) := Int.natCast_nonneg _
   have i2 : (k : Int) < (ds.length : Int) := by omega
   by_cases h0 : x3 = 0
   ·
    subst h0
    go_wp2
    go_roundw
    case rel => exact ⟨k + 1, m, by omega, by go_num, by go_num, Lib.hid (by rw [HE.out, if_pos rfl]), hK.alloc _⟩
    case measure => simp [intOf]; omega
   ·
    have e0 : (x3 != 0) = true := by simp [h0]
    have HF : Hid (gK ds (k + 1) = gAdd m x3) := Lib.hid (by rw [HE.out, if_neg h0])
    clear h0 HE
    go_wp2_with fail
    refine (with_any _ _ _).mono ?_
    rintro e wz ⟨rfl, rfl⟩
    go_wp2
    go_roundw
    case rel => exact ⟨k + 1, _, by omega, rfl, by go_num, Lib.hid HF.out.symm, hK.alloc _⟩
    case measure => simp [intOf]; omega
  ·
   obtain rfl : k = ds.length := by omega
   go_wp2
   go_ret
   exact ⟨by rw [hm.out]; rfl, hK⟩
theorem all_moreC {α : Type} {f : α → Bool} {l : List α} {k : Nat} (z : α) (h : k < l.length) (h1 : (l.take k).all f = true) (h2 : f (l.getD k z) = true) : (l.take (k + 1)).all f = true := by
 rw [List.take_add_one, List.getElem?_eq_getElem h, List.all_append, h1]
 rw [List.getD_eq_getElem?_getD, List.getElem?_eq_getElem h] at h2
 simpa using h2
set_option maxRecDepth 100000 in
set_option maxHeartbeats 2000000 in
theorem areRight_any (w : World) (v : Value) (ds : List Dd) (h : RdD w v ds) (hx : ds.length ≤ 1048576) :
  Calls Try.prog 67 #[v] w fun e w' => e = .returned (.bool (ds.all okD)) ∧ Keep w w' := by
 obtain ⟨a, c, rfl, h⟩ := h
 go_enter Try.func67, Try.ntmps67
 go_wp2
 go_loopw [7] (fun i wr => ∃ k : Nat, k ≤ ds.length ∧ i = .int .i64 k ∧ Hid ((ds.take k).all okD = true) ∧ Keep w wr) (fun i _ => ds.length - (intOf i).toNat)
 case atStart => exact ⟨0, Nat.zero_le _, rfl, Lib.hid (by simp), Keep.refl _⟩
 case round =>
  obtain ⟨k, hk, rfl, hm, hK⟩ := hrel
  by_cases hlt : k < ds.length
  ·
   rcases h with h | ⟨b, o, rfl, hb, hc⟩
   ·
    exfalso; rw [h] at hlt; simp at hlt
   obtain ⟨A0, A1, A2, A3⟩ := (hc k hlt).keep hb hK
   clear hc
   have HT : okD (ds.getD k zD) = true → Hid ((ds.take (k + 1)).all okD = true) := fun e => Lib.hid (all_moreC zD hlt hm.out e)
   have HF : okD (ds.getD k zD) = false → Hid (ds.all okD = false) := fun e => Lib.hid (all_not zD k hlt e)
   clear hm
   obtain ⟨d, hd⟩ : ∃ d, d = ds.getD k zD := ⟨_, rfl⟩
   rw [← hd] at A0 A1 A2 A3 HT HF
   clear hd
   obtain ⟨x0, x1, x2, x3⟩ := d
   simp only at A0 A1 A2 A3
   have hbw : b < wr.heap.size := Nat.lt_of_lt_of_le hb hK.size
   have i1 : (0 : Int) ≤ (k : Int) := Int.natCast_nonneg _
   have i2 : (k : Int) < (ds.length : Int) := by omega
   cases hd : deedB x0 x1 x2 x3
   ·
    have HE := HF hd
    clear HT HF
    go_wp2_with fail
    refine (implDeedOk_any _ _ _ _ _).mono ?_
    rintro e wz ⟨rfl, kk⟩
    go_wp2
    go_ret
    exact ⟨by rw [HE.out]; rfl, (hK.alloc _).trans kk⟩
   ·
    have HE := HT hd
    clear HT HF
    go_wp2_with fail
    refine (implDeedOk_any _ _ _ _ _).mono ?_
    rintro e wz ⟨rfl, kk⟩
    go_wp2
    go_roundw
    case rel => exact ⟨k + 1, by omega, by go_num, HE, (hK.alloc _).trans kk⟩
    case measure => simp [intOf]; omega
  ·
   obtain rfl : k = ds.length := by omega
   rw [List.take_length] at hm
   go_wp2
   go_ret
   exact ⟨by rw [hm.out]; rfl, hK⟩
abbrev boxD (x0 x1 x2 x3 : Int) : Obj := .cells #[.int .i64 x0, .int .i64 x1, .int .i64 x2, .int .i64 x3] 62
theorem RdD.cut {w : World} {b o : Nat} {ds : List Dd} {c k : Nat} (hk : k ≤ ds.length) (hb : b < w.heap.size) (hc : ∀ i, i < ds.length → AtD w b (o + i * 4) (ds.getD i zD)) :
  RdD w (.slice (some ⟨b, o, none⟩) k (ds.length + c)) (ds.take k) := by
 refine ⟨some ⟨b, o, none⟩, ds.length + c - k, ?_, .inr ⟨b, o, rfl, hb, fun i hi => ?_⟩⟩
 ·
  rw [List.length_take, Nat.min_eq_left hk]
  congr 1
  omega
 ·
  rw [List.length_take] at hi
  rw [take_getD ds k i zD (by omega)]
  exact hc i (by omega)
theorem tog_on {ds : List Dd} {k : Nat} (h : togK ds k = true) (hp : partK ds k = false) : togK ds (k + 1) = true := by rw [togK, h, hp]; rfl
theorem tog_off {ds : List Dd} {k : Nat} (hk : k < ds.length) (hp : partK ds k = true) : togK ds ds.length = false := by
 refine togK_false (k := k + 1) ?_ _ hk
 rw [togK, hp]; simp
set_option maxRecDepth 100000 in
set_option maxHeartbeats 4000000 in
theorem areTogether_any (w : World) (v : Value) (ds : List Dd) (h : RdD w v ds) (hx : ds.length ≤ 1048576) :
  Calls Try.prog 68 #[v] w fun e w' => e = .returned (.bool (togK ds ds.length)) ∧ Keep w w' := by
 obtain ⟨a, c, rfl, h⟩ := h
 go_enter Try.func68, Try.ntmps68
 go_wp2
 go_loopw [3, 7] (fun j i wr => ∃ k : Nat, k ≤ ds.length ∧ i = .int .i64 k ∧ Hid (togK ds k = true) ∧ Keep w wr) (fun _ i _ => ds.length - (intOf i).toNat)
 case atStart => exact ⟨0, Nat.zero_le _, rfl, Lib.hid rfl, Keep.refl _⟩
 case round =>
  obtain ⟨k, hk, rfl, hm, hK⟩ := hrel
  by_cases hlt : k < ds.length
  ·
   rcases h with h | ⟨b, o, rfl, hb, hc⟩
   ·
    exfalso; rw [h] at hlt; simp at hlt
   obtain ⟨A0, A1, A2, A3⟩ := (hc k hlt).keep hb hK
   have hbw : b < wr.heap.size := Nat.lt_of_lt_of_le hb hK.size
   have i1 : (0 : Int) ≤ (k : Int) := Int.natCast_nonneg _
   have i2 : (k : Int) < (ds.length : Int) := by omega
   have HP : Hid (partK ds k = (decide (0 < k) && (grD (ds.getD k zD) != grD (ds.getD (k - 1) zD)) && inSetB (gK ds k) (grD (ds.getD k zD)))) := Lib.hid rfl
   by_cases h0 : k = 0
   ·
    have HT := Lib.hid (tog_on hm.out (by rw [HP.out]; simp [h0]))
    have d0 : decide (0 < k) = false := by simp [h0]
    clear hm HP hc
    obtain ⟨d, hd⟩ : ∃ d, d = ds.getD k zD := ⟨_, rfl⟩
    rw [← hd] at A0 A1 A2 A3
    clear hd h0
    obtain ⟨x0, x1, x2, x3⟩ := d
    simp only at A0 A1 A2 A3
    go_wp2
    go_quiet (fail)
    go_wp2
    go_roundw
    case rel => exact ⟨k + 1, by omega, by go_num, HT, (hK.alloc _).drewN _⟩
    case measure => simp [intOf]; omega
   ·
    obtain ⟨r, rfl⟩ : ∃ r : Nat, k = r + 1 := ⟨k - 1, by omega⟩
    rw [Nat.add_sub_cancel] at HP
    have B3 := ((hc r (by omega)).keep hb hK).2.2.2
    have RT : RdD w (.slice (some ⟨b, o, none⟩) (r + 1) (ds.length + c)) (ds.take (r + 1)) := RdD.cut (by omega) hb hc
    have HG := Lib.hid (gC_take ds (r + 1) (by omega))
    have HL := Lib.hid (show (ds.take (r + 1)).length = r + 1 by rw [List.length_take]; omega)
    clear hc
    have j1 : (0 : Int) ≤ (r : Int) := Int.natCast_nonneg _
    have j2 : (r : Int) < (ds.length : Int) := by omega
    have d2 : (r : Int) + 1 < (ds.length : Int) := by omega
    have d5 : (r : Int) + 1 ≤ (ds.length : Int) + (c : Int) := by omega
    have d6 : (0 : Int) ≤ (r : Int) + 1 := by omega
    have d7 : ((r + 1 : Nat) : Int) ≤ ((ds.length + c : Nat) : Int) := by omega
    have d3 : IntKind.i64.wrap (r : Int) = (r : Int) := by rw [IntKind.wrap_i64]; omega
    have d4 : wrap64 (r : Int) = (r : Int) := wrap64_small _ (by omega) (by omega)
    obtain ⟨d, hd⟩ : ∃ d, d = ds.getD (r + 1) zD := ⟨_, rfl⟩
    rw [← hd] at A0 A1 A2 A3 HP
    clear hd
    obtain ⟨p, hp⟩ : ∃ p, p = (ds.getD r zD).2.2.2 := ⟨_, rfl⟩
    rw [← hp] at B3
    have HQ : Hid (grD (ds.getD r zD) = p) := Lib.hid (by rw [hp]; rfl)
    clear hp
    rw [HQ.out] at HP
    clear HQ
    obtain ⟨x0, x1, x2, x3⟩ := d
    unfold grD at HP
    simp only at A0 A1 A2 A3 HP
    by_cases he : x3 = p
    ·
     subst he
     have HT := Lib.hid (tog_on hm.out (by rw [HP.out]; simp))
     have ne : (x3 != x3) = false := by simp
     clear HP hm
     go_wp2
     go_quiet (fail)
     go_wp2
     go_roundw
     case rel => exact ⟨r + 1 + 1, by omega, by go_num, HT, (hK.alloc _).drewN _⟩
     case measure => simp [intOf]; omega
    ·
     have ne : (x3 != p) = true := by simp [he]
     clear he
     cases hin : inSetB (gK ds (r + 1)) x3
     ·
      have HT := Lib.hid (tog_on hm.out (by rw [HP.out, hin]; simp))
      clear HP hm
      go_wp2
      have KK : Keep w ((wr.alloc (boxD x0 x1 x2 x3)).drew) := (hK.alloc _).drew
      have z1 : wr.heap.size < ((wr.alloc (boxD x0 x1 x2 x3)).drew).heap.size := by rw [heap_drew, heap_size]; omega
      have z2 : b < ((wr.alloc (boxD x0 x1 x2 x3)).drew).heap.size := by rw [heap_drew, heap_size]; omega
      go_region_held3 (fun w' => w'.cell? ⟨wr.heap.size, 3, none⟩ = some (.int .i64 x3) ∧ w'.cell? ⟨b, o + r * 4 + 3, none⟩ = some (.int .i64 p))
       (first | go_keep | (go_split_ands; refine ⟨?_, ?_⟩ <;> (rw [kk.cell (by assumption)]; assumption)))
       ((first
        | (go_at_call 60; refine (groups_any _ _ _ (RT.keep KK) (by rw [HL.out]; omega)).mono ?_; rw [HG.out]; rintro e wz ⟨rfl, kk⟩; have KK := KK.trans kk; have z1 := Nat.lt_of_lt_of_le z1 kk.size; have z2 := Nat.lt_of_lt_of_le z2 kk.size)
        | (go_at_call 62; refine (has_any _ _ _).mono ?_; rintro e wy ⟨rfl, rfl⟩)))
      all_goals
       go_wp2
       go_roundw
       case rel => exact ⟨r + 1 + 1, by omega, by go_num, HT, KK⟩
       case measure => simp [intOf]; omega
     ·
      have HT := Lib.hid (tog_off hlt (by rw [HP.out, hin, ne]; simp))
      clear HP hm
      go_wp2
      have KK : Keep w ((wr.alloc (boxD x0 x1 x2 x3)).drew) := (hK.alloc _).drew
      have z1 : wr.heap.size < ((wr.alloc (boxD x0 x1 x2 x3)).drew).heap.size := by rw [heap_drew, heap_size]; omega
      have z2 : b < ((wr.alloc (boxD x0 x1 x2 x3)).drew).heap.size := by rw [heap_drew, heap_size]; omega
      go_region_held3 (fun w' => w'.cell? ⟨wr.heap.size, 3, none⟩ = some (.int .i64 x3) ∧ w'.cell? ⟨b, o + r * 4 + 3, none⟩ = some (.int .i64 p))
       (first | go_keep | (go_split_ands; refine ⟨?_, ?_⟩ <;> (rw [kk.cell (by assumption)]; assumption)))
       ((first
        | (go_at_call 60; refine (groups_any _ _ _ (RT.keep KK) (by rw [HL.out]; omega)).mono ?_; rw [HG.out]; rintro e wz ⟨rfl, kk⟩; have KK := KK.trans kk; have z1 := Nat.lt_of_lt_of_le z1 kk.size; have z2 := Nat.lt_of_lt_of_le z2 kk.size)
        | (go_at_call 62; refine (has_any _ _ _).mono ?_; rintro e wy ⟨rfl, rfl⟩)))
      all_goals
       go_wp2
       go_ret
       exact ⟨by rw [HT.out]; rfl, KK⟩
  ·
   obtain rfl : k = ds.length := by omega
   go_wp2
   go_ret
   exact ⟨by rw [hm.out]; rfl, hK⟩
section
variable {P : Program} {md : Region.Mode} {ops : Array Oper} {Q : Exit → Act → World → Prop} {S : World → Prop}
theorem takeH (i d : Nat) {oi : Oper} {v : Value} {fuel : Nat} {listed : Array Bool} {a : Act} {w : World} (hi : ops[i]? = some oi) (hd : oi.dst = some d)
  (hs : Region.noSelect ops = true) (hf : Region.free md ops listed i = true) (hr : (Region.ready md ops listed).contains i = true)
  (hQ : ∀ c a w, Q (.panic c) (a.put (some d) v) w → Q (.panic c) a w) (hw : Region.wanted oi (yielded ops a.tmps) = true) (hy : ∀ w, S w → (execOp a.eval oi).run P w = .ok (.value v) w) (hS : S w)
  (h : wpAnyH P md ops Q S fuel (listed.setIfInBounds i true) (a.put (some d) v) w) : wpAnyH P md ops Q S (fuel + 1) listed a w := by
 rw [← hd] at hQ h
 exact wpAnyH_take hi hs hf hr hQ (Or.inl ⟨hw, hy⟩) hS h
theorem skipH (i d : Nat) {oi : Oper} {fuel : Nat} {listed : Array Bool} {a : Act} {w : World} (hi : ops[i]? = some oi) (hd : oi.dst = some d)
  (hs : Region.noSelect ops = true) (hf : Region.free md ops listed i = true) (hr : (Region.ready md ops listed).contains i = true)
  (hQ : ∀ c a w, Q (.panic c) (a.put (some d) undef) w → Q (.panic c) a w) (hw : Region.wanted oi (yielded ops a.tmps) = false) (hS : S w)
  (h : wpAnyH P md ops Q S fuel (listed.setIfInBounds i true) (a.put (some d) undef) w) : wpAnyH P md ops Q S (fuel + 1) listed a w := by
 rw [← hd] at hQ h
 exact wpAnyH_take hi hs hf hr hQ (Or.inr ⟨hw, rfl⟩) hS h
end
abbrev boxC (v : Value) (t : Int) : Obj := .cells #[v, .int .i64 t] 72
theorem right_true {ds : List Dd} {t : Int} (h5 : ds.length ≤ 5) (ha : ds.all okD = true) (ht : togK ds ds.length = true) (h0 : (bits .and .i64 (gC ds) t == 0) = true) : rightB ds t = true := by
 rw [rightB, decide_eq_true h5, ha, ht, h0]; rfl
set_option maxRecDepth 100000 in
set_option maxHeartbeats 8000000 in
theorem isRight_any (w : World) (v : Value) (t : Int) (ds : List Dd) (h : RdD w v ds) (hx : ds.length ≤ 1048576) :
  Calls Try.prog 56 #[.agg #[v, .int .i64 t]] w fun e w' => e = .returned (.bool (rightB ds t)) ∧ Keep w w' := by
 have KK : Keep w ((w.alloc (boxC v t)).drew) := ((Keep.refl w).alloc _).drew
 have z1 : w.heap.size < ((w.alloc (boxC v t)).drew).heap.size := by rw [heap_drew, heap_size]; omega
 obtain ⟨a, c, hv, -⟩ := id h
 subst hv
 by_cases h5 : ds.length ≤ 5
 ·
  have e5 : decide (ds.length ≤ 5) = true := decide_eq_true h5
  have e5' : decide ((ds.length : Int) ≤ 5) = true := decide_eq_true (by omega)
  have g5 : (ds.length : Int) ≤ 5 := by omega
  cases ha : ds.all okD
  ·
   have HE : Hid (rightB ds t = false) := Lib.hid (by rw [rightB, ha]; simp)
   go_enter Try.func56, Try.ntmps56
   go_wp2
   refine wp_region_held_drew (S := (fun w' => w'.cell? ⟨w.heap.size, 0, none⟩ = some (.slice a ds.length (ds.length + c)) ∧ w'.cell? ⟨w.heap.size, 1, none⟩ = some (.int .i64 t))) (by kernel_rfl) ?_ (fun hHeld => ?_)
   ·
    go_keep
   refine takeH 0 3 (v := ?_) rfl rfl (by kernel_rfl) (by kernel_rfl) (by kernel_rfl) (fun _ _ _ h => h) (by rfl) ?_ (by assumption) ?_
   rotate_left
   ·
    intro wx hSw
    try dsimp only at hSw
    go_simp
    with_reducible rfl
   simp only [Act.put, List.setIfInBounds_toArray, List.set_cons_zero, List.set_cons_succ]
   refine takeH 1 4 (v := ?_) rfl rfl (by kernel_rfl) (by kernel_rfl) (by kernel_rfl) (fun _ _ _ h => h) (by rfl) ?_ (by assumption) ?_
   rotate_left
   ·
    intro wx hSw
    try dsimp only at hSw
    go_simp
    with_reducible rfl
   simp only [Act.put, List.setIfInBounds_toArray, List.set_cons_zero, List.set_cons_succ]
   refine wpAnyH_ready (rs := [2]) (by kernel_rfl) (by simp) ?_
   refine AllReadyH.cons rfl (fun K hK => ?_) AllReadyH.nil
   go_simp
   refine (count_any _ _ _ _).mono ?_
   rintro e wz ⟨rfl, rfl⟩
   go_wp2_with fail
   refine hK.out _ _ ?_ (fun hHeld => ?_)
   ·
    exact hHeld
   clear hK K
   refine takeH 3 6 (v := ?_) rfl rfl (by kernel_rfl) (by kernel_rfl) (by kernel_rfl) (fun _ _ _ h => h) (by rfl) ?_ (by assumption) ?_
   rotate_left
   ·
    intro wx hSw
    try dsimp only at hSw
    go_simp
    with_reducible rfl
   simp only [Act.put, List.setIfInBounds_toArray, List.set_cons_zero, List.set_cons_succ]
   refine takeH 4 7 (v := ?_) rfl rfl (by kernel_rfl) (by kernel_rfl) (by kernel_rfl) (fun _ _ _ h => h) (by rfl) ?_ (by assumption) ?_
   rotate_left
   ·
    intro wx hSw
    try dsimp only at hSw
    go_simp
    with_reducible rfl
   simp only [Act.put, List.setIfInBounds_toArray, List.set_cons_zero, List.set_cons_succ]
   refine takeH 5 8 (v := ?_) rfl rfl (by kernel_rfl) (by kernel_rfl) (by kernel_rfl) (fun _ _ _ h => h) (by rfl) ?_ (by assumption) ?_
   rotate_left
   ·
    intro wx hSw
    try dsimp only at hSw
    go_simp
    with_reducible rfl
   simp only [Act.put, List.setIfInBounds_toArray, List.set_cons_zero, List.set_cons_succ]
   refine takeH 6 9 (v := ?_) rfl rfl (by kernel_rfl) (by kernel_rfl) (by kernel_rfl) (fun _ _ _ h => h) (by rfl) ?_ (by assumption) ?_
   rotate_left
   ·
    intro wx hSw
    try dsimp only at hSw
    go_simp
    with_reducible rfl
   simp only [Act.put, List.setIfInBounds_toArray, List.set_cons_zero, List.set_cons_succ]
   refine wpAnyH_ready (rs := [7]) (by kernel_rfl) (by simp) ?_
   refine AllReadyH.cons rfl (fun K hK => ?_) AllReadyH.nil
   go_simp
   refine (areRight_any _ _ _ (h.keep KK) hx).mono ?_
   rw [ha]
   rintro e wz1 ⟨rfl, kk⟩
   have z0 := z1
   have KK := KK.trans kk
   have z1 := Nat.lt_of_lt_of_le z1 kk.size
   go_wp2_with fail
   refine hK.out _ _ ?_ (fun hHeld => ?_)
   ·
    exact ⟨(kk.cell z0).trans hHeld.1, (kk.cell z0).trans hHeld.2⟩
   clear hK K
   refine takeH 8 11 (v := ?_) rfl rfl (by kernel_rfl) (by kernel_rfl) (by kernel_rfl) (fun _ _ _ h => h) (by rfl) ?_ (by assumption) ?_
   rotate_left
   ·
    intro wx hSw
    try dsimp only at hSw
    go_simp
    with_reducible rfl
   simp only [Act.put, List.setIfInBounds_toArray, List.set_cons_zero, List.set_cons_succ]
   refine takeH 9 12 (v := ?_) rfl rfl (by kernel_rfl) (by kernel_rfl) (by kernel_rfl) (fun _ _ _ h => h) (by rfl) ?_ (by assumption) ?_
   rotate_left
   ·
    intro wx hSw
    try dsimp only at hSw
    go_simp
    with_reducible rfl
   simp only [Act.put, List.setIfInBounds_toArray, List.set_cons_zero, List.set_cons_succ]
   refine skipH 10 13 rfl rfl (by kernel_rfl) (by kernel_rfl) (by kernel_rfl) (fun _ _ _ h => h) (by rfl) (by assumption) ?_
   simp only [Act.put, List.setIfInBounds_toArray, List.set_cons_zero, List.set_cons_succ]
   refine skipH 11 14 rfl rfl (by kernel_rfl) (by kernel_rfl) (by kernel_rfl) (fun _ _ _ h => h) (by rfl) (by assumption) ?_
   simp only [Act.put, List.setIfInBounds_toArray, List.set_cons_zero, List.set_cons_succ]
   refine skipH 12 15 rfl rfl (by kernel_rfl) (by kernel_rfl) (by kernel_rfl) (fun _ _ _ h => h) (by rfl) (by assumption) ?_
   simp only [Act.put, List.setIfInBounds_toArray, List.set_cons_zero, List.set_cons_succ]
   refine takeH 13 16 (v := ?_) rfl rfl (by kernel_rfl) (by kernel_rfl) (by kernel_rfl) (fun _ _ _ h => h) (by rfl) ?_ (by assumption) ?_
   rotate_left
   ·
    intro wx hSw
    try dsimp only at hSw
    go_simp
    with_reducible rfl
   simp only [Act.put, List.setIfInBounds_toArray, List.set_cons_zero, List.set_cons_succ]
   refine takeH 14 17 (v := ?_) rfl rfl (by kernel_rfl) (by kernel_rfl) (by kernel_rfl) (fun _ _ _ h => h) (by rfl) ?_ (by assumption) ?_
   rotate_left
   ·
    intro wx hSw
    try dsimp only at hSw
    go_simp
    with_reducible rfl
   simp only [Act.put, List.setIfInBounds_toArray, List.set_cons_zero, List.set_cons_succ]
   refine skipH 15 18 rfl rfl (by kernel_rfl) (by kernel_rfl) (by kernel_rfl) (fun _ _ _ h => h) (by rfl) (by assumption) ?_
   simp only [Act.put, List.setIfInBounds_toArray, List.set_cons_zero, List.set_cons_succ]
   refine skipH 16 19 rfl rfl (by kernel_rfl) (by kernel_rfl) (by kernel_rfl) (fun _ _ _ h => h) (by rfl) (by assumption) ?_
   simp only [Act.put, List.setIfInBounds_toArray, List.set_cons_zero, List.set_cons_succ]
   refine skipH 17 20 rfl rfl (by kernel_rfl) (by kernel_rfl) (by kernel_rfl) (fun _ _ _ h => h) (by rfl) (by assumption) ?_
   simp only [Act.put, List.setIfInBounds_toArray, List.set_cons_zero, List.set_cons_succ]
   refine skipH 18 21 rfl rfl (by kernel_rfl) (by kernel_rfl) (by kernel_rfl) (fun _ _ _ h => h) (by rfl) (by assumption) ?_
   simp only [Act.put, List.setIfInBounds_toArray, List.set_cons_zero, List.set_cons_succ]
   refine skipH 19 22 rfl rfl (by kernel_rfl) (by kernel_rfl) (by kernel_rfl) (fun _ _ _ h => h) (by rfl) (by assumption) ?_
   simp only [Act.put, List.setIfInBounds_toArray, List.set_cons_zero, List.set_cons_succ]
   refine skipH 20 23 rfl rfl (by kernel_rfl) (by kernel_rfl) (by kernel_rfl) (fun _ _ _ h => h) (by rfl) (by assumption) ?_
   simp only [Act.put, List.setIfInBounds_toArray, List.set_cons_zero, List.set_cons_succ]
   refine skipH 21 24 rfl rfl (by kernel_rfl) (by kernel_rfl) (by kernel_rfl) (fun _ _ _ h => h) (by rfl) (by assumption) ?_
   simp only [Act.put, List.setIfInBounds_toArray, List.set_cons_zero, List.set_cons_succ]
   refine takeH 22 25 (v := ?_) rfl rfl (by kernel_rfl) (by kernel_rfl) (by kernel_rfl) (fun _ _ _ h => h) (by rfl) ?_ (by assumption) ?_
   rotate_left
   ·
    intro wx hSw
    try dsimp only at hSw
    go_simp
    with_reducible rfl
   simp only [Act.put, List.setIfInBounds_toArray, List.set_cons_zero, List.set_cons_succ]
   refine takeH 23 2 (v := ?_) rfl rfl (by kernel_rfl) (by kernel_rfl) (by kernel_rfl) (fun _ _ _ h => h) (by rfl) ?_ (by assumption) ?_
   rotate_left
   ·
    intro wx hSw
    try dsimp only at hSw
    go_simp
    with_reducible rfl
   simp only [Act.put, List.setIfInBounds_toArray, List.set_cons_zero, List.set_cons_succ]
   refine wpAnyH_done (by kernel_rfl) ?_ _
   go_wp2
   go_ret
   exact ⟨by rw [HE.out]; rfl, KK⟩
  ·
   cases ht : togK ds ds.length
   ·
    have HE : Hid (rightB ds t = false) := Lib.hid (by rw [rightB, ht]; simp)
    go_enter Try.func56, Try.ntmps56
    go_wp2
    refine wp_region_held_drew (S := (fun w' => w'.cell? ⟨w.heap.size, 0, none⟩ = some (.slice a ds.length (ds.length + c)) ∧ w'.cell? ⟨w.heap.size, 1, none⟩ = some (.int .i64 t))) (by kernel_rfl) ?_ (fun hHeld => ?_)
    ·
     go_keep
    refine takeH 0 3 (v := ?_) rfl rfl (by kernel_rfl) (by kernel_rfl) (by kernel_rfl) (fun _ _ _ h => h) (by rfl) ?_ (by assumption) ?_
    rotate_left
    ·
     intro wx hSw
     try dsimp only at hSw
     go_simp
     with_reducible rfl
    simp only [Act.put, List.setIfInBounds_toArray, List.set_cons_zero, List.set_cons_succ]
    refine takeH 1 4 (v := ?_) rfl rfl (by kernel_rfl) (by kernel_rfl) (by kernel_rfl) (fun _ _ _ h => h) (by rfl) ?_ (by assumption) ?_
    rotate_left
    ·
     intro wx hSw
     try dsimp only at hSw
     go_simp
     with_reducible rfl
    simp only [Act.put, List.setIfInBounds_toArray, List.set_cons_zero, List.set_cons_succ]
    refine wpAnyH_ready (rs := [2]) (by kernel_rfl) (by simp) ?_
    refine AllReadyH.cons rfl (fun K hK => ?_) AllReadyH.nil
    go_simp
    refine (count_any _ _ _ _).mono ?_
    rintro e wz ⟨rfl, rfl⟩
    go_wp2_with fail
    refine hK.out _ _ ?_ (fun hHeld => ?_)
    ·
     exact hHeld
    clear hK K
    refine takeH 3 6 (v := ?_) rfl rfl (by kernel_rfl) (by kernel_rfl) (by kernel_rfl) (fun _ _ _ h => h) (by rfl) ?_ (by assumption) ?_
    rotate_left
    ·
     intro wx hSw
     try dsimp only at hSw
     go_simp
     with_reducible rfl
    simp only [Act.put, List.setIfInBounds_toArray, List.set_cons_zero, List.set_cons_succ]
    refine takeH 4 7 (v := ?_) rfl rfl (by kernel_rfl) (by kernel_rfl) (by kernel_rfl) (fun _ _ _ h => h) (by rfl) ?_ (by assumption) ?_
    rotate_left
    ·
     intro wx hSw
     try dsimp only at hSw
     go_simp
     with_reducible rfl
    simp only [Act.put, List.setIfInBounds_toArray, List.set_cons_zero, List.set_cons_succ]
    refine takeH 5 8 (v := ?_) rfl rfl (by kernel_rfl) (by kernel_rfl) (by kernel_rfl) (fun _ _ _ h => h) (by rfl) ?_ (by assumption) ?_
    rotate_left
    ·
     intro wx hSw
     try dsimp only at hSw
     go_simp
     with_reducible rfl
    simp only [Act.put, List.setIfInBounds_toArray, List.set_cons_zero, List.set_cons_succ]
    refine takeH 6 9 (v := ?_) rfl rfl (by kernel_rfl) (by kernel_rfl) (by kernel_rfl) (fun _ _ _ h => h) (by rfl) ?_ (by assumption) ?_
    rotate_left
    ·
     intro wx hSw
     try dsimp only at hSw
     go_simp
     with_reducible rfl
    simp only [Act.put, List.setIfInBounds_toArray, List.set_cons_zero, List.set_cons_succ]
    refine wpAnyH_ready (rs := [7]) (by kernel_rfl) (by simp) ?_
    refine AllReadyH.cons rfl (fun K hK => ?_) AllReadyH.nil
    go_simp
    refine (areRight_any _ _ _ (h.keep KK) hx).mono ?_
    rw [ha]
    rintro e wz1 ⟨rfl, kk⟩
    have z0 := z1
    have KK := KK.trans kk
    have z1 := Nat.lt_of_lt_of_le z1 kk.size
    go_wp2_with fail
    refine hK.out _ _ ?_ (fun hHeld => ?_)
    ·
     exact ⟨(kk.cell z0).trans hHeld.1, (kk.cell z0).trans hHeld.2⟩
    clear hK K
    refine takeH 8 11 (v := ?_) rfl rfl (by kernel_rfl) (by kernel_rfl) (by kernel_rfl) (fun _ _ _ h => h) (by rfl) ?_ (by assumption) ?_
    rotate_left
    ·
     intro wx hSw
     try dsimp only at hSw
     go_simp
     with_reducible rfl
    simp only [Act.put, List.setIfInBounds_toArray, List.set_cons_zero, List.set_cons_succ]
    refine takeH 9 12 (v := ?_) rfl rfl (by kernel_rfl) (by kernel_rfl) (by kernel_rfl) (fun _ _ _ h => h) (by rfl) ?_ (by assumption) ?_
    rotate_left
    ·
     intro wx hSw
     try dsimp only at hSw
     go_simp
     with_reducible rfl
    simp only [Act.put, List.setIfInBounds_toArray, List.set_cons_zero, List.set_cons_succ]
    refine takeH 10 13 (v := ?_) rfl rfl (by kernel_rfl) (by kernel_rfl) (by kernel_rfl) (fun _ _ _ h => h) (by rfl) ?_ (by assumption) ?_
    rotate_left
    ·
     intro wx hSw
     try dsimp only at hSw
     go_simp
     with_reducible rfl
    simp only [Act.put, List.setIfInBounds_toArray, List.set_cons_zero, List.set_cons_succ]
    refine takeH 11 14 (v := ?_) rfl rfl (by kernel_rfl) (by kernel_rfl) (by kernel_rfl) (fun _ _ _ h => h) (by rfl) ?_ (by assumption) ?_
    rotate_left
    ·
     intro wx hSw
     try dsimp only at hSw
     go_simp
     with_reducible rfl
    simp only [Act.put, List.setIfInBounds_toArray, List.set_cons_zero, List.set_cons_succ]
    refine wpAnyH_ready (rs := [12]) (by kernel_rfl) (by simp) ?_
    refine AllReadyH.cons rfl (fun K hK => ?_) AllReadyH.nil
    go_simp
    refine (areTogether_any _ _ _ (h.keep KK) hx).mono ?_
    rw [ht]
    rintro e wz2 ⟨rfl, kk⟩
    have z0 := z1
    have KK := KK.trans kk
    have z1 := Nat.lt_of_lt_of_le z1 kk.size
    go_wp2_with fail
    refine hK.out _ _ ?_ (fun hHeld => ?_)
    ·
     exact ⟨(kk.cell z0).trans hHeld.1, (kk.cell z0).trans hHeld.2⟩
    clear hK K
    refine takeH 13 16 (v := ?_) rfl rfl (by kernel_rfl) (by kernel_rfl) (by kernel_rfl) (fun _ _ _ h => h) (by rfl) ?_ (by assumption) ?_
    rotate_left
    ·
     intro wx hSw
     try dsimp only at hSw
     go_simp
     with_reducible rfl
    simp only [Act.put, List.setIfInBounds_toArray, List.set_cons_zero, List.set_cons_succ]
    refine takeH 14 17 (v := ?_) rfl rfl (by kernel_rfl) (by kernel_rfl) (by kernel_rfl) (fun _ _ _ h => h) (by rfl) ?_ (by assumption) ?_
    rotate_left
    ·
     intro wx hSw
     try dsimp only at hSw
     go_simp
     with_reducible rfl
    simp only [Act.put, List.setIfInBounds_toArray, List.set_cons_zero, List.set_cons_succ]
    refine skipH 15 18 rfl rfl (by kernel_rfl) (by kernel_rfl) (by kernel_rfl) (fun _ _ _ h => h) (by rfl) (by assumption) ?_
    simp only [Act.put, List.setIfInBounds_toArray, List.set_cons_zero, List.set_cons_succ]
    refine skipH 16 19 rfl rfl (by kernel_rfl) (by kernel_rfl) (by kernel_rfl) (fun _ _ _ h => h) (by rfl) (by assumption) ?_
    simp only [Act.put, List.setIfInBounds_toArray, List.set_cons_zero, List.set_cons_succ]
    refine skipH 17 20 rfl rfl (by kernel_rfl) (by kernel_rfl) (by kernel_rfl) (fun _ _ _ h => h) (by rfl) (by assumption) ?_
    simp only [Act.put, List.setIfInBounds_toArray, List.set_cons_zero, List.set_cons_succ]
    refine skipH 18 21 rfl rfl (by kernel_rfl) (by kernel_rfl) (by kernel_rfl) (fun _ _ _ h => h) (by rfl) (by assumption) ?_
    simp only [Act.put, List.setIfInBounds_toArray, List.set_cons_zero, List.set_cons_succ]
    refine skipH 19 22 rfl rfl (by kernel_rfl) (by kernel_rfl) (by kernel_rfl) (fun _ _ _ h => h) (by rfl) (by assumption) ?_
    simp only [Act.put, List.setIfInBounds_toArray, List.set_cons_zero, List.set_cons_succ]
    refine skipH 20 23 rfl rfl (by kernel_rfl) (by kernel_rfl) (by kernel_rfl) (fun _ _ _ h => h) (by rfl) (by assumption) ?_
    simp only [Act.put, List.setIfInBounds_toArray, List.set_cons_zero, List.set_cons_succ]
    refine skipH 21 24 rfl rfl (by kernel_rfl) (by kernel_rfl) (by kernel_rfl) (fun _ _ _ h => h) (by rfl) (by assumption) ?_
    simp only [Act.put, List.setIfInBounds_toArray, List.set_cons_zero, List.set_cons_succ]
    refine takeH 22 25 (v := ?_) rfl rfl (by kernel_rfl) (by kernel_rfl) (by kernel_rfl) (fun _ _ _ h => h) (by rfl) ?_ (by assumption) ?_
    rotate_left
    ·
     intro wx hSw
     try dsimp only at hSw
     go_simp
     with_reducible rfl
    simp only [Act.put, List.setIfInBounds_toArray, List.set_cons_zero, List.set_cons_succ]
    refine takeH 23 2 (v := ?_) rfl rfl (by kernel_rfl) (by kernel_rfl) (by kernel_rfl) (fun _ _ _ h => h) (by rfl) ?_ (by assumption) ?_
    rotate_left
    ·
     intro wx hSw
     try dsimp only at hSw
     go_simp
     with_reducible rfl
    simp only [Act.put, List.setIfInBounds_toArray, List.set_cons_zero, List.set_cons_succ]
    refine wpAnyH_done (by kernel_rfl) ?_ _
    go_wp2
    go_ret
    exact ⟨by rw [HE.out]; rfl, KK⟩
   ·
    cases h0 : (bits .and .i64 (gC ds) t == 0)
    ·
     have HE : Hid (rightB ds t = false) := Lib.hid (by rw [rightB, h0]; simp)
     go_enter Try.func56, Try.ntmps56
     go_wp2
     go_region_held3 (fun w' => w'.cell? ⟨w.heap.size, 0, none⟩ = some (.slice a ds.length (ds.length + c)) ∧ w'.cell? ⟨w.heap.size, 1, none⟩ = some (.int .i64 t))
      (first | go_keep | (go_split_ands; refine ⟨?_, ?_⟩ <;> (rw [kk.cell (by assumption)]; assumption)))
      ((first
       | (go_at_call 57; refine (count_any _ _ _ _).mono ?_; rintro e wz ⟨rfl, rfl⟩)
       | (go_at_call 67; refine (areRight_any _ _ _ (h.keep KK) hx).mono ?_; rintro e wz ⟨rfl, kk⟩; have KK := KK.trans kk; have z1 := Nat.lt_of_lt_of_le z1 kk.size)
       | (go_at_call 68; refine (areTogether_any _ _ _ (h.keep KK) hx).mono ?_; rintro e wz ⟨rfl, kk⟩; have KK := KK.trans kk; have z1 := Nat.lt_of_lt_of_le z1 kk.size)
       | (go_at_call 60; refine (groups_any _ _ _ (h.keep KK) hx).mono ?_; rintro e wz ⟨rfl, kk⟩; have KK := KK.trans kk; have z1 := Nat.lt_of_lt_of_le z1 kk.size)
       | (go_at_call 69; refine (setAnd_bits _ _ _).mono ?_; rintro e wz ⟨rfl, rfl⟩)))
     all_goals
      go_wp2
      go_ret
      exact ⟨by rw [HE.out]; rfl, KK⟩
    ·
     have HE : Hid (rightB ds t = true) := Lib.hid (right_true h5 ha ht h0)
     go_enter Try.func56, Try.ntmps56
     go_wp2
     go_region_held3 (fun w' => w'.cell? ⟨w.heap.size, 0, none⟩ = some (.slice a ds.length (ds.length + c)) ∧ w'.cell? ⟨w.heap.size, 1, none⟩ = some (.int .i64 t))
      (first | go_keep | (go_split_ands; refine ⟨?_, ?_⟩ <;> (rw [kk.cell (by assumption)]; assumption)))
      ((first
       | (go_at_call 57; refine (count_any _ _ _ _).mono ?_; rintro e wz ⟨rfl, rfl⟩)
       | (go_at_call 67; refine (areRight_any _ _ _ (h.keep KK) hx).mono ?_; rintro e wz ⟨rfl, kk⟩; have KK := KK.trans kk; have z1 := Nat.lt_of_lt_of_le z1 kk.size)
       | (go_at_call 68; refine (areTogether_any _ _ _ (h.keep KK) hx).mono ?_; rintro e wz ⟨rfl, kk⟩; have KK := KK.trans kk; have z1 := Nat.lt_of_lt_of_le z1 kk.size)
       | (go_at_call 60; refine (groups_any _ _ _ (h.keep KK) hx).mono ?_; rintro e wz ⟨rfl, kk⟩; have KK := KK.trans kk; have z1 := Nat.lt_of_lt_of_le z1 kk.size)
       | (go_at_call 69; refine (setAnd_bits _ _ _).mono ?_; rintro e wz ⟨rfl, rfl⟩)))
     all_goals
      go_wp2
      go_ret
      exact ⟨by rw [HE.out]; rfl, KK⟩
 ·
  have e5 : decide (ds.length ≤ 5) = false := decide_eq_false h5
  have e5' : decide ((ds.length : Int) ≤ 5) = false := decide_eq_false (by omega)
  have HE : Hid (rightB ds t = false) := Lib.hid (by rw [rightB, e5]; rfl)
  go_enter Try.func56, Try.ntmps56
  go_wp2
  go_quiet ((go_at_call 57; exact Calls.quiet_of_same (count_any _ _ _ _)))
  go_wp2
  go_ret
  exact ⟨by rw [HE.out]; rfl, ((Keep.refl w).alloc _).drewN _⟩
theorem Try.infoC : (Try.prog.info? 72).map (fun i => (i.zero, i.size, i.bytes)) = some (some (.agg #[.slice none 0 0, .int .i64 0]), 2, 32) := by kernel_rfl
abbrev boxC2 (v : Value) (t : Int) : Obj := .cells #[v, .int .i64 t] 72
def RdC (w : World) (v : Value) (dss : List (List Dd)) : Prop :=
 ∃ (a : Option Addr) (cap : Nat), v = .slice a dss.length cap ∧
  (dss = [] ∨ ∃ b, a = some ⟨b, 0, none⟩ ∧ b < w.heap.size ∧ ∀ i, i < dss.length → ∃ vi, w.cell? ⟨b, i * 2, none⟩ = some vi ∧ RdD w vi (dss.getD i []) ∧ w.cell? ⟨b, i * 2 + 1, none⟩ = some (.int .i64 (takW dss i)))
theorem RdC.keep {w w' : World} {v : Value} {dss : List (List Dd)} (h : RdC w v dss) (k : Keep w w') : RdC w' v dss := by
 obtain ⟨a, cap, hv, h⟩ := h
 refine ⟨a, cap, hv, ?_⟩
 rcases h with h | ⟨b, ha, hb, hc⟩
 ·
  exact .inl h
 ·
  refine .inr ⟨b, ha, Nat.lt_of_lt_of_le hb k.size, fun i hi => ?_⟩
  obtain ⟨vi, h1, h2, h3⟩ := hc i hi
  exact ⟨vi, (k.cell hb).trans h1, h2.keep k, (k.cell hb).trans h3⟩
def cellC (V : Nat → Value) (dss : List (List Dd)) (k : Nat) : List Value := (List.range k).flatMap fun i => [V i, .int .i64 (takW dss i)]
theorem cellC_more (V : Nat → Value) (dss : List (List Dd)) (k : Nat) : cellC V dss (k + 1) = cellC V dss k ++ [V k, .int .i64 (takW dss k)] := by
 unfold cellC; rw [List.range_succ, List.flatMap_append]; simp
theorem cellC_len (V : Nat → Value) (dss : List (List Dd)) : ∀ k, (cellC V dss k).length = k * 2
 | 0 => rfl
 | k + 1 => by rw [cellC_more, List.length_append, cellC_len V dss k]; simp; omega
theorem cellC_at (V : Nat → Value) (dss : List (List Dd)) : ∀ k i, i < k → (cellC V dss k)[i * 2]? = some (V i) ∧ (cellC V dss k)[i * 2 + 1]? = some (.int .i64 (takW dss i))
 | 0, i, h => by omega
 | k + 1, i, h => by
  rw [cellC_more]
  by_cases e : i < k
  ·
   have ih := cellC_at V dss k i e
   have hl := cellC_len V dss k
   rw [List.getElem?_append_left (by omega), List.getElem?_append_left (by omega)]
   exact ih
  ·
   obtain rfl : i = k := by omega
   have hl := cellC_len V dss i
   rw [List.getElem?_append_right (by omega), List.getElem?_append_right (by omega), hl]
   simp
theorem rdC_of {w0 w : World} {base : Nat} {v : Value} {V : Nat → Value} {dss : List (List Dd)} (h : w.ownsRow base 72 2 v dss.length (cellC V dss dss.length)) (k : Keep w0 w) (hV : ∀ i, i < dss.length → RdD w0 (V i) (dss.getD i [])) : RdC w v dss := by
 have h2 := h
 have hlt := World.ownsRow.lt h
 rcases h.2 with ⟨rfl, hn⟩ | ⟨g, cap, cur, rfl, hb, hg, _, _, hs, _⟩
 ·
  have : dss = [] := List.eq_nil_of_length_eq_zero hn
  subst this
  exact ⟨none, 0, rfl, .inl rfl⟩
 ·
  refine ⟨_, _, rfl, .inr ⟨g, rfl, (hlt g rfl).2, fun i hi => ?_⟩⟩
  have hc := cellC_at V dss dss.length i hi
  have c1 := World.ownsRow.cellAt h2 (i * 2) (by omega)
  have c2 := World.ownsRow.cellAt h2 (i * 2 + 1) (by omega)
  exact ⟨V i, by rw [c1, hc.1], (hV i hi).keep k, by rw [c2, hc.2]⟩
set_option maxRecDepth 100000 in
set_option maxHeartbeats 4000000 in
theorem clerksOf_own (w0 w : World) (kw : Keep w0 w) (v : Value) (dss : List (List Dd)) (h : RdW w0 v dss) (hx : dss.length ≤ 3) (hm : ∀ i, i < dss.length → (dss.getD i []).length ≤ 1048576) :
  Calls Try.prog 37 #[v] w fun e w' => ∃ v', e = .returned v' ∧ (∃ V : Nat → Value, w'.ownsRow w.heap.size 72 2 v' dss.length (cellC V dss dss.length) ∧ ∀ i, i < dss.length → RdD w0 (V i) (dss.getD i [])) ∧ Keep w w' := by
 obtain ⟨a, c, rfl, h⟩ := h
 have start : (w.alloc (.cells #[] 72)).ownsRow w.heap.size 72 2 (.slice (some ⟨w.heap.size, 0, none⟩) 0 0) 0 [] := World.ownsRow_lit w #[] 0 (Nat.le_refl _) (by decide) rfl
 obtain ⟨i0, hi, hz0, hz1, hz2⟩ := info_parts Try.infoC
 obtain ⟨V, hV⟩ : ∃ V : Nat → Value, ∀ i, i < dss.length → RdD w0 (V i) (dss.getD i []) ∧ ∀ b o, a = some ⟨b, o, none⟩ → b < w0.heap.size ∧ w0.cell? ⟨b, o + i, none⟩ = some (V i) := by
  rcases h with h | ⟨b, o, rfl, hb, hc⟩
  ·
   exact ⟨fun _ => Value.bool false, fun i hi => by rw [h] at hi; simp at hi⟩
  ·
   obtain ⟨V, hV⟩ := Deep.choose_lt hc
   refine ⟨V, fun i hi => ⟨(hV i hi).2, fun b' o' e => ?_⟩⟩
   simp only [Option.some.injEq, Addr.mk.injEq, and_true] at e
   obtain ⟨rfl, rfl⟩ := e
   exact ⟨hb, (hV i hi).1⟩
 have hA : dss.length = 0 ∨ ∃ b o, a = some ⟨b, o, none⟩ := by
  rcases h with h | ⟨b, o, rfl, hb, hc⟩
  ·
   left; rw [h]; rfl
  ·
   exact .inr ⟨b, o, rfl⟩
 clear h
 go_enter Try.func37, Try.ntmps37
 go_wp2
 go_loopw [3, 4, 11] (fun x t i wr => ∃ k : Nat, k ≤ dss.length ∧ i = .int .i64 k ∧ t = .int .i64 (takW dss k) ∧ wr.ownsRow w.heap.size 72 2 x k (cellC V dss k) ∧ Keep w wr) (fun _ _ i _ => dss.length - (intOf i).toNat)
 case atStart => exact ⟨0, Nat.zero_le _, rfl, rfl, start, (Keep.refl w).alloc _⟩
 case round =>
  obtain ⟨k, hk, rfl, rfl, ho, hK⟩ := hrel
  clear start
  by_cases hlt : k < dss.length
  ·
   obtain ⟨b, o, rfl⟩ : ∃ b o, a = some ⟨b, o, none⟩ := hA.resolve_left (by omega)
   obtain ⟨hR, hC⟩ := hV k hlt
   obtain ⟨hb, hC⟩ := hC b o rfl
   have hmk := hm k hlt
   have HM := Lib.hid (cellC_more V dss k)
   have HT : Hid (takW dss (k + 1) = bits .or .i64 (takW dss k) (gC (dss.getD k []))) := Lib.hid rfl
   have HV := Lib.hid hV
   clear hV hm hA
   obtain ⟨ds, hds⟩ : ∃ ds, ds = dss.getD k [] := ⟨_, rfl⟩
   rw [← hds] at hR hmk HT
   clear hds
   generalize takW dss k = t at HM HT
   have hK0 := kw.trans hK
   have d1 := (hK0.cell hb).trans hC
   have R1 := hR.keep hK0
   obtain ⟨u, hu⟩ : ∃ u, u = V k := ⟨_, rfl⟩
   rw [← hu] at d1 R1 HM
   have R0 := hR
   rw [← hu] at R0
   clear hu hC hR
   obtain ⟨ai, ci, rfl, -⟩ := id R1
   have hbw : b < wr.heap.size := Nat.lt_of_lt_of_le hb hK0.size
   have hsz := hK.size
   have i1 : (0 : Int) ≤ (k : Int) := Int.natCast_nonneg _
   have i2 : (k : Int) < (dss.length : Int) := by omega
   have ho2 := World.ownsRow.kept ho (((Keep.refl wr).alloc (boxC2 (.slice ai ds.length (ds.length + ci)) t)).alloc (.cells #[.slice ai ds.length (ds.length + ci), .int .i64 t] 72)).grownBy (by cases u3.ownBlock <;> simp)
   go_wp2_with (at_builtin; refine wpList_append_own_at _ rfl _ _ 67 rfl w.heap.size 72 i0 (.agg #[.slice none 0 0, .int .i64 0]) 2 32 Try.underlying67 hi hz0 hz1 hz2 rfl (by decide) _ _ _ rfl ho2 ⟨_, 0, none⟩ 1 1 [.slice ai ds.length (ds.length + ci), .int .i64 t] rfl rfl ?c1 ?c2 ?c3 ?c4 ?c5 ?_)
   case c1 =>
    intro j u hj
    match j, hj with
    | 0, hj => simp at hj; subst hj; simp [Addr.add]
    | 1, hj => simp at hj; subst hj; simp [Addr.add]
    | n + 2, hj => simp at hj
   case c2 => intro u hu; simp at hu; rcases hu with rfl | rfl <;> rfl
   case c3 => unfold maxLen; first | omega | (simp; omega)
   case c4 => first | omega | (simp; omega)
   case c5 => first | omega | (simp; omega)
   intro v' w2 hown' hgrow _ _
   rw [← HM.out] at hown'
   have hK2 : Keep w w2 := ((hK.alloc _).alloc _).grown hgrow (fun g hg => (World.ownsRow.lt ho g hg).1)
   have hbox : w2.heap[wr.heap.size]? = some (boxC2 (.slice ai ds.length (ds.length + ci)) t) :=
    (hgrow.block wr.heap.size (by rw [heap_size, heap_size]; omega) (fun e => by have := (World.ownsRow.lt ho _ e.symm).2; omega)).trans (by rw [heap_at, if_neg (by rw [heap_size]; omega), heap_at, if_pos rfl])
   have b0 : w2.cell? ⟨wr.heap.size, 0, none⟩ = some (.slice ai ds.length (ds.length + ci)) := by rw [cell_of_row w2 _ 0 _ _ (0, 0) hbox]; rfl
   have R2 := R0.keep (kw.trans hK2)
   clear hgrow hbox
   go_wp2_with fail
   refine (groups_any _ _ _ R2 hmk).mono ?_
   rintro e w3 ⟨rfl, k3⟩
   have ho3 := World.ownsRow.kept hown' k3.grownBy (by cases v'.ownBlock <;> simp)
   go_wp2_with fail
   refine (setOr_bits _ _ _).mono ?_
   rintro e w4 ⟨rfl, rfl⟩
   go_wp2
   go_roundw
   case rel => exact ⟨k + 1, by omega, by go_num, by rw [HT.out], ho3, hK2.trans k3⟩
   case measure => simp [intOf]; omega
  ·
   obtain rfl : k = dss.length := by omega
   go_wp2
   go_ret
   exact ⟨_, rfl, ⟨V, ho, fun i hi => (hV i hi).1⟩, hK⟩
theorem clerksOf_any (w : World) (v : Value) (dss : List (List Dd)) (h : RdW w v dss) (hx : dss.length ≤ 3) (hm : ∀ i, i < dss.length → (dss.getD i []).length ≤ 1048576) :
  Calls Try.prog 37 #[v] w fun e w' => ∃ v', e = .returned v' ∧ RdC w' v' dss ∧ Keep w w' :=
 (clerksOf_own w w (Keep.refl w) v dss h hx hm).mono fun _ _ ⟨v', he, ⟨_, ho, hV⟩, hK⟩ => ⟨v', he, rdC_of ho hK hV, hK⟩
def ClksAt (w0 wc w : World) (v : Value) (dss : List (List Dd)) : Prop :=
 ∃ (b c : Nat) (V : Nat → Value), v = .slice (some ⟨b, 0, none⟩) dss.length c ∧ wc.heap.size ≤ b ∧ b < w.heap.size ∧
  ∀ i, i < dss.length → RdD w0 (V i) (dss.getD i []) ∧ w.cell? ⟨b, i * 2, none⟩ = some (V i) ∧ w.cell? ⟨b, i * 2 + 1, none⟩ = some (.int .i64 (takW dss i))
theorem clerksOf_at (w0 w : World) (kw : Keep w0 w) (v : Value) (dss : List (List Dd)) (h : RdW w0 v dss) (h1 : 1 ≤ dss.length) (hx : dss.length ≤ 3) (hm : ∀ i, i < dss.length → (dss.getD i []).length ≤ 1048576) :
  Calls Try.prog 37 #[v] w fun e w' => ∃ v', e = .returned v' ∧ ClksAt w0 w w' v' dss ∧ Keep w w' := by
 refine (clerksOf_own w0 w kw v dss h hx hm).mono fun _ w' ⟨v', he, ⟨V, ho, hV⟩, hK⟩ => ⟨v', he, ?_, hK⟩
 have hlt := World.ownsRow.lt ho
 have h2 := ho
 rcases ho.2 with ⟨_, hn⟩ | ⟨g, cap, cur, rfl, hb, hg, _, _, hs, _⟩
 ·
  omega
 ·
  refine ⟨g, cap, V, rfl, hb, (hlt g rfl).2, fun i hi => ?_⟩
  have hc := cellC_at V dss dss.length i hi
  have c1 := World.ownsRow.cellAt h2 (i * 2) (by omega)
  have c2 := World.ownsRow.cellAt h2 (i * 2 + 1) (by omega)
  exact ⟨hV i hi, by rw [c1, hc.1], by rw [c2, hc.2]⟩
theorem lenW_moreC (d : List Dd) : ∀ l : List (List Dd), lenW (l ++ [d]) = lenW l + d.length
 | [] => by simp [lenW]
 | x :: r => by rw [List.cons_append, lenW, lenW, lenW_moreC d r]; omega
theorem take_moreC {α : Type} (l : List α) (k : Nat) (z : α) (h : k < l.length) : l.take (k + 1) = l.take k ++ [l.getD k z] := by
 rw [List.take_add_one, List.getElem?_eq_getElem h, List.getD_eq_getElem?_getD, List.getElem?_eq_getElem h]
 rfl
theorem rightB_len {ds : List Dd} {t : Int} (h : rightB ds t = true) : ds.length ≤ 5 := by
 simp only [rightB, Bool.and_eq_true, decide_eq_true_eq] at h
 exact h.1.1.1
set_option maxRecDepth 100000 in
set_option maxHeartbeats 4000000 in
theorem implWorkOk_any (w : World) (v : Value) (dss : List (List Dd)) (h : RdW w v dss) (hx : dss.length ≤ 1048576) (hm : ∀ i, i < dss.length → (dss.getD i []).length ≤ 1048576) :
  Calls Try.prog 35 #[v] w fun e w' => e = .returned (.bool (workB dss)) ∧ Keep w w' := by
 have RW := h
 obtain ⟨a, c, rfl, h⟩ := h
 clear h
 have HW := Lib.hid (work_rights dss)
 cases hb : inB (dss.length : Int) 1 3
 ·
  have HE : Hid (workB dss = false) := by
   refine Lib.hid ?_
   simp [inB] at hb
   rw [HW.out, decide_eq_false (by omega)]
   rfl
  go_enter Try.func35, Try.ntmps35
  go_wp2_with (go_at_call 55; refine (isFrom_any _ _ _ _).mono ?_; rintro e w' ⟨rfl, rfl⟩)
  go_ret
  exact ⟨by rw [HE.out]; rfl, Keep.refl _⟩
 ·
  have h13 : 1 ≤ dss.length ∧ dss.length ≤ 3 := by simp [inB] at hb; omega
  have HW2 : Hid (workB dss = (rightsW dss dss.length && decide (lenW dss ≤ 12) && decide (evW dss dss.length ≤ 6))) := Lib.hid (by rw [HW.out, decide_eq_true h13]; rfl)
  have h3 := h13.2
  clear h13 HW
  go_enter Try.func35, Try.ntmps35
  go_wp2_with fail
  refine (isFrom_any _ _ _ _).mono ?_
  rintro e w' ⟨rfl, rfl⟩
  go_wp2_with fail
  refine (clerksOf_any _ _ _ RW h3 hm).mono ?_
  rintro e w1 ⟨v1, rfl, rc, k1⟩
  clear hb RW
  obtain ⟨a1, c1, rfl, rc⟩ := rc
  go_wp2
  go_loopw [3, 4, 14] (fun n m i wr => ∃ k x : Nat, ∃ y : Int, k ≤ dss.length ∧ n = .int .i64 x ∧ m = .int .i64 y ∧ i = .int .i64 k ∧ Hid (x = lenW (dss.take k) ∧ y = evW dss k ∧ rightsW dss k = true) ∧ x ≤ 5 * k ∧ 0 ≤ y ∧ y ≤ 10 * k ∧ Keep w1 wr) (fun _ _ i _ => dss.length - (intOf i).toNat)
  case atStart => exact ⟨0, 0, 0, Nat.zero_le _, rfl, rfl, rfl, Lib.hid ⟨by simp [lenW], rfl, rfl⟩, by omega, by omega, by omega, Keep.refl _⟩
  case round =>
   obtain ⟨k, x, y, hk, rfl, rfl, rfl, hM, x5, y0, y1, hK⟩ := hrel
   by_cases hlt : k < dss.length
   ·
    rcases rc with h | ⟨b, rfl, hb, hc⟩
    ·
     exfalso; rw [h] at hlt; simp at hlt
    obtain ⟨vi, e1, r1, e2⟩ := hc k hlt
    have hmk := hm k hlt
    clear hc hm
    have HR : Hid (rightsW dss (k + 1) = (rightsW dss k && rightB (dss.getD k []) (takW dss k))) := Lib.hid rfl
    have HV : Hid (evW dss (k + 1) = evW dss k + evK (dss.getD k []) (dss.getD k []).length) := Lib.hid rfl
    have HN : Hid (lenW (dss.take (k + 1)) = lenW (dss.take k) + (dss.getD k []).length) := Lib.hid (by rw [take_moreC dss k [] hlt, lenW_moreC])
    obtain ⟨ds, hds⟩ : ∃ ds, ds = dss.getD k [] := ⟨_, rfl⟩
    rw [← hds] at r1 hmk HR HV HN
    clear hds
    generalize takW dss k = t at e2 HR
    have d1 := (hK.cell hb).trans e1
    have d2 := (hK.cell hb).trans e2
    have r1 := r1.keep hK
    obtain ⟨ai, ci, rfl, -⟩ := id r1
    have hbw : b < wr.heap.size := Nat.lt_of_lt_of_le hb hK.size
    have i1 : (0 : Int) ≤ (k : Int) := Int.natCast_nonneg _
    have i2 : (k : Int) < (dss.length : Int) := by omega
    clear e1 e2
    cases hr : rightB ds t
    ·
     have HE : Hid (workB dss = false) := Lib.hid (by
      rw [HW2.out, rightsW_false (k := k + 1) (by rw [HR.out, hr]; simp) _ hlt]
      rfl)
     have HRR := Lib.hid hr
     clear hr
     go_wp2_with fail
     refine (isRight_any _ _ _ _ (r1.keep ((Keep.refl _).alloc _)) hmk).mono ?_
     rw [HRR.out]
     rintro e wz ⟨rfl, kk⟩
     go_wp2
     go_ret
     exact ⟨by rw [HE.out]; rfl, k1.trans ((hK.alloc _).trans kk)⟩
    ·
     have l5 := rightB_len hr
     have HRR := Lib.hid hr
     have EK := evK_in ds ds.length
     clear hr
     go_wp2_with fail
     refine (isRight_any _ _ _ _ (r1.keep ((Keep.refl _).alloc _)) hmk).mono ?_
     rw [HRR.out]
     rintro e wz ⟨rfl, kk⟩
     have b0 : wz.cell? ⟨wr.heap.size, 0, none⟩ = some (.slice ai ds.length (ds.length + ci)) := box_cell kk 0
     have bs : wr.heap.size < wz.heap.size := box_size kk
     have r2 := r1.keep (((Keep.refl _).alloc _).trans kk)
     have hKz := (hK.alloc (.cells #[.slice ai ds.length (ds.length + ci), .int .i64 t] 72)).trans kk
     clear d1 d2 kk
     go_wp2_with fail
     refine (count_any _ _ _ _).mono ?_
     rintro e w3 ⟨rfl, rfl⟩
     go_wp2_with fail
     refine (events_any _ _ _ r2 hmk).mono ?_
     rintro e w4 ⟨rfl, k4⟩
     have HH : Hid (x + ds.length = lenW (dss.take (k + 1)) ∧ y + evK ds ds.length = evW dss (k + 1) ∧ rightsW dss (k + 1) = true) := Lib.hid ⟨by rw [HN.out, hM.out.1], by rw [HV.out, hM.out.2.1], by rw [HR.out, hM.out.2.2, HRR.out]; rfl⟩
     generalize evK ds ds.length = ev at EK HH
     go_wp2
     go_roundw
     case rel => exact ⟨k + 1, x + ds.length, y + ev, by omega, by go_num, by go_num, by go_num, HH, by omega, by omega, by omega, hKz.trans k4⟩
     case measure => simp [intOf]; omega
   ·
    obtain rfl : k = dss.length := by omega
    rw [List.take_length] at hM
    have HE : Hid (workB dss = (decide (x ≤ 12) && decide (y ≤ 6))) := Lib.hid (by rw [HW2.out, hM.out.2.2, hM.out.1, hM.out.2.1]; rfl)
    clear hM HW2 rc hm
    by_cases h12 : x ≤ 12
    ·
     have e12 : (x : Int) ≤ 12 := by omega
     by_cases h6 : y ≤ 6
     ·
      go_wp2
      go_ret
      exact ⟨by rw [HE.out, decide_eq_true h12, decide_eq_true h6]; rfl, k1.trans hK⟩
     ·
      have e6 : (6 : Int) < y := by omega
      go_wp2
      go_ret
      exact ⟨by rw [HE.out, decide_eq_true h12, decide_eq_false (show ¬ y ≤ 6 by omega)]; rfl, k1.trans hK⟩
    ·
     have e12 : (12 : Int) < (x : Int) := by omega
     go_wp2
     go_ret
     exact ⟨by rw [HE.out, decide_eq_false (show ¬ x ≤ 12 by omega)]; rfl, k1.trans hK⟩
abbrev rdV (p : Int) : Value := .iface 97 (.agg #[.int .i64 p])
abbrev wrV (p v : Int) : Value := .iface 93 (.agg #[.int .i64 p, .int .i64 v])
abbrev evA (x0 x1 : Int) (r : Bool) (x3 x4 x5 : Int) : Value := .agg #[.int .i64 x0, .int .i64 x1, .bool r, .int .i64 x3, .int .i64 x4, .int .i64 x5]
theorem at_rd (p : Int) (w : World) : (method 220 97 (.agg #[.int .i64 p]) "loop.example/g00411/impl.at").run Try.prog w = .ok (91, .agg #[.int .i64 p]) w := by kernel_rfl
theorem at_wr (p v : Int) (w : World) : (method 220 93 (.agg #[.int .i64 p, .int .i64 v]) "loop.example/g00411/impl.at").run Try.prog w = .ok (90, .agg #[.int .i64 p, .int .i64 v]) w := by kernel_rfl
theorem atRd_any (p : Int) (w : World) : Calls Try.prog 91 #[.agg #[.int .i64 p]] w fun e w' => e = .returned (.int .i64 p) ∧ Keep w w' := by
 go_enter Try.func91, Try.ntmps91
 go_wp2
 go_ret
 exact ⟨rfl, (Keep.refl w).alloc _⟩
theorem atWr_any (p v : Int) (w : World) : Calls Try.prog 90 #[.agg #[.int .i64 p, .int .i64 v]] w fun e w' => e = .returned (.int .i64 p) ∧ Keep w w' := by
 go_enter Try.func90, Try.ntmps90
 go_wp2
 go_ret
 exact ⟨rfl, (Keep.refl w).alloc _⟩
theorem as_rd (p : Int) (w : World) : (Instr.typeAssert (rdV p) 78 97 true).run Try.prog w = .ok (.tuple #[.agg #[.int .i64 p], .bool true]) w := by kernel_rfl
theorem as_wr (p v : Int) (w : World) : (Instr.typeAssert (wrV p v) 78 97 true).run Try.prog w = .ok (.tuple #[.agg #[.int .i64 0], .bool false]) w := by kernel_rfl
theorem as_wr2 (p v : Int) (w : World) : (Instr.typeAssert (wrV p v) 78 93 true).run Try.prog w = .ok (.tuple #[.agg #[.int .i64 p, .int .i64 v], .bool true]) w := by kernel_rfl
abbrev put6W (w : World) (B : Nat) (a0 a1 a2 a3 a4 a5 : Value) : World :=
 (((((w.setCell ⟨B, 0, none⟩ a0).setCell ⟨B, 1, none⟩ a1).setCell ⟨B, 2, none⟩ a2).setCell ⟨B, 3, none⟩ a3).setCell ⟨B, 4, none⟩ a4).setCell ⟨B, 5, none⟩ a5
theorem set6 {w : World} {B : Nat} {T : TypeId} {b0 b1 b2 b3 b4 b5 : Value} (h : w.heap[B]? = some (.cells #[b0, b1, b2, b3, b4, b5] T)) (a0 a1 a2 a3 a4 a5 : Value) :
  (put6W w B a0 a1 a2 a3 a4 a5).heap[B]? = some (.cells #[a0, a1, a2, a3, a4, a5] T) := by
 have h0 := heap_setCell_same w B 0 _ _ a0 h
 have h1 := heap_setCell_same _ B 1 _ _ a1 h0
 have h2 := heap_setCell_same _ B 2 _ _ a2 h1
 have h3 := heap_setCell_same _ B 3 _ _ a3 h2
 have h4 := heap_setCell_same _ B 4 _ _ a4 h3
 exact heap_setCell_same _ B 5 _ _ a5 h4
theorem keep1 {w wr : World} (h : Keep w wr) {g : Nat} (hg : w.heap.size ≤ g) (i : Nat) (x : Value) : Keep w (wr.setCell ⟨g, i, none⟩ x) :=
 h.grown (row := some g) ⟨rfl, rfl, rfl, by simp, fun k _ hk => heap_setCell_other wr ⟨g, i, none⟩ k x (fun e => hk (by simp [e]))⟩ (fun k hk => by simp at hk; omega)
theorem keep6 {w wr : World} (h : Keep w wr) (a0 a1 a2 a3 a4 a5 : Value) : Keep w (put6W wr w.heap.size a0 a1 a2 a3 a4 a5) :=
 keep1 (keep1 (keep1 (keep1 (keep1 (keep1 h (Nat.le_refl _) 0 a0) (Nat.le_refl _) 1 a1) (Nat.le_refl _) 2 a2) (Nat.le_refl _) 3 a3) (Nat.le_refl _) 4 a4) (Nat.le_refl _) 5 a5
theorem size6 (w : World) (B : Nat) (a0 a1 a2 a3 a4 a5 : Value) : (put6W w B a0 a1 a2 a3 a4 a5).heap.size = w.heap.size := by simp
set_option maxRecDepth 100000 in
set_option maxHeartbeats 1000000 in
theorem eventOf_rd (p : Int) (w : World) :
  Calls Try.prog 41 #[rdV p] w fun e w' => e = .returned (evA 0 0 true p 0 0) ∧ Keep w w' := by
 have hm := at_rd p
 have ha := as_rd p
 go_enter Try.func41, Try.ntmps41
 go_wp2_with fail
 refine (atRd_any _ _).mono ?_
 rintro e w1 ⟨rfl, k1⟩
 have hb := box_size k1
 have hh := box_heap k1
 have b0 := box_cell k1 0
 have b1 := box_cell k1 1
 have b2 := box_cell k1 2
 have b3 := box_cell k1 3
 have b4 := box_cell k1 4
 have b5 := box_cell k1 5
 have hfr := fun j => frozen_of_row w1 w.heap.size j _ _ (box_heap k1)
 have S := set6 hh (.int .i64 0) (.int .i64 0) (.bool true) (.int .i64 p) (.int .i64 0) (.int .i64 0)
 have K := keep6 (((Keep.refl w).alloc _).trans k1) (.int .i64 0) (.int .i64 0) (.bool true) (.int .i64 p) (.int .i64 0) (.int .i64 0)
 have Z := size6 w1 w.heap.size (.int .i64 0) (.int .i64 0) (.bool true) (.int .i64 p) (.int .i64 0) (.int .i64 0)
 go_wp2
 refine bodyPost_ret (results_row (by rfl) _ _ w.heap.size _ _ _ _ rfl (by rw [heap_at, if_neg (by rw [heap_size, Z]; omega), heap_at, if_neg (by rw [Z]; omega)]; exact S) Try.underlying49 rfl (by kernel_rfl)) rfl ?_
 exact ⟨rfl, (K.alloc _).alloc _⟩
set_option maxRecDepth 100000 in
set_option maxHeartbeats 1000000 in
theorem eventOf_wr (p v : Int) (w : World) :
  Calls Try.prog 41 #[wrV p v] w fun e w' => e = .returned (evA 0 0 false p v 0) ∧ Keep w w' := by
 have hm := at_wr p v
 have ha := as_wr p v
 have hc := as_wr2 p v
 go_enter Try.func41, Try.ntmps41
 go_wp2_with fail
 refine (atWr_any _ _ _).mono ?_
 rintro e w1 ⟨rfl, k1⟩
 have hb := box_size k1
 have hh := box_heap k1
 have b0 := box_cell k1 0
 have b1 := box_cell k1 1
 have b2 := box_cell k1 2
 have b3 := box_cell k1 3
 have b4 := box_cell k1 4
 have b5 := box_cell k1 5
 have hfr := fun j => frozen_of_row w1 w.heap.size j _ _ (box_heap k1)
 have S := set6 hh (.int .i64 0) (.int .i64 0) (.bool false) (.int .i64 p) (.int .i64 v) (.int .i64 0)
 have K := keep6 (((Keep.refl w).alloc _).trans k1) (.int .i64 0) (.int .i64 0) (.bool false) (.int .i64 p) (.int .i64 v) (.int .i64 0)
 have Z := size6 w1 w.heap.size (.int .i64 0) (.int .i64 0) (.bool false) (.int .i64 p) (.int .i64 v) (.int .i64 0)
 go_wp2
 refine bodyPost_ret (results_row (by rfl) _ _ w.heap.size _ _ _ _ rfl (by rw [heap_at, if_neg (by rw [heap_size, Z]; omega), heap_at, if_neg (by rw [Z]; omega)]; exact S) Try.underlying49 rfl (by kernel_rfl)) rfl ?_
 exact ⟨rfl, (K.alloc _).alloc _⟩
structure LP (w0 wr : World) (x : Value) (es : List Ev) (P : List (Nat × Obj)) : Prop where
 app : AppE wr w0.heap.size x es
 keep : Keep w0 wr
 held : ∀ n o, (n, o) ∈ P → x.ownBlock ≠ some n ∧ wr.heap[n]? = some o
theorem LP.more {w0 wr wr' : World} {x : Value} {es : List Ev} {P : List (Nat × Obj)} (h : LP w0 wr x es P) (k : Keep wr wr') : LP w0 wr' x es P :=
 ⟨h.app.keep k, h.keep.trans k, fun n o hn => ⟨(h.held n o hn).1, (Below.block k n (Array.getElem?_eq_some_iff.1 (h.held n o hn).2).1).trans (h.held n o hn).2⟩⟩
theorem LP.add {w0 wr : World} {x : Value} {es : List Ev} {P : List (Nat × Obj)} (h : LP w0 wr x es P) (n : Nat) (o : Obj) (hx : x.ownBlock ≠ some n) (ho : wr.heap[n]? = some o) : LP w0 wr x es ((n, o) :: P) :=
 ⟨h.app, h.keep, fun m q hm => by
  rcases List.mem_cons.1 hm with e | e
  ·
   injection e with e1 e2; subst e1 e2; exact ⟨hx, ho⟩
  ·
   exact h.held m q e⟩
theorem LP.new {w0 wr : World} {x : Value} {es : List Ev} {P : List (Nat × Obj)} (h : LP w0 wr x es P) (o : Obj) : LP w0 (wr.alloc o) x es ((wr.heap.size, o) :: P) :=
 (h.more ((Keep.refl wr).alloc o)).add _ _ (fun e => by have := (h.app.lt _ e).2; omega) (heap_alloc_new wr o)
theorem LP.later {w0 wr wr' : World} {x : Value} {es : List Ev} {P : List (Nat × Obj)} (h : LP w0 wr x es P) (k : Keep wr wr') {B : Nat} {o : Obj} (hB : wr.heap.size ≤ B) (ho : wr'.heap[B]? = some o) : LP w0 wr' x es ((B, o) :: P) :=
 (h.more k).add _ _ (fun e => by have := (h.app.lt _ e).2; omega) ho
theorem LP.less {w0 wr : World} {x : Value} {es : List Ev} {P Q : List (Nat × Obj)} (h : LP w0 wr x es P) (hs : ∀ y, y ∈ Q → y ∈ P) : LP w0 wr x es Q :=
 ⟨h.app, h.keep, fun n o hn => h.held n o (hs _ hn)⟩
theorem LP.hit {w0 wr w' : World} {x v' : Value} {es : List Ev} {P : List (Nat × Obj)} (h : LP w0 wr x es P) (e : Ev)
  (ho : w'.ownsRow w0.heap.size 49 6 v' (es.length + 1) (es.flatMap cE ++ cE e)) (hg : wr.grownBy w' x.ownBlock) (hb : v'.ownBlock = x.ownBlock ∨ v'.ownBlock = some wr.heap.size) : LP w0 w' v' (es ++ [e]) P := by
 refine ⟨appT_hit ho, h.keep.grown hg h.app.ge, fun n o hn => ?_⟩
 obtain ⟨h1, h2⟩ := h.held n o hn
 have hlt := (Array.getElem?_eq_some_iff.1 h2).1
 refine ⟨fun e => ?_, (hg.block n hlt (fun e => h1 e.symm)).trans h2⟩
 rcases hb with hb | hb
 ·
  exact h1 (hb ▸ e)
 ·
  rw [hb] at e; have := Option.some.inj e; omega
theorem LP.lt {w0 wr : World} {x : Value} {es : List Ev} {P : List (Nat × Obj)} (h : LP w0 wr x es P) {n : Nat} {o : Obj} (hn : (n, o) ∈ P) : n < wr.heap.size := (Array.getElem?_eq_some_iff.1 (h.held n o hn).2).1
theorem LP.cell {w0 wr : World} {x : Value} {es : List Ev} {P : List (Nat × Obj)} (h : LP w0 wr x es P) {n : Nat} {cs : Array Value} {t : TypeId} (hn : (n, .cells cs t) ∈ P) (i : Nat) : wr.cell? ⟨n, i, none⟩ = cs[i]? :=
 cell_of_row wr n i cs t (0, 0) (h.held n _ hn).2
theorem app_base {w : World} {base base' : Nat} {v : Value} {es : List Ev} (h : AppE w base v es) (hb : base' ≤ base) : AppE w base' v es := by
 refine ⟨h.1, ?_⟩
 rcases h.2 with h | ⟨g, cap, cur, hv, hg, rest⟩
 ·
  exact .inl h
 ·
  exact .inr ⟨g, cap, cur, hv, Nat.le_trans hb hg, rest⟩
abbrev eO (i k : Int) (r : Bool) (p v c : Int) : Obj := .cells #[.int .i64 i, .int .i64 k, .bool r, .int .i64 p, .int .i64 v, .int .i64 c] 49
theorem cE_oneP (e : Ev) : ∀ u ∈ cE e, u.oneCell' = true := by
 intro u hu
 simp only [cE, List.mem_cons, List.not_mem_nil, or_false] at hu
 rcases hu with rfl | rfl | rfl | rfl | rfl | rfl <;> rfl
theorem cE_newP (w : World) (n : Nat) (hn : w.heap.size = n) (i q : Int) (r : Bool) (pl vl c : Int) : ∀ j u, (cE (i, q, r, pl, vl, c))[j]? = some u → (w.alloc (eO i q r pl vl c)).cell? ((⟨n, 0, none⟩ : Addr).add j) = some u := by
 subst hn
 intro j u hj
 match j, hj with
 | 0, hj => simp [cE] at hj; subst hj; simp [Addr.add]
 | 1, hj => simp [cE] at hj; subst hj; simp [Addr.add]
 | 2, hj => simp [cE] at hj; subst hj; simp [Addr.add]
 | 3, hj => simp [cE] at hj; subst hj; simp [Addr.add]
 | 4, hj => simp [cE] at hj; subst hj; simp [Addr.add]
 | 5, hj => simp [cE] at hj; subst hj; simp [Addr.add]
set_option maxRecDepth 100000 in
set_option maxHeartbeats 2000000 in
theorem beginnings_any (w : World) :
  Calls Try.prog 36 #[] w fun e w' => ∃ v', e = .returned v' ∧ AppE w' w.heap.size v' evBeg ∧ Keep w w' := by
 obtain ⟨j0, hj, hy0, hy1, hy2⟩ := info_parts Try.infoE
 have A0 : AppE (w.alloc (.cells #[] 49)) w.heap.size (.slice (some ⟨w.heap.size, 0, none⟩) 0 0) [] := appT_empty w
 go_enter Try.func36, Try.ntmps36
 go_wp2
 go_loopw [1, 5] (fun v i wr => ∃ k : Nat, ∃ m : Int, ∃ es : List Ev, k ≤ 3 ∧ i = .int .i64 m ∧ m = (k : Int) ∧ Hid (es = evBeg.take k) ∧ es.length ≤ k ∧ LP w wr v es []) (fun _ i _ => 3 - (intOf i).toNat)
 case atStart => exact ⟨0, 0, [], Nat.zero_le _, rfl, rfl, Lib.hid rfl, Nat.le_refl _, A0, (Keep.refl _).alloc _, by simp⟩
 case round =>
  obtain ⟨k, m, es, hk, rfl, hm, hE, hel, hL⟩ := hrel
  clear A0
  by_cases hlt : k < 3
  ·
   subst hm
   have HM : Hid (es ++ [((-1 : Int), (-1 : Int), false, (k : Int), 0, (k : Int))] = evBeg.take (k + 1)) := Lib.hid (by
    rw [hE.out]
    have : k = 0 ∨ k = 1 ∨ k = 2 := by omega
    rcases this with rfl | rfl | rfl <;> rfl)
   clear hE
   go_wp2_with fail
   refine (eventOf_wr _ _ _).mono ?_
   rintro e w2 ⟨rfl, k2⟩
   have L2 := hL.more k2
   have hsz := L2.keep.size
   have L3 := (L2.more ((Keep.refl w2).alloc (eO (-1) (-1) false k 0 k))).more ((Keep.refl _).alloc (eO (-1) (-1) false k 0 k))
   go_wp2_with (at_builtin; refine wpList_append_own_at _ rfl _ _ 38 rfl w.heap.size 49 j0 (.agg #[.int .i64 0, .int .i64 0, .bool false, .int .i64 0, .int .i64 0, .int .i64 0]) 6 48 Try.underlying38 hj hy0 hy1 hy2 rfl (by decide) _ _ _ rfl L3.app ⟨_, 0, none⟩ 1 1 (cE ((-1 : Int), (-1 : Int), false, (k : Int), 0, (k : Int))) rfl rfl ?c1 ?c2 ?c3 ?c4 ?c5 ?_)
   case c1 => exact cE_newP _ _ (heap_size _ _) _ _ _ _ _ _
   case c2 => exact cE_oneP _
   case c3 => unfold maxLen; omega
   case c4 => omega
   case c5 => simp; omega
   intro v' w1 hown' hgrow _ hblk
   have L4 := L3.hit _ hown' hgrow (by rw [heap_size, heap_size]; exact hblk)
   clear hgrow hown' hblk L3 L2 hL
   go_wp2
   go_roundw
   case rel => exact ⟨k + 1, _, _, by omega, rfl, by omega, HM, by simp; omega, L4⟩
   case measure => simp [intOf]; omega
  obtain rfl : m = 3 := by omega
  have HB : Hid (es = evBeg) := Lib.hid (by rw [hE.out, show k = 3 by omega]; rfl)
  clear hE hm
  go_wp2
  go_ret
  exact ⟨_, rfl, by rw [← HB.out]; exact hL.app, hL.keep⟩
def Shp (w w' : World) (e : Ending) (vs : Array Value) : Prop :=
 ∃ B, e = .returned (.slice (some ⟨B, 0, none⟩) vs.size vs.size) ∧ w'.heap[B]? = some (.cells vs 78) ∧ w.heap.size ≤ B ∧ Keep w w'
set_option maxHeartbeats 1000000 in
theorem shapes_rd (p v g : Int) (w : World) : Calls Try.prog 40 #[deedV 1 p v g] w fun e w' => Shp w w' e #[rdV p] := by
 go_enter Try.func40, Try.ntmps40
 go_wp2
 go_ret
 exact ⟨w.heap.size + 1, rfl, by rw [heap_at, if_pos (heap_size w _).symm], by omega, ((Keep.refl w).alloc _).alloc _⟩
set_option maxHeartbeats 1000000 in
theorem shapes_wr (p v g : Int) (w : World) : Calls Try.prog 40 #[deedV 2 p v g] w fun e w' => Shp w w' e #[wrV p v] := by
 go_enter Try.func40, Try.ntmps40
 go_wp2
 go_ret
 exact ⟨w.heap.size + 1, rfl, by rw [heap_at, if_pos (heap_size w _).symm], by omega, ((Keep.refl w).alloc _).alloc _⟩
set_option maxHeartbeats 1000000 in
theorem shapes_sw (p v g : Int) (w : World) : Calls Try.prog 40 #[deedV 3 p v g] w fun e w' => Shp w w' e #[rdV p, wrV p v] := by
 go_enter Try.func40, Try.ntmps40
 go_wp2
 go_ret
 exact ⟨w.heap.size + 1, rfl, by rw [heap_at, if_pos (heap_size w _).symm], by omega, ((Keep.refl w).alloc _).alloc _⟩
set_option maxHeartbeats 1000000 in
theorem shapes_wa (p v g : Int) (w : World) : Calls Try.prog 40 #[deedV 4 p v g] w fun e w' => Shp w w' e #[] := by
 go_enter Try.func40, Try.ntmps40
 go_wp2
 go_ret
 exact ⟨w.heap.size + 1, rfl, by rw [heap_at, if_pos (heap_size w _).symm], by omega, ((Keep.refl w).alloc _).alloc _⟩
set_option maxRecDepth 100000 in
set_option maxHeartbeats 2000000 in
theorem goesOn_any (w : World) (v : Value) (ds : List Dd) (h : RdD w v ds) (k : Nat) (hk : k < ds.length) (hx : ds.length ≤ 1048576) :
  Calls Try.prog 39 #[v, .int .i64 k] w fun e w' => e = .returned (.bool (goB ds k)) ∧ Keep w w' := by
 obtain ⟨a, c, rfl, h⟩ := h
 rcases h with h | ⟨b, o, rfl, hb, hc⟩
 ·
  exfalso; rw [h] at hk; simp at hk
 have A3 := (hc k hk).2.2.2
 have i1 : (0 : Int) ≤ (k : Int) := Int.natCast_nonneg _
 have i2 : (k : Int) < (ds.length : Int) := by omega
 have HP : Hid (goB ds k = (decide (0 < k) && ((ds.getD k zD).2.2.2 != 0) && ((ds.getD k zD).2.2.2 == (ds.getD (k - 1) zD).2.2.2))) := Lib.hid rfl
 by_cases h0 : k = 0
 ·
  have HT : Hid (goB ds k = false) := Lib.hid (by rw [HP.out]; simp [h0])
  have d0 : decide (0 < k) = false := by simp [h0]
  generalize (ds.getD k zD).2.2.2 = x3 at A3
  clear HP hc h0
  go_enter Try.func39, Try.ntmps39
  go_wp2
  go_quiet (fail)
  go_wp2
  go_ret
  exact ⟨by rw [HT.out]; rfl, (Keep.refl w).drewN _⟩
 ·
  obtain ⟨r, rfl⟩ : ∃ r : Nat, k = r + 1 := ⟨k - 1, by omega⟩
  rw [Nat.add_sub_cancel] at HP
  have B3 := (hc r (by omega)).2.2.2
  clear hc h0
  have j1 : (0 : Int) ≤ (r : Int) := Int.natCast_nonneg _
  have j2 : (r : Int) < (ds.length : Int) := by omega
  have d2 : (r : Int) + 1 < (ds.length : Int) := by omega
  have d6 : (0 : Int) ≤ (r : Int) + 1 := by omega
  have d3 : IntKind.i64.wrap (r : Int) = (r : Int) := by rw [IntKind.wrap_i64]; omega
  have d4 : wrap64 (r : Int) = (r : Int) := wrap64_small _ (by omega) (by omega)
  generalize (ds.getD (r + 1) zD).2.2.2 = x3 at A3 HP
  generalize (ds.getD r zD).2.2.2 = y3 at B3 HP
  by_cases e0 : x3 = 0
  ·
   have HT : Hid (goB ds (r + 1) = false) := Lib.hid (by rw [HP.out]; simp [e0])
   have q0 : (x3 != 0) = false := by simp [e0]
   clear HP e0
   go_enter Try.func39, Try.ntmps39
   go_wp2
   go_quiet (fail)
   go_wp2
   go_ret
   exact ⟨by rw [HT.out]; rfl, (Keep.refl w).drewN _⟩
  ·
   have q0 : (x3 != 0) = true := by simp [e0]
   have q1 : (decide (0 < r + 1)) = true := by simp
   have HT : Hid (goB ds (r + 1) = (x3 == y3)) := Lib.hid (by rw [HP.out, q0, q1]; simp)
   clear HP e0 q1
   go_enter Try.func39, Try.ntmps39
   go_wp2
   go_quiet (fail)
   go_wp2
   go_ret
   exact ⟨by rw [HT.out]; rfl, (Keep.refl w).drewN _⟩
set_option maxHeartbeats 1000000 in
theorem nextClass_any (w : World) (v : Value) (es : List Ev) (h : RdE w v es) (hx : es.length ≤ 1048576) (h1 : 1 ≤ es.length) (go : Bool) :
  Calls Try.prog 38 #[v, .bool go] w fun e w' => e = .returned (.int .i64 (ncE es go)) ∧ Keep w w' := by
 obtain ⟨a, c, rfl, h⟩ := h
 rcases h with h | ⟨b, o, rfl, hb, hc⟩
 ·
  exfalso; rw [h] at h1; simp at h1
 cases go
 ·
  have HT : Hid (ncE es false = (es.length : Int)) := Lib.hid (by simp [ncE])
  go_enter Try.func38, Try.ntmps38
  go_wp2
  go_ret
  exact ⟨by rw [HT.out]; rfl, Keep.refl w⟩
 ·
  obtain ⟨m, hm⟩ : ∃ m, es.length = m + 1 := ⟨es.length - 1, by omega⟩
  have AT := hc m _ (evs_get (by omega))
  have HT : Hid (ncE es true = csE (es.getD m zE)) := Lib.hid (by simp [ncE, lastC, hm])
  generalize es.getD m zE = e at AT HT
  obtain ⟨x0, x1, x2, x3, x4, x5⟩ := e
  obtain ⟨-, -, -, -, -, A5⟩ := atE AT
  clear AT hc
  rw [hm]
  have j1 : (0 : Int) ≤ (m : Int) := Int.natCast_nonneg _
  have d3 : IntKind.i64.wrap (m : Int) = (m : Int) := by rw [IntKind.wrap_i64]; omega
  have d4 : wrap64 (m : Int) = (m : Int) := wrap64_small _ (by omega) (by omega)
  clear hm
  go_enter Try.func38, Try.ntmps38
  go_wp2
  go_ret
  exact ⟨by rw [HT.out]; rfl, Keep.refl w⟩
theorem workB_useE {dss : List (List Dd)} (h : workB dss = true) : 1 ≤ dss.length ∧ dss.length ≤ 3 ∧ ∀ i, i < dss.length → okL (dss.getD i []) = true := by
 simp only [workB, Bool.and_eq_true, decide_eq_true_eq] at h
 obtain ⟨⟨⟨⟨h1, h2⟩, _⟩, _⟩, _⟩ := h
 exact ⟨h1.1, h1.2, fun i hi => all_get [] h2 i hi⟩
abbrev cO (v : Value) (t : Int) : Obj := .cells #[v, .int .i64 t] 72
abbrev dO (k p v g : Int) : Obj := .cells #[.int .i64 k, .int .i64 p, .int .i64 v, .int .i64 g] 62
set_option maxRecDepth 100000 in
set_option maxHeartbeats 8000000 in
theorem implEventsOf_any (w : World) (v : Value) (dss : List (List Dd)) (h : RdW w v dss) (hx : dss.length ≤ 1048576) (hm : ∀ i, i < dss.length → (dss.getD i []).length ≤ 1048576) :
  Calls Try.prog 20 #[v] w fun e w' => ∃ v', e = .returned v' ∧ AppE w' w.heap.size v' (eventsB dss) ∧ Keep w w' := by
 cases hb : workB dss
 ·
  have HE : Hid (eventsB dss = []) := Lib.hid (by rw [eventsB, hb]; rfl)
  have O : ∀ w1 : World, Keep w w1 → AppE (w1.alloc (.cells #[] 49)) w.heap.size (.slice (some ⟨w1.heap.size, 0, none⟩) 0 0) [] := fun w1 k1 => World.ownsRow_lit w1 #[] 0 k1.size (by decide) (by simp)
  go_enter Try.func20, Try.ntmps20
  go_wp2_with fail
  refine (implWorkOk_any _ _ _ h hx hm).mono ?_
  rintro e w1 ⟨rfl, k1⟩
  go_wp2
  go_ret
  exact ⟨_, rfl, by rw [HE.out]; exact O w1 k1, k1.alloc _⟩
 ·
  obtain ⟨h1, h3, u2⟩ := workB_useE hb
  have HE : Hid (eventsB dss = evsP dss dss.length) := Lib.hid (by rw [eventsB, if_pos hb, (evsP_same hb dss.length (Nat.le_refl _)).1])
  obtain ⟨j0, hj, hy0, hy1, hy2⟩ := info_parts Try.infoE
  go_enter Try.func20, Try.ntmps20
  go_wp2_with fail
  refine (implWorkOk_any _ _ _ h hx hm).mono ?_
  rintro e w0 ⟨rfl, k0⟩
  go_wp2_with fail
  refine (beginnings_any _).mono ?_
  rintro e w1 ⟨x1, rfl, a1, k1⟩
  go_wp2_with fail
  refine (clerksOf_at w _ (k0.trans k1) _ _ h h1 h3 hm).mono ?_
  rintro e w2 ⟨v2, rfl, rc, k2⟩
  have K01 : Keep w0 w2 := k1.trans k2
  have hsz0 := k0.size
  clear hb h hm hx
  obtain ⟨b, c1, V, rfl, hbl, hbu, hc⟩ := rc
  have HR : ∀ i, i < dss.length → RdD w (V i) (dss.getD i []) := fun i hi => (hc i hi).1
  obtain ⟨ob, hob⟩ : ∃ ob, w2.heap[b]? = some ob := ⟨_, Array.getElem?_eq_getElem hbu⟩
  have HC : ∀ wq : World, wq.heap[b]? = some ob → ∀ i, i < dss.length → wq.cell? ⟨b, i * 2, none⟩ = some (V i) ∧ wq.cell? ⟨b, i * 2 + 1, none⟩ = some (.int .i64 (takW dss i)) := fun wq hq i hi => by
   have e : wq.heap[b]? = w2.heap[b]? := hq.trans hob.symm
   have f : ∀ j, wq.cell? ⟨b, j, none⟩ = w2.cell? ⟨b, j, none⟩ := fun j => by simp only [World.cell?, e]
   exact ⟨(f _).trans (hc i hi).2.1, (f _).trans (hc i hi).2.2⟩
  clear hc
  have L0 : LP w0 w2 x1 evBeg [(b, ob)] := LP.add ⟨a1.keep k2, K01, by simp⟩ b ob (fun e => by have := (a1.lt _ e).2; omega) hob
  clear a1 hob hbl
  go_wp2
  go_loopw [3, 20] (fun x i wr => ∃ k : Nat, ∃ es : List Ev, k ≤ dss.length ∧ i = .int .i64 k ∧ Hid (es = evsP dss k) ∧ 1 ≤ es.length ∧ es.length ≤ 3 + 10 * k ∧ LP w0 wr x es [(b, ob)]) (fun _ i _ => dss.length - (intOf i).toNat)
  case atStart => exact ⟨0, evBeg, Nat.zero_le _, rfl, Lib.hid rfl, by decide, by decide, L0⟩
  case round =>
   clear L0 K01 k2 hbu
   obtain ⟨k, es, hk, rfl, hE, he1, hel, hL⟩ := hrel
   by_cases hlt : k < dss.length
   ·
    have r1 := HR k hlt
    have hKw : Keep w wr := k0.trans hL.keep
    obtain ⟨d1, d2⟩ := HC wr (hL.held b ob (by simp)).2 k hlt
    have hbw := hL.lt (n := b) (o := ob) (by simp)
    have okk := u2 k hlt
    have HV : Hid (evsP dss (k + 1) = clkP k (dss.getD k []) es (dss.getD k []).length) := Lib.hid (by rw [evsP, hE.out])
    obtain ⟨ds, hds⟩ : ∃ ds, ds = dss.getD k [] := ⟨_, rfl⟩
    rw [← hds] at r1 okk HV
    clear hds
    generalize takW dss k = t at d2
    obtain ⟨u, hu⟩ : ∃ u, u = V k := ⟨_, rfl⟩
    rw [← hu] at d1 r1
    clear hu
    have R1 := r1
    obtain ⟨ai, ci, rfl, r1⟩ := r1
    have hl5 : ds.length ≤ 5 := by simp [okL] at okk; omega
    have i1 : (0 : Int) ≤ (k : Int) := Int.natCast_nonneg _
    have i2 : (k : Int) < (dss.length : Int) := by omega
    obtain ⟨wo, hwo⟩ : ∃ wo : World, wo = wr := ⟨_, rfl⟩
    subst hwo
    have L1 := hL.new (cO (.slice ai ds.length (ds.length + ci)) t)
    go_wp2
    go_loopw [3, 28] (fun x i wq => ∃ q : Nat, ∃ evs : List Ev, q ≤ ds.length ∧ i = .int .i64 q ∧ Hid (evs = clkP k ds es q) ∧ 1 ≤ evs.length ∧ evs.length ≤ 3 + 10 * k + 2 * q ∧ LP w0 wq x evs [(wo.heap.size, cO (.slice ai ds.length (ds.length + ci)) t), (b, ob)]) (fun _ i _ => ds.length - (intOf i).toNat)
    case atStart => exact ⟨0, es, Nat.zero_le _, rfl, Lib.hid rfl, he1, by omega, L1⟩
    case round =>
     clear L1 d1 d2
     obtain ⟨q, evs, hq, rfl, hC, hv1, hev, hI⟩ := hrel
     by_cases hlq : q < ds.length
     ·
      have hKq : Keep w wr := k0.trans hI.keep
      have R2 := R1.keep hKq
      rcases r1 with h | ⟨b2, o2, rfl, hb2, hc2⟩
      ·
       exfalso; rw [h] at hlq; simp at hlq
      have AT := (hc2 q hlq).keep hb2 hKq
      have okq : okD (ds.getD q zD) = true := by
       simp only [okL, Bool.and_eq_true] at okk
       exact all_get zD okk.1 q hlq
      clear hc2 okk
      have hb3 : b2 < wr.heap.size := Nat.lt_of_lt_of_le hb2 hKq.size
      have HST : Hid (clkP k ds es (q + 1) = evs ++ oneE k q (ds.getD q zD) (ncE evs (goB ds q))) := Lib.hid (by rw [clkP, hC.out])
      clear hC
      obtain ⟨d, hd⟩ : ∃ d, d = ds.getD q zD := ⟨_, rfl⟩
      rw [← hd] at AT okq HST
      clear hd
      have KD := okD_kindE okq
      obtain ⟨x0, x1, x2, x3⟩ := d
      obtain ⟨A0, A1, A2, A3⟩ := AT
      simp only at A0 A1 A2 A3 KD
      have j1 : (0 : Int) ≤ (q : Int) := Int.natCast_nonneg _
      have j2 : (q : Int) < (ds.length : Int) := by omega
      have z5 := hI.lt (n := wo.heap.size) (o := cO (.slice (some ⟨b2, o2, none⟩) ds.length (ds.length + ci)) t) (by simp)
      have c5 : wr.cell? ⟨wo.heap.size, 0, none⟩ = some (.slice (some ⟨b2, o2, none⟩) ds.length (ds.length + ci)) := (hI.held wo.heap.size (cO (.slice (some ⟨b2, o2, none⟩) ds.length (ds.length + ci)) t) (by simp)) |>.2 |> fun h => cell_of_row wr _ 0 _ _ (0, 0) h
      clear okq
      rcases KD with rfl | rfl | rfl | rfl
      ·
       have HS : Hid (clkP k ds es (q + 1) = evs ++ oneE k q (1, x1, x2, x3) (ncE evs (goB ds q))) := HST
       clear HST
       have L2 := hI.new (dO 1 x1 x2 x3)
       have K2 : Keep wr (wr.alloc (dO 1 x1 x2 x3)) := (Keep.refl wr).alloc _
       have R3 := R2.keep K2
       go_wp2_with fail
       refine (goesOn_any _ _ _ R3 q hlq (by omega)).mono ?_
       rintro e w3 ⟨rfl, k3⟩
       have L3 := L2.more k3
       go_wp2_with fail
       refine (nextClass_any _ _ _ L3.app.rd (by omega) hv1 _).mono ?_
       generalize goB ds q = go at HS
       generalize hcl : ncE evs go = cl at HS
       clear hcl
       rintro e w4 ⟨rfl, k4⟩
       have L4 := L3.more k4
       have z7 := L4.lt (n := wr.heap.size) (o := dO 1 x1 x2 x3) (by simp)
       have s0 : w4.cell? ⟨wr.heap.size, 0, none⟩ = some (.int .i64 1) := L4.cell (n := wr.heap.size) (cs := #[.int .i64 1, .int .i64 x1, .int .i64 x2, .int .i64 x3]) (t := 62) (by simp) 0
       have s1 : w4.cell? ⟨wr.heap.size, 1, none⟩ = some (.int .i64 x1) := L4.cell (n := wr.heap.size) (cs := #[.int .i64 1, .int .i64 x1, .int .i64 x2, .int .i64 x3]) (t := 62) (by simp) 1
       have s2 : w4.cell? ⟨wr.heap.size, 2, none⟩ = some (.int .i64 x2) := L4.cell (n := wr.heap.size) (cs := #[.int .i64 1, .int .i64 x1, .int .i64 x2, .int .i64 x3]) (t := 62) (by simp) 2
       have s3 : w4.cell? ⟨wr.heap.size, 3, none⟩ = some (.int .i64 x3) := L4.cell (n := wr.heap.size) (cs := #[.int .i64 1, .int .i64 x1, .int .i64 x2, .int .i64 x3]) (t := 62) (by simp) 3
       clear A0 A1 A2 A3 c5 L2 L3 R3 K2
       go_wp2_with fail
       refine (shapes_rd _ _ _ _).mono ?_
       rintro e w5 ⟨B, rfl, hB, hBl, k5⟩
       have L5 := L4.later k5 hBl hB
       clear L4 s0 s1 s2 s3 z7 hI
       have z8 := L5.lt (n := B) (o := .cells #[rdV x1] 78) (by simp)
       have c6 : w5.cell? ⟨B, 0, none⟩ = some (rdV x1) := L5.cell (n := B) (cs := #[rdV x1]) (t := 78) (by simp) 0
       go_wp2
       refine wp_loop_rounds 2 ?_
       rw [rounds_succ]
       go_wp2_with fail
       refine (eventOf_rd _ _).mono ?_
       rintro e wa0 ⟨rfl, ka0⟩
       have La0 := L5.more ka0
       have Lb0 := (La0.more ((Keep.refl wa0).alloc (eO k q true x1 0 cl))).more ((Keep.refl _).alloc (eO k q true x1 0 cl))
       have hs0 : w0.heap.size ≤ wa0.heap.size := La0.keep.size
       go_wp2_with (at_builtin; refine wpList_append_own_at _ rfl _ _ 38 rfl w0.heap.size 49 j0 (.agg #[.int .i64 0, .int .i64 0, .bool false, .int .i64 0, .int .i64 0, .int .i64 0]) 6 48 Try.underlying38 hj hy0 hy1 hy2 rfl (by decide) _ _ _ rfl Lb0.app ⟨_, 0, none⟩ 1 1 (cE ((k : Int), (q : Int), true, x1, 0, cl)) rfl rfl ?c1_0 ?c2_0 ?c3_0 ?c4_0 ?c5_0 ?_)
       case c1_0 => exact cE_newP _ _ (heap_size _ _) _ _ _ _ _ _
       case c2_0 => exact cE_oneP _
       case c3_0 => unfold maxLen; first | omega | (simp; omega)
       case c4_0 => first | omega | (simp; omega)
       case c5_0 => first | omega | (simp; omega)
       intro v0' wb0 hown' hgrow _ hblk
       have Lc0 := Lb0.hit _ hown' hgrow (by rw [heap_size, heap_size]; exact hblk)
       clear hgrow hown' hblk Lb0 La0 L5
       go_wp2
       rw [rounds_succ]
       go_wp2
       go_roundw
       case rel => exact ⟨q + 1, _, by omega, by go_num, Lib.hid (by rw [HS.out]; simp [oneE]), by first | omega | (simp <;> omega), by first | omega | (simp <;> omega), Lc0.less (fun y hy => by simp only [List.mem_cons, List.not_mem_nil, or_false] at hy ⊢; rcases hy with rfl | rfl <;> simp)⟩
       case measure => simp [intOf]; omega
      ·
       have HS : Hid (clkP k ds es (q + 1) = evs ++ oneE k q (2, x1, x2, x3) (ncE evs (goB ds q))) := HST
       clear HST
       have L2 := hI.new (dO 2 x1 x2 x3)
       have K2 : Keep wr (wr.alloc (dO 2 x1 x2 x3)) := (Keep.refl wr).alloc _
       have R3 := R2.keep K2
       go_wp2_with fail
       refine (goesOn_any _ _ _ R3 q hlq (by omega)).mono ?_
       rintro e w3 ⟨rfl, k3⟩
       have L3 := L2.more k3
       go_wp2_with fail
       refine (nextClass_any _ _ _ L3.app.rd (by omega) hv1 _).mono ?_
       generalize goB ds q = go at HS
       generalize hcl : ncE evs go = cl at HS
       clear hcl
       rintro e w4 ⟨rfl, k4⟩
       have L4 := L3.more k4
       have z7 := L4.lt (n := wr.heap.size) (o := dO 2 x1 x2 x3) (by simp)
       have s0 : w4.cell? ⟨wr.heap.size, 0, none⟩ = some (.int .i64 2) := L4.cell (n := wr.heap.size) (cs := #[.int .i64 2, .int .i64 x1, .int .i64 x2, .int .i64 x3]) (t := 62) (by simp) 0
       have s1 : w4.cell? ⟨wr.heap.size, 1, none⟩ = some (.int .i64 x1) := L4.cell (n := wr.heap.size) (cs := #[.int .i64 2, .int .i64 x1, .int .i64 x2, .int .i64 x3]) (t := 62) (by simp) 1
       have s2 : w4.cell? ⟨wr.heap.size, 2, none⟩ = some (.int .i64 x2) := L4.cell (n := wr.heap.size) (cs := #[.int .i64 2, .int .i64 x1, .int .i64 x2, .int .i64 x3]) (t := 62) (by simp) 2
       have s3 : w4.cell? ⟨wr.heap.size, 3, none⟩ = some (.int .i64 x3) := L4.cell (n := wr.heap.size) (cs := #[.int .i64 2, .int .i64 x1, .int .i64 x2, .int .i64 x3]) (t := 62) (by simp) 3
       clear A0 A1 A2 A3 c5 L2 L3 R3 K2
       go_wp2_with fail
       refine (shapes_wr _ _ _ _).mono ?_
       rintro e w5 ⟨B, rfl, hB, hBl, k5⟩
       have L5 := L4.later k5 hBl hB
       clear L4 s0 s1 s2 s3 z7 hI
       have z8 := L5.lt (n := B) (o := .cells #[wrV x1 x2] 78) (by simp)
       have c6 : w5.cell? ⟨B, 0, none⟩ = some (wrV x1 x2) := L5.cell (n := B) (cs := #[wrV x1 x2]) (t := 78) (by simp) 0
       go_wp2
       refine wp_loop_rounds 2 ?_
       rw [rounds_succ]
       go_wp2_with fail
       refine (eventOf_wr _ _ _).mono ?_
       rintro e wa0 ⟨rfl, ka0⟩
       have La0 := L5.more ka0
       have Lb0 := (La0.more ((Keep.refl wa0).alloc (eO k q false x1 x2 cl))).more ((Keep.refl _).alloc (eO k q false x1 x2 cl))
       have hs0 : w0.heap.size ≤ wa0.heap.size := La0.keep.size
       go_wp2_with (at_builtin; refine wpList_append_own_at _ rfl _ _ 38 rfl w0.heap.size 49 j0 (.agg #[.int .i64 0, .int .i64 0, .bool false, .int .i64 0, .int .i64 0, .int .i64 0]) 6 48 Try.underlying38 hj hy0 hy1 hy2 rfl (by decide) _ _ _ rfl Lb0.app ⟨_, 0, none⟩ 1 1 (cE ((k : Int), (q : Int), false, x1, x2, cl)) rfl rfl ?c1_0 ?c2_0 ?c3_0 ?c4_0 ?c5_0 ?_)
       case c1_0 => exact cE_newP _ _ (heap_size _ _) _ _ _ _ _ _
       case c2_0 => exact cE_oneP _
       case c3_0 => unfold maxLen; first | omega | (simp; omega)
       case c4_0 => first | omega | (simp; omega)
       case c5_0 => first | omega | (simp; omega)
       intro v0' wb0 hown' hgrow _ hblk
       have Lc0 := Lb0.hit _ hown' hgrow (by rw [heap_size, heap_size]; exact hblk)
       clear hgrow hown' hblk Lb0 La0 L5
       go_wp2
       rw [rounds_succ]
       go_wp2
       go_roundw
       case rel => exact ⟨q + 1, _, by omega, by go_num, Lib.hid (by rw [HS.out]; simp [oneE]), by first | omega | (simp <;> omega), by first | omega | (simp <;> omega), Lc0.less (fun y hy => by simp only [List.mem_cons, List.not_mem_nil, or_false] at hy ⊢; rcases hy with rfl | rfl <;> simp)⟩
       case measure => simp [intOf]; omega
      ·
       have HS : Hid (clkP k ds es (q + 1) = evs ++ oneE k q (3, x1, x2, x3) (ncE evs (goB ds q))) := HST
       clear HST
       have L2 := hI.new (dO 3 x1 x2 x3)
       have K2 : Keep wr (wr.alloc (dO 3 x1 x2 x3)) := (Keep.refl wr).alloc _
       have R3 := R2.keep K2
       go_wp2_with fail
       refine (goesOn_any _ _ _ R3 q hlq (by omega)).mono ?_
       rintro e w3 ⟨rfl, k3⟩
       have L3 := L2.more k3
       go_wp2_with fail
       refine (nextClass_any _ _ _ L3.app.rd (by omega) hv1 _).mono ?_
       generalize goB ds q = go at HS
       generalize hcl : ncE evs go = cl at HS
       clear hcl
       rintro e w4 ⟨rfl, k4⟩
       have L4 := L3.more k4
       have z7 := L4.lt (n := wr.heap.size) (o := dO 3 x1 x2 x3) (by simp)
       have s0 : w4.cell? ⟨wr.heap.size, 0, none⟩ = some (.int .i64 3) := L4.cell (n := wr.heap.size) (cs := #[.int .i64 3, .int .i64 x1, .int .i64 x2, .int .i64 x3]) (t := 62) (by simp) 0
       have s1 : w4.cell? ⟨wr.heap.size, 1, none⟩ = some (.int .i64 x1) := L4.cell (n := wr.heap.size) (cs := #[.int .i64 3, .int .i64 x1, .int .i64 x2, .int .i64 x3]) (t := 62) (by simp) 1
       have s2 : w4.cell? ⟨wr.heap.size, 2, none⟩ = some (.int .i64 x2) := L4.cell (n := wr.heap.size) (cs := #[.int .i64 3, .int .i64 x1, .int .i64 x2, .int .i64 x3]) (t := 62) (by simp) 2
       have s3 : w4.cell? ⟨wr.heap.size, 3, none⟩ = some (.int .i64 x3) := L4.cell (n := wr.heap.size) (cs := #[.int .i64 3, .int .i64 x1, .int .i64 x2, .int .i64 x3]) (t := 62) (by simp) 3
       clear A0 A1 A2 A3 c5 L2 L3 R3 K2
       go_wp2_with fail
       refine (shapes_sw _ _ _ _).mono ?_
       rintro e w5 ⟨B, rfl, hB, hBl, k5⟩
       have L5 := L4.later k5 hBl hB
       clear L4 s0 s1 s2 s3 z7 hI
       have z8 := L5.lt (n := B) (o := .cells #[rdV x1, wrV x1 x2] 78) (by simp)
       have c6 : w5.cell? ⟨B, 0, none⟩ = some (rdV x1) := L5.cell (n := B) (cs := #[rdV x1, wrV x1 x2]) (t := 78) (by simp) 0
       have c7 : w5.cell? ⟨B, 1, none⟩ = some (wrV x1 x2) := L5.cell (n := B) (cs := #[rdV x1, wrV x1 x2]) (t := 78) (by simp) 1
       go_wp2
       refine wp_loop_rounds 3 ?_
       rw [rounds_succ]
       go_wp2_with fail
       refine (eventOf_rd _ _).mono ?_
       rintro e wa0 ⟨rfl, ka0⟩
       have La0 := L5.more ka0
       have Lb0 := (La0.more ((Keep.refl wa0).alloc (eO k q true x1 0 cl))).more ((Keep.refl _).alloc (eO k q true x1 0 cl))
       have hs0 : w0.heap.size ≤ wa0.heap.size := La0.keep.size
       go_wp2_with (at_builtin; refine wpList_append_own_at _ rfl _ _ 38 rfl w0.heap.size 49 j0 (.agg #[.int .i64 0, .int .i64 0, .bool false, .int .i64 0, .int .i64 0, .int .i64 0]) 6 48 Try.underlying38 hj hy0 hy1 hy2 rfl (by decide) _ _ _ rfl Lb0.app ⟨_, 0, none⟩ 1 1 (cE ((k : Int), (q : Int), true, x1, 0, cl)) rfl rfl ?c1_0 ?c2_0 ?c3_0 ?c4_0 ?c5_0 ?_)
       case c1_0 => exact cE_newP _ _ (heap_size _ _) _ _ _ _ _ _
       case c2_0 => exact cE_oneP _
       case c3_0 => unfold maxLen; first | omega | (simp; omega)
       case c4_0 => first | omega | (simp; omega)
       case c5_0 => first | omega | (simp; omega)
       intro v0' wb0 hown' hgrow _ hblk
       have Lc0 := Lb0.hit _ hown' hgrow (by rw [heap_size, heap_size]; exact hblk)
       clear hgrow hown' hblk Lb0 La0 L5
       obtain ⟨ev1, hev1⟩ : ∃ ev1, ev1 = evs ++ [((k : Int), (q : Int), true, x1, 0, cl)] := ⟨_, rfl⟩
       rw [← hev1] at Lc0
       have HV1 := Lib.hid hev1
       have hl1 : ev1.length ≤ evs.length + 1 := by rw [hev1]; simp
       clear hev1
       clear c6 c7 z8
       have z8 := Lc0.lt (n := B) (o := .cells #[rdV x1, wrV x1 x2] 78) (by simp)
       have c7 : wb0.cell? ⟨B, 1, none⟩ = some (wrV x1 x2) := Lc0.cell (n := B) (cs := #[rdV x1, wrV x1 x2]) (t := 78) (by simp) 1
       go_wp2
       rw [rounds_succ]
       go_wp2_with fail
       refine (eventOf_wr _ _ _).mono ?_
       rintro e wa1 ⟨rfl, ka1⟩
       have La1 := Lc0.more ka1
       have Lb1 := (La1.more ((Keep.refl wa1).alloc (eO k q false x1 x2 cl))).more ((Keep.refl _).alloc (eO k q false x1 x2 cl))
       have hs1 : w0.heap.size ≤ wa1.heap.size := La1.keep.size
       go_wp2_with (at_builtin; refine wpList_append_own_at _ rfl _ _ 38 rfl w0.heap.size 49 j0 (.agg #[.int .i64 0, .int .i64 0, .bool false, .int .i64 0, .int .i64 0, .int .i64 0]) 6 48 Try.underlying38 hj hy0 hy1 hy2 rfl (by decide) _ _ _ rfl Lb1.app ⟨_, 0, none⟩ 1 1 (cE ((k : Int), (q : Int), false, x1, x2, cl)) rfl rfl ?c1_1 ?c2_1 ?c3_1 ?c4_1 ?c5_1 ?_)
       case c1_1 => exact cE_newP _ _ (heap_size _ _) _ _ _ _ _ _
       case c2_1 => exact cE_oneP _
       case c3_1 => unfold maxLen; first | omega | (simp; omega)
       case c4_1 => first | omega | (simp; omega)
       case c5_1 => first | omega | (simp; omega)
       intro v1' wb1 hown' hgrow _ hblk
       have Lc1 := Lb1.hit _ hown' hgrow (by rw [heap_size, heap_size]; exact hblk)
       clear hgrow hown' hblk Lb1 La1 Lc0
       go_wp2
       rw [rounds_succ]
       go_wp2
       go_roundw
       case rel => exact ⟨q + 1, _, by omega, by go_num, Lib.hid (by rw [HS.out, HV1.out]; simp [oneE]), by first | omega | (simp <;> omega), by first | omega | (simp <;> omega), Lc1.less (fun y hy => by simp only [List.mem_cons, List.not_mem_nil, or_false] at hy ⊢; rcases hy with rfl | rfl <;> simp)⟩
       case measure => simp [intOf]; omega
      ·
       have HS : Hid (clkP k ds es (q + 1) = evs ++ oneE k q (4, x1, x2, x3) (ncE evs (goB ds q))) := HST
       clear HST
       have L2 := hI.new (dO 4 x1 x2 x3)
       have K2 : Keep wr (wr.alloc (dO 4 x1 x2 x3)) := (Keep.refl wr).alloc _
       have R3 := R2.keep K2
       go_wp2_with fail
       refine (goesOn_any _ _ _ R3 q hlq (by omega)).mono ?_
       rintro e w3 ⟨rfl, k3⟩
       have L3 := L2.more k3
       go_wp2_with fail
       refine (nextClass_any _ _ _ L3.app.rd (by omega) hv1 _).mono ?_
       generalize goB ds q = go at HS
       generalize hcl : ncE evs go = cl at HS
       clear hcl
       rintro e w4 ⟨rfl, k4⟩
       have L4 := L3.more k4
       have z7 := L4.lt (n := wr.heap.size) (o := dO 4 x1 x2 x3) (by simp)
       have s0 : w4.cell? ⟨wr.heap.size, 0, none⟩ = some (.int .i64 4) := L4.cell (n := wr.heap.size) (cs := #[.int .i64 4, .int .i64 x1, .int .i64 x2, .int .i64 x3]) (t := 62) (by simp) 0
       have s1 : w4.cell? ⟨wr.heap.size, 1, none⟩ = some (.int .i64 x1) := L4.cell (n := wr.heap.size) (cs := #[.int .i64 4, .int .i64 x1, .int .i64 x2, .int .i64 x3]) (t := 62) (by simp) 1
       have s2 : w4.cell? ⟨wr.heap.size, 2, none⟩ = some (.int .i64 x2) := L4.cell (n := wr.heap.size) (cs := #[.int .i64 4, .int .i64 x1, .int .i64 x2, .int .i64 x3]) (t := 62) (by simp) 2
       have s3 : w4.cell? ⟨wr.heap.size, 3, none⟩ = some (.int .i64 x3) := L4.cell (n := wr.heap.size) (cs := #[.int .i64 4, .int .i64 x1, .int .i64 x2, .int .i64 x3]) (t := 62) (by simp) 3
       clear A0 A1 A2 A3 c5 L2 L3 R3 K2
       go_wp2_with fail
       refine (shapes_wa _ _ _ _).mono ?_
       rintro e w5 ⟨B, rfl, hB, hBl, k5⟩
       have L5 := L4.later k5 hBl hB
       clear L4 s0 s1 s2 s3 z7 hI
       have z8 := L5.lt (n := B) (o := .cells #[] 78) (by simp)
       go_wp2
       refine wp_loop_rounds 1 ?_
       rw [rounds_succ]
       go_wp2
       go_roundw
       case rel => exact ⟨q + 1, _, by omega, by go_num, Lib.hid (by rw [HS.out]; simp [oneE]), by first | omega | (simp <;> omega), by first | omega | (simp <;> omega), L5.less (fun y hy => by simp only [List.mem_cons, List.not_mem_nil, or_false] at hy ⊢; rcases hy with rfl | rfl <;> simp)⟩
       case measure => simp [intOf]; omega
     ·
      obtain rfl : q = ds.length := by omega
      go_wp2
      go_roundw
      case rel => exact ⟨k + 1, evs, by omega, by go_num, Lib.hid (by rw [HV.out]; exact hC.out), hv1, by omega, hI.less (fun y hy => by simp only [List.mem_cons, List.not_mem_nil, or_false] at hy ⊢; subst hy; simp)⟩
      case measure => simp [intOf]; omega
   ·
    obtain rfl : k = dss.length := by omega
    go_wp2
    go_ret
    exact ⟨_, rfl, by rw [HE.out, ← hE.out]; exact app_base hL.app hsz0, k0.trans hL.keep⟩
theorem Try.infoD : (Try.prog.info? 62).map (fun i => (i.zero, i.size, i.bytes)) = some (some (.agg #[.int .i64 0, .int .i64 0, .int .i64 0, .int .i64 0]), 4, 32) := by kernel_rfl
def Blk (w : World) (g n : Nat) : Prop := ∃ cur t, w.heap[g]? = some (.cells cur t (0, 0)) ∧ n ≤ cur.size
theorem Blk.free {w : World} {g n : Nat} (h : Blk w g n) (i : Nat) : w.frozen? ⟨g, i, none⟩ = false := by
 obtain ⟨cur, t, h, _⟩ := h
 exact frozen_of_row w g i cur t h
theorem Blk.cell {w : World} {g n : Nat} (h : Blk w g n) {i : Nat} (hi : i < n) : ∃ u, w.cell? ⟨g, i, none⟩ = some u := by
 obtain ⟨cur, t, h, hn⟩ := h
 exact ⟨cur[i]'(by omega), by rw [cell_of_row w g i cur t (0, 0) h, Array.getElem?_eq_getElem (by omega)]⟩
theorem Blk.lt {w : World} {g n : Nat} (h : Blk w g n) : g < w.heap.size := by
 obtain ⟨cur, t, h, _⟩ := h
 exact (Array.getElem?_eq_some_iff.1 h).1
theorem Blk.set {w : World} {g n : Nat} (h : Blk w g n) (i : Nat) (x : Value) : Blk (w.setCell ⟨g, i, none⟩ x) g n := by
 obtain ⟨cur, t, h, hn⟩ := h
 exact ⟨cur.setIfInBounds i x, t, heap_setCell_same w g i cur t x h, by simpa using hn⟩
theorem Blk.kept {w w' : World} {g n : Nat} {row : Option Nat} (h : Blk w g n) (hg : w.grownBy w' row) (hne : row ≠ some g) : Blk w' g n := by
 have hl := h.lt
 obtain ⟨cur, t, h, hn⟩ := h
 exact ⟨cur, t, (hg.block g hl (fun e => hne e.symm)).trans h, hn⟩
def OwnD (w : World) (base : Nat) (v : Value) (ds : List Dd) : Prop :=
 ∃ (a : Option Addr) (cap : Nat), v = .slice a ds.length (ds.length + cap) ∧ (ds = [] ∨ ∃ g, a = some ⟨g, 0, none⟩ ∧ base ≤ g ∧ Blk w g (ds.length * 4) ∧ ∀ i, i < ds.length → AtD w g (i * 4) (ds.getD i zD))
theorem OwnD.rd {w : World} {base : Nat} {v : Value} {ds : List Dd} (h : OwnD w base v ds) : RdD w v ds := by
 obtain ⟨a, cap, hv, h⟩ := h
 refine ⟨a, cap, hv, ?_⟩
 rcases h with h | ⟨g, ha, _, hb, hc⟩
 ·
  exact .inl h
 ·
  exact .inr ⟨g, 0, ha, hb.lt, fun i hi => by rw [Nat.zero_add]; exact hc i hi⟩
theorem putD {w : World} {g o : Nat} {d : Dd} {b' o' : Nat} {d' : Dd} (h : AtD w b' o' d') (hne : b' ≠ g ∨ o' + 4 ≤ o ∨ o + 4 ≤ o') :
  AtD ((((w.setCell ⟨g, o, none⟩ (.int .i64 d.1)).setCell ⟨g, o + 1, none⟩ (.int .i64 d.2.1)).setCell ⟨g, o + 2, none⟩ (.int .i64 d.2.2.1)).setCell ⟨g, o + 3, none⟩ (.int .i64 d.2.2.2)) b' o' d' := by
 have key : ∀ (w : World) (j : Nat) (x : Value) (q : Nat), q < o' + 4 → o' ≤ q → o ≤ j → j < o + 4 → (w.setCell ⟨g, j, none⟩ x).cell? ⟨b', q, none⟩ = w.cell? ⟨b', q, none⟩ := by
  intro w j x q h1 h2 h3 h4
  refine World.cell?_setCell_other _ _ _ _ (fun e => ?_)
  have e1 : g = b' ∧ j = q := by simpa using e
  omega
 unfold AtD at *
 refine ⟨?_, ?_, ?_, ?_⟩
 all_goals
  rw [key _ _ _ _ (by omega) (by omega) (by omega) (by omega), key _ _ _ _ (by omega) (by omega) (by omega) (by omega), key _ _ _ _ (by omega) (by omega) (by omega) (by omega), key _ _ _ _ (by omega) (by omega) (by omega) (by omega)]
 ·
  exact h.1
 ·
  exact h.2.1
 ·
  exact h.2.2.1
 ·
  exact h.2.2.2
theorem putD_same {w : World} {g o n : Nat} {d : Dd} (hb : Blk w g n) (ho : o + 4 ≤ n) :
  AtD ((((w.setCell ⟨g, o, none⟩ (.int .i64 d.1)).setCell ⟨g, o + 1, none⟩ (.int .i64 d.2.1)).setCell ⟨g, o + 2, none⟩ (.int .i64 d.2.2.1)).setCell ⟨g, o + 3, none⟩ (.int .i64 d.2.2.2)) g o d := by
 have oth : ∀ (w : World) (j q : Nat) (x : Value), j ≠ q → (w.setCell ⟨g, j, none⟩ x).cell? ⟨g, q, none⟩ = w.cell? ⟨g, q, none⟩ := by
  intro w j q x h
  exact World.cell?_setCell_other _ _ _ _ (by intro e; apply h; injection e)
 have h1 := hb.set o (.int .i64 d.1)
 have h2 := h1.set (o + 1) (.int .i64 d.2.1)
 have h3 := h2.set (o + 2) (.int .i64 d.2.2.1)
 obtain ⟨u0, e0⟩ := hb.cell (show o < n by omega)
 obtain ⟨u1, e1⟩ := h1.cell (show o + 1 < n by omega)
 obtain ⟨u2, e2⟩ := h2.cell (show o + 2 < n by omega)
 obtain ⟨u3, e3⟩ := h3.cell (show o + 3 < n by omega)
 refine ⟨?_, ?_, ?_, ?_⟩
 ·
  rw [oth _ _ _ _ (by omega), oth _ _ _ _ (by omega), oth _ _ _ _ (by omega), World.cell?_setCell_same _ _ _ e0]
 ·
  rw [oth _ _ _ _ (by omega), oth _ _ _ _ (by omega), World.cell?_setCell_same _ _ _ e1]
 ·
  rw [oth _ _ _ _ (by omega), World.cell?_setCell_same _ _ _ e2]
 ·
  rw [World.cell?_setCell_same _ _ _ e3]
theorem Blk.ofOwn {w : World} {base e size g n : Nat} {xs : List Value} (h : w.ownsRow base e size (.slice (some ⟨g, 0, none⟩) n n) n xs) : Blk w g (n * size) := by
 rcases h.2 with ⟨hv, _⟩ | ⟨g', cap, cur, hv, _, hg, _, _, hs, _⟩
 ·
  cases hv
 ·
  simp only [Value.slice.injEq, Option.some.injEq, Addr.mk.injEq, and_true, true_and] at hv
  obtain ⟨rfl, rfl⟩ := hv
  exact ⟨cur, e, hg, by rw [hs]; exact Nat.le_refl _⟩
theorem OwnD.keep {w w' : World} {base : Nat} {v : Value} {ds : List Dd} (h : OwnD w base v ds) (k : Keep w w') : OwnD w' base v ds := by
 obtain ⟨a, cap, hv, h⟩ := h
 refine ⟨a, cap, hv, ?_⟩
 rcases h with h | ⟨g, ha, hb, hB, hc⟩
 ·
  exact .inl h
 ·
  exact .inr ⟨g, ha, hb, hB.kept k.grownBy (by simp), fun i hi => (hc i hi).keep hB.lt k⟩
theorem OwnD.kept {w w' : World} {base : Nat} {v : Value} {ds : List Dd} {row : Option Nat} (h : OwnD w base v ds) (hg : w.grownBy w' row) (hne : ds = [] ∨ v.ownBlock ≠ row) : OwnD w' base v ds := by
 obtain ⟨a, cap, rfl, h⟩ := h
 refine ⟨a, cap, rfl, ?_⟩
 rcases h with h | ⟨g, rfl, hb, hB, hc⟩
 ·
  exact .inl h
 ·
  rcases hne with hne | hne
  ·
   exact .inl hne
  ·
   have hne' : row ≠ some g := fun e => hne (by simp [Value.ownBlock, e])
   have hcell : ∀ j, w'.cell? ⟨g, j, none⟩ = w.cell? ⟨g, j, none⟩ := fun j => World.cell?_of_block (w := w) (hg.block g hB.lt (fun e => hne' e.symm))
   exact .inr ⟨g, rfl, hb, hB.kept hg hne', fun i hi => ⟨(hcell _).trans (hc i hi).1, (hcell _).trans (hc i hi).2.1, (hcell _).trans (hc i hi).2.2.1, (hcell _).trans (hc i hi).2.2.2⟩⟩
theorem OwnD.mono {w : World} {base base' : Nat} {v : Value} {ds : List Dd} (h : OwnD w base v ds) (hb : base' ≤ base) : OwnD w base' v ds := by
 obtain ⟨a, cap, hv, h⟩ := h
 refine ⟨a, cap, hv, ?_⟩
 rcases h with h | ⟨g, ha, hg, rest⟩
 ·
  exact .inl h
 ·
  exact .inr ⟨g, ha, Nat.le_trans hb hg, rest⟩
theorem OwnD.block {w : World} {base : Nat} {v : Value} {ds : List Dd} (h : OwnD w base v ds) (hne : ds ≠ []) : ∃ g, v.ownBlock = some g ∧ base ≤ g ∧ g < w.heap.size := by
 obtain ⟨a, cap, rfl, h⟩ := h
 rcases h with h | ⟨g, rfl, hb, hB, _⟩
 ·
  exact absurd h hne
 ·
  exact ⟨g, rfl, hb, hB.lt⟩
def Apart (g n : Nat) (V : Nat → Value) (D : Nat → List Dd) : Prop :=
 (∀ i, i < n → D i ≠ [] → (V i).ownBlock ≠ some g) ∧ ∀ i j, i < j → j < n → D i ≠ [] → D j ≠ [] → (V i).ownBlock ≠ (V j).ownBlock
def OwnW (w : World) (base : Nat) (v : Value) (dss : List (List Dd)) : Prop :=
 ∃ (a : Option Addr) (cap : Nat), v = .slice a dss.length cap ∧ (dss = [] ∨ ∃ (g : Nat) (V : Nat → Value), a = some ⟨g, 0, none⟩ ∧ base ≤ g ∧ Blk w g dss.length ∧
  (∀ i, i < dss.length → w.cell? ⟨g, i, none⟩ = some (V i) ∧ OwnD w base (V i) (dss.getD i [])) ∧ Apart g dss.length V (fun i => dss.getD i []))
theorem OwnW.rd {w : World} {base : Nat} {v : Value} {dss : List (List Dd)} (h : OwnW w base v dss) : RdW w v dss := by
 obtain ⟨a, cap, hv, h⟩ := h
 refine ⟨a, cap, hv, ?_⟩
 rcases h with h | ⟨g, V, ha, _, hb, hc, _⟩
 ·
  exact .inl h
 ·
  exact .inr ⟨g, 0, ha, hb.lt, fun i hi => ⟨V i, by rw [Nat.zero_add]; exact (hc i hi).1, (hc i hi).2.rd⟩⟩
theorem Try.infoDS : (Try.prog.info? 40).map (fun i => (i.zero, i.size, i.bytes)) = some (some (.slice none 0 0), 1, 24) := by kernel_rfl
theorem grown_put (w : World) (g j : Nat) (v : Value) : w.grownBy (w.setCell ⟨g, j, none⟩ v) (some g) :=
 ⟨rfl, rfl, rfl, by simp, fun k _ hk => heap_setCell_other w ⟨g, j, none⟩ k v (fun e => hk (by simp [e]))⟩
def mkD (k : Int) (i : Nat) : Dd := (k + 4 * i, k + 4 * i + 1, k + 4 * i + 1 + 1, k + 4 * i + 1 + 1 + 1)
def mksD (k : Int) (n : Nat) : List Dd := (List.range n).map (mkD k)
theorem mksD_len (k : Int) (n : Nat) : (mksD k n).length = n := by simp [mksD]
theorem mksD_get (k : Int) (n i : Nat) (h : i < n) : (mksD k n).getD i zD = mkD k i := range_getD _ _ _ _ h
def ownO (v : Value) (ds : List Dd) : Option Nat := if ds = [] then none else v.ownBlock
theorem cell_same {w w' : World} {b : Nat} (h : w'.heap[b]? = w.heap[b]?) (o : Nat) : w'.cell? ⟨b, o, none⟩ = w.cell? ⟨b, o, none⟩ := by
 simp only [World.cell?, h]
theorem AtD.same {w w' : World} {b o : Nat} {d : Dd} (h : AtD w b o d) (hh : w'.heap[b]? = w.heap[b]?) : AtD w' b o d :=
 ⟨(cell_same hh _).trans h.1, (cell_same hh _).trans h.2.1, (cell_same hh _).trans h.2.2.1, (cell_same hh _).trans h.2.2.2⟩
theorem Blk.same {w w' : World} {g n : Nat} (h : Blk w g n) (hh : w'.heap[g]? = w.heap[g]?) : Blk w' g n := by
 obtain ⟨cur, t, h, hn⟩ := h
 exact ⟨cur, t, hh.trans h, hn⟩
theorem OwnD.same {w w' : World} {base : Nat} {v : Value} {ds : List Dd} (h : OwnD w base v ds) (hh : ∀ g, ownO v ds = some g → g < w.heap.size → base ≤ g → w'.heap[g]? = w.heap[g]?) : OwnD w' base v ds := by
 obtain ⟨a, cap, rfl, h⟩ := h
 refine ⟨a, cap, rfl, ?_⟩
 rcases h with h | ⟨g, rfl, hb, hB, hA⟩
 ·
  exact .inl h
 ·
  by_cases h0 : ds = []
  ·
   exact .inl h0
  ·
   have e := hh g (by rw [ownO, if_neg h0]; rfl) hB.lt hb
   exact .inr ⟨g, rfl, hb, hB.same e, fun i hi => (hA i hi).same e⟩
structure Only (lo hi : Nat) (w w' : World) : Prop where
 os : w'.os = w.os
 tape : w'.tape = w.tape
 output : w'.output = w.output
 size : w.heap.size ≤ w'.heap.size
 block : ∀ b, b < w.heap.size → (b < lo ∨ hi ≤ b) → w'.heap[b]? = w.heap[b]?
theorem Only.refl (lo hi : Nat) (w : World) : Only lo hi w w := ⟨rfl, rfl, rfl, Nat.le_refl _, fun _ _ _ => rfl⟩
theorem Only.grown {lo hi : Nat} {a w w' : World} {row : Option Nat} (h : Only lo hi a w) (hg : w.grownBy w' row) (hr : ∀ k, row = some k → lo ≤ k ∧ k < hi) : Only lo hi a w' :=
 ⟨hg.os.trans h.os, hg.tape.trans h.tape, hg.output.trans h.output, Nat.le_trans h.size hg.size, fun b hb ho => (hg.block b (Nat.lt_of_lt_of_le hb h.size) (fun e => by have := hr b e.symm; omega)).trans (h.block b hb ho)⟩
theorem Keep.only {a w w' : World} {lo hi : Nat} (h : Keep a w) (k : Only lo hi w w') (hl : a.heap.size ≤ lo) : Keep a w' :=
 ⟨k.os.trans (Below.os h), k.tape.trans (Below.tape h), k.output.trans (Below.output h), Nat.le_trans (Below.size h) k.size, fun b hb => (k.block b (Nat.lt_of_lt_of_le hb h.size) (.inl (Nat.lt_of_lt_of_le hb hl))).trans (Below.block h b hb)⟩
theorem OwnW.only {w w' : World} {base lo hi : Nat} {v : Value} {dss : List (List Dd)} (h : OwnW w base v dss) (k : Only lo hi w w') (hb : hi ≤ base) : OwnW w' base v dss := by
 obtain ⟨a, cap, rfl, h⟩ := h
 refine ⟨a, cap, rfl, ?_⟩
 rcases h with h | ⟨g, V, rfl, hg, hB, hc, hA⟩
 ·
  exact .inl h
 ·
  have e := k.block g hB.lt (.inr (Nat.le_trans hb hg))
  exact .inr ⟨g, V, rfl, hg, hB.same e, fun i hi => ⟨(cell_same e _).trans (hc i hi).1, (hc i hi).2.same (fun b _ hlt hbb => k.block b hlt (.inr (Nat.le_trans hb hbb)))⟩, hA⟩
theorem OwnW.base_le {w : World} {base base' : Nat} {v : Value} {dss : List (List Dd)} (h : OwnW w base v dss) (hb : base' ≤ base) : OwnW w base' v dss := by
 obtain ⟨a, cap, hv, h⟩ := h
 refine ⟨a, cap, hv, ?_⟩
 rcases h with h | ⟨g, V, ha, hg, hB, hc, hA⟩
 ·
  exact .inl h
 ·
  exact .inr ⟨g, V, ha, Nat.le_trans hb hg, hB, fun i hi => ⟨(hc i hi).1, (hc i hi).2.mono hb⟩, hA⟩
def mksW (k : Int) : List (List Dd) → List (List Dd)
 | [] => []
 | d :: r => mksD k d.length :: mksW (k + 4 * d.length) r
theorem mksW_len (k : Int) (dss : List (List Dd)) : (mksW k dss).length = dss.length := by
 induction dss generalizing k with
 | nil => rfl
 | cons d r ih => simp [mksW, ih]
theorem mksW_get (k : Int) : ∀ (dss : List (List Dd)) (i : Nat), i < dss.length → (mksW k dss).getD i [] = mksD (k + 4 * (lenW (dss.take i) : Nat)) (dss.getD i []).length
 | [], i, h => by simp at h
 | d :: r, 0, h => by simp [mksW, lenW]
 | d :: r, i + 1, h => by
  have ih := mksW_get (k + 4 * d.length) r i (by simpa using h)
  simp only [mksW, List.getD_cons_succ, List.take_succ_cons, lenW] at ih ⊢
  rw [ih]
  congr 1
  omega
theorem lenW_snocM (d : List Dd) : ∀ l : List (List Dd), lenW (l ++ [d]) = lenW l + d.length
 | [] => by simp [lenW]
 | x :: r => by rw [List.cons_append, lenW, lenW, lenW_snocM d r]; omega
theorem take_moreM {α : Type} (l : List α) (k : Nat) (z : α) (h : k < l.length) : l.take (k + 1) = l.take k ++ [l.getD k z] := by
 rw [List.take_add_one, List.getElem?_eq_getElem h, List.getD_eq_getElem?_getD, List.getElem?_eq_getElem h]
 rfl
theorem lenW_take_le (dss : List (List Dd)) : ∀ i, i ≤ dss.length → lenW (dss.take i) ≤ lenW dss := by
 induction dss with
 | nil => intro i _; simp
 | cons d r ih =>
  intro i hi
  cases i with
  | zero => simp [lenW]
  | succ i => simp only [List.take_succ_cons, lenW]; have := ih i (by simpa using hi); omega
theorem lenW_one (dss : List (List Dd)) (i : Nat) (h : i < dss.length) : lenW (dss.take i) + (dss.getD i []).length ≤ lenW dss := by
 have := lenW_take_le dss (i + 1) h
 rw [take_moreM dss i [] h, lenW_snocM] at this
 exact this
theorem mksD_nil {k : Int} {n : Nat} : mksD k n = [] ↔ n = 0 := by
 constructor
 ·
  intro h; have := mksD_len k n; rw [h] at this; simpa using this.symm
 ·
  rintro rfl; rfl
theorem eventsB_len9 (dss : List (List Dd)) : (eventsB dss).length ≤ 9 := by
 unfold eventsB
 split
 ·
  rename_i h
  simp only [workB, Bool.and_eq_true, decide_eq_true_eq] at h
  obtain ⟨⟨⟨⟨_, h2⟩, _⟩, h4⟩, _⟩ := h
  have := evsW_len (fun i hi => all_get [] h2 i hi) dss.length (Nat.le_refl _)
  omega
 ·
  simp
set_option maxRecDepth 100000 in
set_option maxHeartbeats 2000000 in
theorem implSourceOk_any (w : World) (v vf : Value) (dss : List (List Dd)) (f : List Int) (h : RdW w v dss) (hf : Rd w vf f) (hx : dss.length ≤ 1048576) (hm : ∀ i, i < dss.length → (dss.getD i []).length ≤ 1048576) (hfl : f.length ≤ 1048576) :
  Calls Try.prog 33 #[v, vf] w fun e w' => e = .returned (.bool (sourceB dss f)) ∧ Keep w w' := by
 have h12 : (eventsB dss).length ≤ 12 := by have := eventsB_len9 dss; omega
 obtain ⟨cl1, cl2⟩ := chc_len h12
 go_enter Try.func33, Try.ntmps33
 go_wp2_with fail
 refine (implEventsOf_any _ _ _ h hx hm).mono ?_
 rintro e w2 ⟨v2, rfl, a2, k2⟩
 go_wp2_with fail
 refine (choicesOf_any _ _ _ a2.rd h12).mono ?_
 rintro e w3 ⟨v3, rfl, rp, k3⟩
 have K3 := k2.trans k3
 have rc := rp.rdl (Nat.le_refl _)
 have hf3 := hf.keep K3
 have HE : Hid (sourceB dss f = (workB dss && srcB (chcL (eventsB dss)) f)) := Lib.hid rfl
 generalize chcL (eventsB dss) = c at rc HE cl1 cl2
 obtain ⟨ac, cc, rfl, -⟩ := id rc
 obtain ⟨af, cf, rfl, -⟩ := id hf3
 go_wp2_with fail
 refine (implWorkOk_any _ _ _ (h.keep K3) hx hm).mono ?_
 rintro e w4 ⟨rfl, k4⟩
 have K4 := K3.trans k4
 have hf4 := hf3.keep k4
 have rc4 := rc.keep k4
 clear h a2 k2 k3 rp rc hf hf3 K3 k4 hx hm h12
 cases hb : workB dss
 ·
  have HN : Hid (sourceB dss f = false) := Lib.hid (by rw [HE.out, hb]; rfl)
  go_wp2
  go_ret
  exact ⟨by rw [HN.out]; rfl, K4⟩
 have HE2 : Hid (sourceB dss f = srcB c f) := Lib.hid (by rw [HE.out, hb]; rfl)
 clear HE
 by_cases hl : c.length = f.length
 ·
  have hlb : ((f.length : Int) != (c.length : Int)) = false := by simp [hl]
  have l1 : f.length ≤ c.length := by omega
  have l2 : c.length ≤ f.length := by omega
  have HS : Hid (srcB c f = srcK c f f.length) := Lib.hid (by unfold srcB; simp [hl])
  clear hl
  go_wp2
  go_loopw [23] (fun i wr => ∃ k : Nat, k ≤ f.length ∧ i = .int .i64 k ∧ Hid (srcK c f k = true) ∧ Keep w4 wr) (fun i _ => f.length - (intOf i).toNat)
  case atStart => exact ⟨0, Nat.zero_le _, rfl, Lib.hid rfl, Keep.refl _⟩
  case round =>
   obtain ⟨k, hk, rfl, hS, hK⟩ := hrel
   by_cases hlt : k < f.length
   ·
    have rck := rc4.keep hK
    have hfk := hf4.keep hK
    obtain ⟨a', c', he', rck⟩ := rck
    simp only [Value.slice.injEq, true_and] at he'
    obtain ⟨rfl, rfl⟩ := he'
    rcases rck with h | ⟨b, o, rfl, hbb, hc⟩
    ·
     exfalso; rw [h] at l1; simp only [List.length_nil] at l1; omega
    obtain ⟨a', c', he', hfk⟩ := hfk
    simp only [Value.slice.injEq, true_and] at he'
    obtain ⟨rfl, rfl⟩ := he'
    rcases hfk with h | ⟨b2, o2, rfl, hb2, hc2⟩
    ·
     exfalso; rw [h] at hlt; simp at hlt
    obtain ⟨vi, d1, r2⟩ := hc k (by omega)
    have d2 := hc2 k hlt
    have ck := cl2 k (by omega)
    clear hc hc2
    have HB : Hid (srcK c f (k + 1) = (srcK c f k && isB (c.getD k []) (f.getD k 0))) := Lib.hid rfl
    generalize f.getD k 0 = n at d2 HB
    generalize c.getD k [] = zs at r2 ck HB
    obtain ⟨az, cz, rfl, -⟩ := id r2
    have i1 : (0 : Int) ≤ (k : Int) := Int.natCast_nonneg _
    have i2 : (k : Int) < (c.length : Int) := by omega
    have i3 : (k : Int) < (f.length : Int) := by omega
    cases hi : isB zs n
    ·
     have HN : Hid (srcK c f f.length = false) := Lib.hid (srcK_false (k := k + 1) (by rw [HB.out, hi, Bool.and_false]) _ hlt)
     have CI := contains_any wr _ zs r2 (by omega) n
     rw [hi] at CI
     go_wp2_with fail
     refine CI.mono ?_
     rintro e w5 ⟨rfl, rfl⟩
     go_wp2
     go_ret
     exact ⟨by rw [HE2.out, HS.out, HN.out]; rfl, K4.trans hK⟩
    ·
     have HN : Hid (srcK c f (k + 1) = true) := Lib.hid (by rw [HB.out, hi, hS.out]; rfl)
     have CI := contains_any wr _ zs r2 (by omega) n
     rw [hi] at CI
     go_wp2_with fail
     refine CI.mono ?_
     rintro e w5 ⟨rfl, rfl⟩
     go_wp2
     go_roundw
     case rel => exact ⟨k + 1, by omega, by go_num, HN, hK⟩
     case measure => simp [intOf]; omega
   ·
    obtain rfl : k = f.length := by omega
    go_wp2
    go_ret
    exact ⟨by rw [HE2.out, HS.out, hS.out]; rfl, K4.trans hK⟩
 ·
  have hlb : ((f.length : Int) != (c.length : Int)) = true := by simp; omega
  have HS : Hid (srcB c f = false) := Lib.hid (by unfold srcB; simp [hl])
  clear hl
  go_wp2
  go_ret
  exact ⟨by rw [HE2.out, HS.out]; rfl, K4⟩
theorem take_zeros (n : Nat) (h : n ≤ 12) : (List.replicate 12 (Value.int .i64 0)).take n = (List.replicate n (0 : Int)).map (Value.int .i64) := by
 rw [List.take_replicate, List.map_replicate, Nat.min_eq_left h]
set_option maxHeartbeats 400000 in
theorem blank_any (w : World) (n : Nat) (hn : n ≤ 12) :
  Calls Try.prog 24 #[.int .i64 n] w fun e w' => e = .returned (.slice (some ⟨w.heap.size, 0, none⟩) n n) ∧ RowAt w' w.heap.size (List.replicate n 0) ∧ Keep w w' := by
 have i1 : (0 : Int) ≤ (n : Int) := Int.natCast_nonneg _
 have i2 : (n : Int) ≤ 12 := by omega
 have i3 : (n : Int) ≤ (n : Int) := Int.le_refl _
 go_enter Try.func24, Try.ntmps24
 go_wp2
 go_ret
 refine ⟨?_, ⟨_, _, heap_alloc_new w _, ?_⟩, (Keep.refl w).alloc _⟩
 ·
  rfl
 ·
  rw [List.length_replicate]; exact take_zeros n hn
set_option maxHeartbeats 400000 in
theorem line_any (w : World) (g n cap : Nat) (st : List Int) (j : Nat) (i : Int) (hr : RowAt w g st) (hn : st.length = n) (hj : j < n) :
  Calls Try.prog 25 #[.slice (some ⟨g, 0, none⟩) n cap, .int .i64 j, .int .i64 i] w fun e w' => e = .returned (.tuple #[]) ∧ RowAt w' g (st.set j (gAdd (st.getD j 0) i)) ∧ w.grownBy w' (some g) := by
 have d1 := hr.cell (j := j) (by omega)
 have d2 := hr.free j
 have hs := hr.set j (gAdd (st.getD j 0) i)
 generalize st.getD j 0 = x at *
 have hG := grown_set w g j (.int .i64 (gAdd x i))
 go_enter Try.func25, Try.ntmps25
 go_wp2_with fail
 refine (with_any _ _ _).mono ?_
 rintro e w' ⟨rfl, rfl⟩
 go_wp2
 go_end0
 exact ⟨rfl, hs, hG⟩
end Go.Proofs.Ytkbkdlaknmgjpaa
