/- Contract of the program's WritesTo: a new list of numbers. (Written by mknum.py.) -/
import Derived.Test.YtabafnfadophhaaNumPlain
import Derived.Test.YtabafnfadophhaaRow
import Derived.Outline
import Derived.BigRegion
import Derived.RegionTactic
import Derived.Deep.RegionHeld3
import Derived.Deep.QuietTactic
import Derived.BigQuiet
import Derived.Lib.Hide
namespace Go.Proofs.Ytabafnfadophhaa
open Go.ChangeShapes Go.WideShapes Go.ChangeAt Go.RowKit

set_option maxHeartbeats 1000000 in
theorem wClo_any (x0 x1 : Int) (x2 : Bool) (x3 x4 x5 p : Int) (P : Nat) (w : World) (hP : w.cell? ⟨P, 0, none⟩ = some (.int .i64 p)) (hPl : P < w.heap.size) :
    Calls Try.prog 52 #[.agg #[.int .i64 x0, .int .i64 x1, .bool x2, .int .i64 x3, .int .i64 x4, .int .i64 x5], .pointer (some ⟨P, 0, none⟩)] w fun e w' => e = .returned (.bool (toE p (x0, x1, x2, x3, x4, x5))) ∧ Keep w w' := by
  cases x2
  · by_cases hp : x3 = p
    · subst hp
      go_enter Try.func52, Try.ntmps52
      go_wp2
      go_ret
      exact ⟨ret_bool (by simp [toE]), (Keep.refl w).alloc _⟩
    · have he : (x3 == p) = false := by simpa using hp
      go_enter Try.func52, Try.ntmps52
      go_wp2
      go_ret
      exact ⟨ret_bool (by simp [toE, hp]), (Keep.refl w).alloc _⟩
  · go_enter Try.func52, Try.ntmps52
    go_wp2
    go_ret
    exact ⟨ret_bool (by simp [toE]), (Keep.refl w).alloc _⟩
set_option maxRecDepth 100000 in
set_option maxHeartbeats 2000000 in
theorem wNum_any (w : World) (v : Value) (es : List Ev) (h : RdE w v es) (k : Nat) (A B : Nat) (p : Int) (P : Nat) (hP : w.cell? ⟨P, 0, none⟩ = some (.int .i64 p)) (hPl : P < w.heap.size) (hA : w.cell? ⟨A, 0, none⟩ = some v) (hAl : A < w.heap.size) (hB : w.cell? ⟨B, 0, none⟩ = some (.func (Fn.func 52) #[] #[.pointer (some ⟨P, 0, none⟩)])) (hBl : B < w.heap.size) :
    Calls Try.prog 73 #[.int .i64 k, .pointer (some ⟨A, 0, none⟩), .pointer (some ⟨B, 0, none⟩)] w fun e w' => e = .returned (.bool (tstE (toE p) es k)) ∧ Keep w w' := by
  obtain ⟨a, c, rfl, h⟩ := h
  by_cases hlt : k < es.length
  · rcases h with h | ⟨b, o, rfl, hb, hc⟩
    · exfalso; rw [h] at hlt; simp at hlt
    have AT := hc k _ (evs_get hlt)
    have HE : Hid (tstE (toE p) es k = (toE p) (es.getD k zE)) := Lib.hid (by unfold tstE; simp [hlt])
    clear hc
    obtain ⟨e, he⟩ : ∃ e, e = es.getD k zE := ⟨_, rfl⟩
    rw [← he] at AT HE
    clear he
    obtain ⟨x0, x1, x2, x3, x4, x5⟩ := e
    obtain ⟨d0, d1, d2, d3, d4, d5⟩ := atE AT
    clear AT
    have i1 : (0 : Int) ≤ (k : Int) := Int.natCast_nonneg _
    have i2 : (k : Int) < (es.length : Int) := by omega
    have z1 : b < w.drew.heap.size := hb
    have z2 : A < w.drew.heap.size := hAl
    have z3 : B < w.drew.heap.size := hBl
    have z4 : P < w.drew.heap.size := hPl
    go_enter Try.func73, Try.ntmps73
    go_wp2_with fail
    go_region_held3 (fun w' => w'.cell? ⟨A, 0, none⟩ = some (.slice (some ⟨b, o, none⟩) es.length (es.length + c)) ∧ w'.cell? ⟨B, 0, none⟩ = some (.func (Fn.func 52) #[] #[.pointer (some ⟨P, 0, none⟩)]) ∧ w'.cell? ⟨P, 0, none⟩ = some (.int .i64 p) ∧ w'.cell? ⟨b, o + k * 6, none⟩ = some (.int .i64 x0) ∧ w'.cell? ⟨b, o + k * 6 + 1, none⟩ = some (.int .i64 x1) ∧ w'.cell? ⟨b, o + k * 6 + 2, none⟩ = some (.bool x2) ∧ w'.cell? ⟨b, o + k * 6 + 3, none⟩ = some (.int .i64 x3) ∧ w'.cell? ⟨b, o + k * 6 + 4, none⟩ = some (.int .i64 x4) ∧ w'.cell? ⟨b, o + k * 6 + 5, none⟩ = some (.int .i64 x5))
      (first | go_keep | (go_split_ands; refine ⟨?_, ?_, ?_, ?_, ?_, ?_, ?_, ?_, ?_⟩ <;> (rw [kk.cell (by assumption)]; assumption)))
      ((go_at_call 52; refine (wClo_any x0 x1 x2 x3 x4 x5 p P _ (by assumption) (by assumption)).mono ?_; rintro e wz ⟨rfl, kk⟩))
    all_goals
      go_wp2
      go_ret
      exact ⟨by rw [HE.out]; rfl, ((Keep.refl w).drew).trans kk⟩
  · have HE : Hid (tstE (toE p) es k = false) := Lib.hid (by unfold tstE; simp [hlt])
    have i2 : ¬ ((k : Int) < (es.length : Int)) := by omega
    go_enter Try.func73, Try.ntmps73
    go_wp2_with fail
    go_quiet (fail)
    go_wp2
    go_ret
    exact ⟨by rw [HE.out]; rfl, (Keep.refl w).drewN _⟩

set_option maxRecDepth 100000 in
set_option maxHeartbeats 1000000 in
theorem wChosen_any (w : World) (v : Value) (es : List Ev) (h : RdE w v es) (hx : es.length ≤ 12) (A B : Nat) (p : Int) (P : Nat) (hP : w.cell? ⟨P, 0, none⟩ = some (.int .i64 p)) (hPl : P < w.heap.size) (hA : w.cell? ⟨A, 0, none⟩ = some v) (hAl : A < w.heap.size) (hB : w.cell? ⟨B, 0, none⟩ = some (.func (Fn.func 52) #[] #[.pointer (some ⟨P, 0, none⟩)])) (hBl : B < w.heap.size) :
    Calls Try.prog 72 #[.func (Fn.func 73) #[] #[.pointer (some ⟨A, 0, none⟩), .pointer (some ⟨B, 0, none⟩)]] w fun e w' => ∃ v', e = .returned v' ∧ Own w' w.heap.size v' (idxK (toE p) es es.length) ∧ Keep w w' := by
  have hown0 : Own (w.alloc (.cells #[] 2)) w.heap.size (.slice (some ⟨w.heap.size, 0, none⟩) 0 0) [] := World.ownsRow_lit w #[] 0 (Nat.le_refl _) (by decide) rfl
  obtain ⟨i0, hi, hz0, hz1, hz2⟩ := info_parts Try.infoI
  go_enter Try.func72, Try.ntmps72
  go_wp2
  go_loopw [3, 6] (fun v i wr => ∃ k : Nat, k ≤ 12 ∧ i = .int .i64 k ∧ Own wr w.heap.size v (chK (toE p) es k) ∧ Keep w wr) (fun _ i _ => 12 - (intOf i).toNat)
  case atStart => exact ⟨0, Nat.zero_le _, rfl, hown0, (Keep.refl _).alloc _⟩
  case round =>
    obtain ⟨k, hk, rfl, ho, hK⟩ := hrel
    clear hown0
    by_cases hlt : k < 12
    · have hml := chK_len (toE p) es k
      have hsz := hK.size
      have C := wNum_any wr v es (h.keep hK) k A B p P (by rw [hK.cell hPl]; exact hP) (Nat.lt_of_lt_of_le hPl hK.size) (by rw [hK.cell hAl]; exact hA) (Nat.lt_of_lt_of_le hAl hK.size) (by rw [hK.cell hBl]; exact hB) (Nat.lt_of_lt_of_le hBl hK.size)
      clear h hA hB
      cases hb : tstE (toE p) es k
      · have HM : Hid (chK (toE p) es (k + 1) = chK (toE p) es k) := Lib.hid (by rw [chK, hb]; rfl)
        rw [hb] at C
        go_wp2_with fail
        refine C.mono ?_
        rintro e w1 ⟨rfl, k1⟩
        go_wp2
        go_roundw
        case rel => exact ⟨k + 1, by omega, by go_num, by rw [HM.out]; exact ho.keep k1, hK.trans k1⟩
        case measure => simp [intOf]; omega
      · have HM : Hid (chK (toE p) es (k + 1) = chK (toE p) es k ++ [(k : Int)]) := Lib.hid (by rw [chK, hb]; rfl)
        rw [hb] at C
        go_wp2_with fail
        refine C.mono ?_
        rintro e w1 ⟨rfl, k1⟩
        have ho1 := ho.keep k1
        have hK1 := hK.trans k1
        have hsz1 := hK1.size
        clear ho hK C
        go_wp2_with (at_builtin; refine wpList_append_own _ rfl _ _ 29 rfl w.heap.size 2 i0 (.int .i64 0) 1 8 Try.underlying29 hi hz0 hz1 hz2 rfl (by decide) _ _ _ rfl (World.ownsRow.alloc ho1 _) ⟨_, 0, none⟩ 1 1 [.int .i64 k] rfl rfl ?c1 ?c2 ?c3 ?c4 ?c5 ?_)
        case c1 =>
          intro j u hj
          match j, hj with
          | 0, hj => simp at hj; subst hj; simp [Addr.add]
        case c2 => intro u hu; simp at hu; subst hu; rfl
        case c3 => unfold maxLen; omega
        case c4 => omega
        case c5 => simp; omega
        intro v' w2 hown' hgrow _
        have hK2 : Keep w w2 := (hK1.alloc _).grown hgrow ho1.ge
        clear hgrow
        go_wp2
        go_roundw
        case rel => exact ⟨k + 1, by omega, by go_num, by rw [HM.out]; exact own_hit hown', hK2⟩
        case measure => simp [intOf]; omega
    · obtain rfl : k = 12 := by omega
      rw [chK_all (toE p) es 12 hx] at ho
      go_wp2
      go_ret
      exact ⟨_, rfl, ho, hK⟩

set_option maxRecDepth 100000 in
set_option maxHeartbeats 1000000 in
theorem wNumbers_any (w : World) (v : Value) (es : List Ev) (h : RdE w v es) (hx : es.length ≤ 1048576) (p : Int) (P : Nat) (hP : w.cell? ⟨P, 0, none⟩ = some (.int .i64 p)) (hPl : P < w.heap.size) :
    Calls Try.prog 48 #[v, (.func (Fn.func 52) #[] #[.pointer (some ⟨P, 0, none⟩)])] w fun e w' => ∃ v', e = .returned v' ∧ Own w' w.heap.size v' (idxB (toE p) es) ∧ Keep w w' := by
  by_cases hl : 12 < es.length
  · have HE : Hid (idxB (toE p) es = []) := Lib.hid (by unfold idxB; rw [if_neg (by omega)])
    have l1 : (12 : Int) < (es.length : Int) := by omega
    have O : ∀ o1 o2 : Obj, Own (((w.alloc o1).alloc o2).alloc (.cells #[] 2)) w.heap.size (.slice (some ⟨w.heap.size + 1 + 1, 0, none⟩) 0 0) [] := fun o1 o2 => by
      have q : Own (((w.alloc o1).alloc o2).alloc (.cells #[] 2)) ((w.alloc o1).alloc o2).heap.size (.slice (some ⟨((w.alloc o1).alloc o2).heap.size, 0, none⟩) 0 0) [] := World.ownsRow_lit _ #[] 0 (Nat.le_refl _) (by decide) rfl
      have z : ((w.alloc o1).alloc o2).heap.size = w.heap.size + 1 + 1 := by rw [heap_size, heap_size]
      rw [z] at q
      exact q.base_le (by omega)
    obtain ⟨a, c, rfl, h⟩ := h
    go_enter Try.func48, Try.ntmps48
    go_wp2
    go_ret
    refine ⟨_, rfl, ?_, (((Keep.refl w).alloc _).alloc _).alloc _⟩
    rw [HE.out]
    exact O _ _
  · have l1 : es.length ≤ 12 := by omega
    have HE : Hid (idxB (toE p) es = idxK (toE p) es es.length) := Lib.hid (by unfold idxB; rw [if_pos l1])
    clear hl
    have C := fun (o1 o2 : Obj) => wChosen_any ((w.alloc o1).alloc o2) v es (h.keep (((Keep.refl w).alloc _).alloc _)) l1 w.heap.size (w.heap.size + 1) p P (by rw [Keep.cell (((Keep.refl w).alloc _).alloc _) hPl]; exact hP) (Nat.lt_of_lt_of_le hPl (Keep.size (((Keep.refl w).alloc _).alloc _)))
    obtain ⟨a, c, rfl, h⟩ := h
    have l2 : (es.length : Int) ≤ 12 := by omega
    go_enter Try.func48, Try.ntmps48
    go_wp2_with fail
    refine (C _ _ ?g1 ?g2 ?g3 ?g4).mono ?_
    case g1 => simp
    case g2 => simp only [heap_size]; omega
    case g3 => simp
    case g4 => simp only [heap_size]; omega
    rintro e w1 ⟨v1, rfl, ho, hK⟩
    go_wp2
    go_ret
    refine ⟨_, rfl, ?_, (((Keep.refl w).alloc _).alloc _).trans hK⟩
    rw [HE.out]
    exact ho.base_le (by simp only [heap_size]; omega)

theorem implWritesTo_any (w : World) (v : Value) (es : List Ev) (h : RdE w v es) (hx : es.length ≤ 1048576) (p : Int) :
    Calls Try.prog 19 #[v, .int .i64 p] w fun e w' => ∃ v', e = .returned v' ∧ Own w' w.heap.size v' (idxB (toE p) es) ∧ Keep w w' := by
  have C := fun (o1 : Obj) => wNumbers_any (w.alloc o1) v es (h.keep ((Keep.refl w).alloc _)) hx p w.heap.size
  go_enter Try.func19, Try.ntmps19
  go_wp2_with fail
  refine (C _ ?g1 ?g2).mono ?_
  case g1 => simp
  case g2 => simp only [heap_size]; omega
  rintro e w1 ⟨v1, rfl, ho, hK⟩
  go_wp2
  go_ret
  exact ⟨_, rfl, ho.base_le (by simp only [heap_size]; omega), ((Keep.refl w).alloc _).trans hK⟩
end Go.Proofs.Ytabafnfadophhaa
