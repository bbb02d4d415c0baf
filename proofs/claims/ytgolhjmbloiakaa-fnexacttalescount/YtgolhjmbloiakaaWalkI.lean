/- Contract of the program's walkedRows: it meets all that the seats allow, in their order, and stops at the n-th. -/
import Derived.Test.YtgolhjmbloiakaaScopeJ
import Derived.Test.YtgolhjmbloiakaaNextI
import Derived.Test.YtgolhjmbloiakaaMB
namespace Go.Proofs.Ytgolhjmbloiakaa
open Go.ChangeShapes Go.WideShapes Go.ChangeAt Go.RowKit

/-- The n-th of all, if there is one; how many were met. -/
def wrB (E : List (List Int)) (n : Int) : List Int := if 0 ≤ n ∧ n < (E.length : Int) then E.getD n.toNat [] else []
def wcB (E : List (List Int)) (n : Int) : Int := if 0 ≤ n ∧ n < (E.length : Int) then n else (E.length : Int)
/-- What holds while it walks: T is still to come. -/
structure Wk (ss : List (List Int)) (n : Int) (rows : List Int) (last : Int) (met : Nat) (T : List (Option (List Int))) : Prop where
  come : T.filterMap id = (allS ss []).drop met
  top : met ≤ (allS ss []).length
  low : n < 0 ∨ (met : Int) ≤ n
  len : rows.length ≤ ss.length
  lst : -1 ≤ last
  pos : ∀ x ∈ rows, 0 ≤ x
theorem Wk.start (ss : List (List Int)) (n : Int) : Wk ss n [] (-1) 0 (comeT ss [] (-1)) := by
  refine ⟨?_, Nat.zero_le _, by omega, Nat.zero_le _, by decide, by simp⟩
  have e : comeT ss [] (-1) = allT ss [] := by
    unfold comeT
    rw [here_all]
    exact List.append_nil _
  rw [e, all_found, List.drop_zero]
theorem Wk.nil {ss : List (List Int)} {n : Int} {rows : List Int} {last : Int} {met : Nat} {T : List (Option (List Int))} (h : Wk ss n rows last met T) (hT : T = []) : wcB (allS ss []) n = (met : Int) ∧ wrB (allS ss []) n = [] := by
  have hc := h.come
  rw [hT, List.filterMap_nil] at hc
  have hl := congrArg List.length hc
  rw [List.length_drop, List.length_nil] at hl
  have := h.top
  have := h.low
  unfold wcB wrB
  rw [if_neg (by omega), if_neg (by omega)]
  exact ⟨by omega, rfl⟩
theorem Wk.back {ss : List (List Int)} {n : Int} {r' : List Int} {x last : Int} {met : Nat} {T T' : List (Option (List Int))} (h : Wk ss n (r' ++ [x]) last met T) (hT : T = T') : Wk ss n r' x met T' := by
  have hl := h.len
  rw [List.length_append, List.length_singleton] at hl
  have := h.pos x (by simp)
  exact ⟨by rw [← hT]; exact h.come, h.top, h.low, by omega, by omega, fun y hy => h.pos y (by simp [hy])⟩
theorem Wk.fail {ss : List (List Int)} {n : Int} {rows : List Int} {last last' : Int} {met : Nat} {T T' : List (Option (List Int))} (h : Wk ss n rows last met T) (hT : T = none :: T') (hl : -1 ≤ last') : Wk ss n rows last' met T' := by
  have hc := h.come
  rw [hT, List.filterMap_cons] at hc
  exact ⟨hc, h.top, h.low, h.len, hl, h.pos⟩
theorem Wk.give {ss : List (List Int)} {n : Int} {rows : List Int} {last x : Int} {met : Nat} {T T' : List (Option (List Int))} (h : Wk ss n rows last met T) (hT : T = none :: T') (hx : 0 ≤ x) (hlt : rows.length < ss.length) : Wk ss n (rows ++ [x]) (-1) met T' := by
  have hc := h.come
  rw [hT, List.filterMap_cons] at hc
  refine ⟨hc, h.top, h.low, by rw [List.length_append, List.length_singleton]; omega, by decide, fun y hy => ?_⟩
  rcases List.mem_append.1 hy with hy | hy
  · exact h.pos y hy
  · rw [List.mem_singleton] at hy
    omega
theorem Wk.met {ss : List (List Int)} {n : Int} {rows : List Int} {last : Int} {met : Nat} {T T' : List (Option (List Int))} (h : Wk ss n rows last met T) (hT : T = some rows :: T') :
    met < (allS ss []).length ∧ (allS ss []).getD met [] = rows ∧ T'.filterMap id = (allS ss []).drop (met + 1) := by
  have hc := h.come
  rw [hT, List.filterMap_cons] at hc
  have hl : met < (allS ss []).length := by
    apply Classical.byContradiction
    intro hn
    rw [List.drop_of_length_le (by omega)] at hc
    cases hc
  rw [List.drop_eq_getElem_cons hl] at hc
  simp only [id, List.cons.injEq] at hc
  refine ⟨hl, ?_, hc.2⟩
  rw [List.getD_eq_getElem?_getD, List.getElem?_eq_getElem hl]
  exact hc.1.symm
theorem Wk.hit {ss : List (List Int)} {n : Int} {rows : List Int} {last : Int} {met : Nat} {T T' : List (Option (List Int))} (h : Wk ss n rows last met T) (hT : T = some rows :: T') (hn : (met : Int) = n) : wcB (allS ss []) n = (met : Int) ∧ wrB (allS ss []) n = rows := by
  obtain ⟨h1, h2, _⟩ := h.met hT
  unfold wcB wrB
  rw [if_pos (by omega), if_pos (by omega), ← hn, Int.toNat_natCast]
  exact ⟨rfl, h2⟩
theorem Wk.pass {ss : List (List Int)} {n : Int} {rows : List Int} {last : Int} {met : Nat} {T T' : List (Option (List Int))} (h : Wk ss n rows last met T) (hT : T = some rows :: T') (hn : (met : Int) ≠ n) : Wk ss n rows last (met + 1) T' := by
  obtain ⟨h1, h2, h3⟩ := h.met hT
  have := h.low
  exact ⟨h3, by omega, by omega, h.len, h.lst, h.pos⟩
theorem wrap_small {n : Int} (h : 0 ≤ n ∧ n < 4611686018427387904) : IntKind.i64.wrap n = n := by
  rw [IntKind.wrap_i64]
  omega
theorem Own.short {w : World} {base : Nat} {ar : Option Addr} {cr : Nat} {r' : List Int} {x : Int} {n : Nat} (h : Own w base (.slice ar n cr) (r' ++ [x])) :
    ∃ g, ar = some ⟨g, 0, none⟩ ∧ Own w base (.slice (some ⟨g, 0, none⟩) r'.length cr) r' ∧ w.cell? ⟨g, r'.length, none⟩ = some (.int .i64 x) ∧ r'.length + 1 ≤ cr := by
  have hrd := h.rd
  unfold Own World.ownsRow at h
  rcases h.2 with ⟨h1, h2⟩ | ⟨g, cap, cur, hv, hb, hg, hc, hm, hs, ht⟩
  · simp at h2
  · simp only [Value.slice.injEq] at hv
    obtain ⟨rfl, rfl, rfl⟩ := hv
    rw [List.length_append, List.length_singleton] at hc
    refine ⟨g, rfl, ⟨by simp, .inr ⟨g, cr, cur, rfl, hb, hg, by omega, hm, hs, ?_⟩⟩, ?_, hc⟩
    · rw [Nat.mul_one, List.length_append, List.length_singleton] at ht
      have := congrArg (List.take r'.length) ht
      rw [List.take_take, Nat.min_eq_left (by omega), List.map_append, List.take_append_of_le_length (by simp)] at this
      have e : (r'.map (Value.int .i64)).take r'.length = r'.map (Value.int .i64) := List.take_of_length_le (by simp)
      rw [e] at this
      rw [Nat.mul_one]
      exact this
    · obtain ⟨a, c, he, hr⟩ := hrd
      simp only [Value.slice.injEq] at he
      obtain ⟨rfl, _, rfl⟩ := he
      rcases hr with hr | ⟨b, off, he, hb2, hcell⟩
      · simp at hr
      · simp only [Option.some.injEq, Addr.mk.injEq, and_true] at he
        obtain ⟨rfl, rfl⟩ := he
        have := hcell r'.length (by simp)
        rw [Nat.zero_add, List.getD_eq_getElem?_getD, List.getElem?_append_right (Nat.le_refl _), Nat.sub_self] at this
        exact this
def atBack (w : World) (a0 : Option Addr) (c0 : Nat) (ss : List (List Int)) (n : Int) : Nat → Act → World → Prop := fun m a wr => ∃ (rows : List Int) (vr : Value) (met : Nat) (last : Int), m = 2 * (backT ss rows rows.length).length + 1 ∧ Wk ss n rows last met (backT ss rows rows.length) ∧ Own wr w.heap.size vr rows ∧ Keep w wr ∧ ∃ (u9 u10 u11 u12 u13 u14 u15 u16 u17 u18 u19 u20 u21 u22 u23 u24 u25 u26 u27 u28 u29 u30 u31 u32 u33 u34 u35 u36 u37 u38 u39 u40 u41 u42 u43 u44 u45 u46 u47 u48 u49 u50 u51 : Value), a = { tmps := #[.slice a0 ss.length c0, .int .i64 n, undef, undef, .slice none 0 0, .int .i64 0, vr, .int .i64 met, .int .i64 last, u9, u10, u11, u12, u13, u14, u15, u16, u17, u18, u19, u20, u21, u22, u23, u24, u25, u26, u27, u28, u29, u30, u31, u32, u33, u34, u35, u36, u37, u38, u39, u40, u41, u42, u43, u44, u45, u46, u47, u48, u49, u50, u51], defers := [] }
def atOn (w : World) (a0 : Option Addr) (c0 : Nat) (ss : List (List Int)) (n : Int) : Nat → Act → World → Prop := fun m a wr => ∃ (rows : List Int) (vr : Value) (met : Nat) (last : Int), m = 2 * (comeT ss rows last).length ∧ Wk ss n rows last met (comeT ss rows last) ∧ Own wr w.heap.size vr rows ∧ Keep w wr ∧ ∃ (u9 u10 u11 u12 u13 u14 u15 u16 u17 u18 u19 u20 u21 u22 u23 u24 u25 u26 u27 u28 u29 u30 u31 u32 u33 u34 u35 u36 u37 u38 u39 u40 u41 u42 u43 u44 u45 u46 u47 u48 u49 u50 u51 : Value), a = { tmps := #[.slice a0 ss.length c0, .int .i64 n, undef, undef, .slice none 0 0, .int .i64 0, vr, .int .i64 met, .int .i64 last, u9, u10, u11, u12, u13, u14, u15, u16, u17, u18, u19, u20, u21, u22, u23, u24, u25, u26, u27, u28, u29, u30, u31, u32, u33, u34, u35, u36, u37, u38, u39, u40, u41, u42, u43, u44, u45, u46, u47, u48, u49, u50, u51], defers := [] }
set_option maxRecDepth 100000 in
set_option maxHeartbeats 4000000 in
theorem walkedRows_any (w : World) (v : Value) (ss : List (List Int)) (n : Int) (h : RdL w v ss) (hsl : ss.length ≤ 1048576) (hs : ∀ i, i < ss.length → (ss.getD i []).Pairwise (· < ·) ∧ (ss.getD i []).length ≤ 1048576) (hE : (allS ss []).length ≤ 1000000000000000000) :
    Calls Try.prog 77 #[v, .int .i64 n] w fun e w' => ∃ v', e = .returned (.tuple #[v', .int .i64 (wcB (allS ss []) n)]) ∧ Own w' w.heap.size v' (wrB (allS ss []) n) ∧ Keep w w' := by
  have hL := h
  obtain ⟨a0, c0, rfl, -⟩ := id h
  have hown0 : Own (w.alloc (.cells #[] 2)) w.heap.size (.slice (some ⟨w.heap.size, 0, none⟩) 0 0) [] := World.ownsRow_lit w #[] 0 (Nat.le_refl _) (by decide) rfl
  have K0 : Keep w (w.alloc (.cells #[] 2)) := (Keep.refl w).alloc _
  obtain ⟨i0, hi, hz0, hz1, hz2⟩ := info_parts Try.infoI
  have hS := Lib.hid hs
  clear h hs
  have W0 := Wk.start ss n
  go_enter Try.func77, Try.ntmps77
  go_wp2
  refine wp_scope_two (atBack w a0 c0 ss n) (atOn w a0 c0 ss n) rfl rfl ?pass0 ?pass1 ?first
  case pass0 =>
    rintro m a wr ⟨rows, vr, met, last, hm, hW, hO, hK, u9, u10, u11, u12, u13, u14, u15, u16, u17, u18, u19, u20, u21, u22, u23, u24, u25, u26, u27, u28, u29, u30, u31, u32, u33, u34, u35, u36, u37, u38, u39, u40, u41, u42, u43, u44, u45, u46, u47, u48, u49, u50, u51, rfl⟩
    obtain ⟨ar, cr, rfl, -⟩ := id hO.rd
    have HM0 := Lib.hid hm
    have RS := hL
    clear hown0 K0 W0 hm
    by_cases h0 : rows.length = 0
    · have hr0 : rows = [] := List.eq_nil_of_length_eq_zero h0
      have hb0 : ((rows.length : Int) == 0) = true := by simp [h0]
      have HA : Hid (wcB (allS ss []) n = (met : Int) ∧ wrB (allS ss []) n = rows) := Lib.hid (by rw [hr0]; exact hW.nil (by rw [hr0]; rfl))
      clear h0 hr0 hW hS RS hL
      go_wp2
      rw [below2_ret]
      go_ret2
      exact ⟨.slice ar rows.length cr, by rw [HA.out.1]; rfl, by rw [HA.out.2]; exact hO, hK⟩
    · obtain ⟨r', x, hrx⟩ : ∃ r' x, rows = r' ++ [x] := ⟨rows.dropLast, rows.getLast (fun e => h0 (by rw [e]; rfl)), (List.dropLast_concat_getLast _).symm⟩
      subst hrx
      have hlen : (r' ++ [x]).length = r'.length + 1 := by simp
      have HC : Hid (backT ss (r' ++ [x]) (r' ++ [x]).length = comeT ss r' x) := Lib.hid (back_snoc ss r' x)
      have hb0 : (((r'.length + 1 : Nat) : Int) == 0) = false := by simp; omega
      have hW' := hW.back HC.out
      have HM : Hid (2 * (comeT ss r' x).length < m) := Lib.hid (by rw [← HC.out]; have := HM0.out; omega)
      have hrl := hW'.len
      obtain ⟨g, hg, hO', hcell, hcap⟩ := hO.short
      subst hg
      have i1 : IntKind.i64.wrap (((r'.length + 1 : Nat) : Int) - 1) = (r'.length : Int) := by
        have : ((r'.length + 1 : Nat) : Int) - 1 = (r'.length : Int) := by omega
        rw [this]
        exact wrap_small (by omega)
      have i2 : (0 : Int) ≤ (r'.length : Int) := Int.natCast_nonneg _
      have i3 : (r'.length : Int) < ((r'.length + 1 : Nat) : Int) := by omega
      have i4 : (r'.length : Int) ≤ (cr : Int) := by omega
      rw [hlen]
      clear h0 hW hS RS hL hO HC hlen
      go_wp2
      go_step3
      refine below2_to1 ?_
      exact ⟨_, HM.out, r', _, met, x, rfl, hW', hO', hK, _, _, _, _, _, _, _, _, _, _, _, _, _, _, _, _, _, _, _, _, _, _, _, _, _, _, _, _, _, _, _, _, _, _, _, _, _, _, _, _, _, _, _, rfl⟩

  case pass1 =>
    intro m pass0
    rintro a wr ⟨rows, vr, met, last, hm, hW, hO, hK, u9, u10, u11, u12, u13, u14, u15, u16, u17, u18, u19, u20, u21, u22, u23, u24, u25, u26, u27, u28, u29, u30, u31, u32, u33, u34, u35, u36, u37, u38, u39, u40, u41, u42, u43, u44, u45, u46, u47, u48, u49, u50, u51, rfl⟩
    obtain ⟨ar, cr, rfl, -⟩ := id hO.rd
    have HM0 := Lib.hid hm
    have PB := Lib.hid pass0
    clear hown0 K0 W0 hm pass0
    have hwl := hW.len
    by_cases hfull : rows.length = ss.length
    · have HF : Hid (comeT ss rows last = some rows :: backT ss rows rows.length) := Lib.hid (come_full hfull)
      have hb1 : ((rows.length : Int) == (ss.length : Int)) = true := by simp [hfull]
      have hb1' : ((ss.length : Int) == (rows.length : Int)) = true := by simp [hfull]
      clear hfull
      by_cases hmn : (met : Int) = n
      · have HA : Hid (wcB (allS ss []) n = (met : Int) ∧ wrB (allS ss []) n = rows) := Lib.hid (hW.hit HF.out hmn)
        have hb2 : ((met : Int) == n) = true := by simp [hmn]
        clear hmn hW hS hL PB hwl
        go_wp2
        rw [below2_ret]
        go_ret2
        exact ⟨.slice ar rows.length cr, by rw [HA.out.1]; rfl, by rw [HA.out.2]; exact hO, hK⟩
      · have hW2 := hW.pass HF.out hmn
        have hb2 : ((met : Int) == n) = false := by simp [hmn]
        have htop := hW2.top
        have i1 : IntKind.i64.wrap ((met : Int) + 1) = ((met + 1 : Nat) : Int) := by
          have : (met : Int) + 1 = ((met + 1 : Nat) : Int) := by omega
          rw [this]
          exact wrap_small (by omega)
        have HM : Hid (2 * (backT ss rows rows.length).length + 1 < m) := Lib.hid (by rw [HM0.out, HF.out, List.length_cons]; omega)
        clear hmn hW hS hL PB hwl htop
        go_wp2
        go_step3
        refine below2_to0 ?_
        exact ⟨_, HM.out, rows, _, met + 1, last, rfl, hW2, hO, hK, _, _, _, _, _, _, _, _, _, _, _, _, _, _, _, _, _, _, _, _, _, _, _, _, _, _, _, _, _, _, _, _, _, _, _, _, _, _, _, _, _, _, _, rfl⟩
    · have hlt : rows.length < ss.length := by omega
      have hb1 : ((rows.length : Int) == (ss.length : Int)) = false := by simp; omega
      have RS := hL.keep hK
      obtain ⟨a', c', he', RS⟩ := RS
      simp only [Value.slice.injEq, true_and] at he'
      obtain ⟨rfl, rfl⟩ := he'
      rcases RS with h0 | ⟨b, o, rfl, hb, hc⟩
      · exfalso; rw [h0] at hlt; simp at hlt
      obtain ⟨vi, d1, r2⟩ := hc rows.length hlt
      obtain ⟨hs1, hs2⟩ := hS.out rows.length hlt
      have j1 : (0 : Int) ≤ (rows.length : Int) := Int.natCast_nonneg _
      have j2 : (rows.length : Int) < (ss.length : Int) := by omega
      have C := nextFor_any wr vi _ (ss.getD rows.length []) rows last r2 hO.rd hs2 (by omega)
      obtain ⟨az, cz, hvi, -⟩ := id r2
      have hsz := hK.size
      rcases hnx : nextL (ss.getD rows.length []) rows last with _ | ⟨x, t⟩
      · have HF : Hid (comeT ss rows last = none :: backT ss rows rows.length) := Lib.hid (come_none hlt hnx)
        have hnb : nextB (ss.getD rows.length []) rows last = -1 := by unfold nextB; rw [hnx]; rfl
        rw [hnb] at C
        have hW2 := hW.fail HF.out (last' := -1) (by decide)
        have HM : Hid (2 * (backT ss rows rows.length).length + 1 < m) := Lib.hid (by rw [HM0.out, HF.out, List.length_cons]; omega)
        have hrb : ((-1 : Int) != -1) = false := by decide
        clear hc hs1 hs2 hnx hnb hS hL hW hfull r2 hb hwl
        generalize (ss.getD rows.length []).length = sl at hvi
        subst hvi
        go_wp2_with fail
        refine C.mono ?_
        rintro e w5 ⟨rfl, rfl⟩
        clear C
        go_wp2
        go_step3
        simp only [Exit.then]
        rename_i hkk
        apply hkk
        exact PB.out _ _ _ HM.out ⟨rows, _, met, -1, rfl, hW2, hO, hK, _, _, _, _, _, _, _, _, _, _, _, _, _, _, _, _, _, _, _, _, _, _, _, _, _, _, _, _, _, _, _, _, _, _, _, _, _, _, _, _, _, _, _, rfl⟩
      · obtain ⟨-, hx1, -⟩ := next_step hs1 hnx
        have hx0 : 0 ≤ x := by have := hW.lst; omega
        have HF : Hid (comeT ss rows last = none :: comeT ss (rows ++ [x]) (-1)) := Lib.hid (come_give hlt hs1 hnx)
        have hnb : nextB (ss.getD rows.length []) rows last = x := by unfold nextB; rw [hnx]; rfl
        rw [hnb] at C
        have hW2 := hW.give HF.out hx0 hlt
        have HM : Hid (2 * (comeT ss (rows ++ [x]) (-1)).length < m) := Lib.hid (by rw [HM0.out, HF.out, List.length_cons]; omega)
        have hrb : (x != -1) = true := by simp; omega
        clear hc hs1 hs2 hnx hnb hS hL hW hfull r2 hb PB hx1
        generalize (ss.getD rows.length []).length = sl at hvi
        subst hvi
        go_wp2_with fail
        refine C.mono ?_
        rintro e w5 ⟨rfl, rfl⟩
        clear C
        go_wp2_with (at_builtin; refine wpList_append_own _ rfl _ _ 27 rfl w.heap.size 2 i0 (.int .i64 0) 1 8 Try.underlying27 hi hz0 hz1 hz2 rfl (by decide) _ _ _ rfl (World.ownsRow.alloc hO _) ⟨_, 0, none⟩ 1 1 [.int .i64 x] rfl rfl ?c1 ?c2 ?c3 ?c4 ?c5 ?_)
        case c1 =>
          intro j u hj
          match j, hj with
          | 0, hj => simp at hj; subst hj; simp [Addr.add]
        case c2 => intro u hu; simp at hu; subst hu; rfl
        case c3 => unfold maxLen; omega
        case c4 => omega
        case c5 => simp; omega
        intro v' w2 hown' hgrow _
        have hK2 : Keep w w2 := (hK.alloc _).grown hgrow hO.ge
        have hO2 := own_hit hown'
        clear hgrow hown' hO hK
        go_wp2
        go_step3
        refine below2_to1 ?_
        exact ⟨_, HM.out, rows ++ [x], v', met, -1, rfl, hW2, hO2, hK2, _, _, _, _, _, _, _, _, _, _, _, _, _, _, _, _, _, _, _, _, _, _, _, _, _, _, _, _, _, _, _, _, _, _, _, _, _, _, _, _, _, _, _, rfl⟩
  case first =>
    intro P1
    have PB := Lib.hid P1
    clear P1
    go_wp2
    go_step3
    simp only [Exit.then]
    rename_i hkk
    apply hkk
    refine PB.out _ _ _ ⟨[], _, 0, -1, rfl, W0, hown0, K0, _, _, _, _, _, _, _, _, _, _, _, _, _, _, _, _, _, _, _, _, _, _, _, _, _, _, _, _, _, _, _, _, _, _, _, _, _, _, _, _, _, _, _, rfl⟩
end Go.Proofs.Ytgolhjmbloiakaa
