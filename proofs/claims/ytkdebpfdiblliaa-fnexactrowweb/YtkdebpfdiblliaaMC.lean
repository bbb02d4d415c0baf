/- Several texts in one. -/
import Derived.Test.YtkdebpfdiblliaaMA
import Derived.Scope
import Derived.WalkMore
import Derived.Test.YtkdebpfdiblliaaMB
import Derived.Outline
/- A scope in which the run jumps to several labels: what holds at each label when it is jumped to, with a number that each pass lowers. -/
namespace Go.Proofs.Ytkdebpfdiblliaa

/-- By a goto to a label: J of that label; else as Q. -/
def atLabel (J : Nat → Act → World → Prop) (Q : Exit → Act → World → Prop) : Exit → Act → World → Prop
  | .goto l, a, w => J l a w
  | e, a, w => Q e a w
theorem atLabel_ret {J : Nat → Act → World → Prop} {Q : Exit → Act → World → Prop} {a : Act} {w : World} : atLabel J Q .ret a w = Q .ret a w := rfl
theorem wp_scope_labels {P : Program} {Q : Exit → Act → World → Prop} {c : Code} {a : Act} {w : World} (rest : Nat → Code) (J : Nat → Nat → Act → World → Prop)
    (hf : ∀ l m a w, J l m a w → findLabel c l = some (rest l)) (first : c.wp P (atLabel (fun l a w => ∃ m, J l m a w) Q) a w)
    (pass : ∀ l m a w, J l m a w → (rest l).wp P (atLabel (fun l' a' w' => ∃ m', m' < m ∧ J l' m' a' w') Q) a w) : (Code.scope c).wp P Q a w := by
  intro b k cs
  have on : ∀ m l a w, J l m a w → ∃ e a' w', Q e a' w' ∧ Arrives P (lone (b.at a (.code (rest l) :: .inScope c :: k)) cs w) b k cs e a' w' := by
    intro m
    induction m using Nat.strongRecOn with
    | _ m ih =>
      intro l a w hJ
      obtain ⟨e, a₁, w₁, hq, harr⟩ := pass l m a w hJ b (.inScope c :: k) cs
      cases e with
      | goto l' =>
        obtain ⟨m', hlt, hJ'⟩ : ∃ m', m' < m ∧ J l' m' a₁ w₁ := hq
        obtain ⟨e₂, a₂, w₂, hq₂, harr₂⟩ := ih _ hlt l' a₁ w₁ hJ'
        have hg : gotoIn l' (.inScope c :: k) = some (.code (rest l') :: .inScope c :: k) := by simp [gotoIn, hf l' m' a₁ w₁ hJ']
        exact ⟨e₂, a₂, w₂, hq₂, .of_steps (harr _ hg) harr₂⟩
      | normal => exact ⟨.normal, a₁, w₁, hq, Steps.trans harr (.one step_inScope)⟩
      | exit id => exact ⟨.exit id, a₁, w₁, hq, fun k' hk => harr k' (by simp [exitTo, hk])⟩
      | ret => exact ⟨_, a₁, w₁, hq, harr⟩
      | panic ch => exact ⟨_, a₁, w₁, hq, harr⟩
      | outgrown => exact ⟨_, a₁, w₁, hq, harr⟩
  obtain ⟨e, a₁, w₁, hq, harr⟩ := first b (.inScope c :: k) cs
  cases e with
  | goto l' =>
    obtain ⟨m, hJ'⟩ : ∃ m, J l' m a₁ w₁ := hq
    obtain ⟨e₂, a₂, w₂, hq₂, harr₂⟩ := on m l' a₁ w₁ hJ'
    have hg : gotoIn l' (.inScope c :: k) = some (.code (rest l') :: .inScope c :: k) := by simp [gotoIn, hf l' m a₁ w₁ hJ']
    exact ⟨e₂, a₂, w₂, hq₂, .of_steps (.head step_scope (harr _ hg)) harr₂⟩
  | normal => exact ⟨.normal, a₁, w₁, hq, .head step_scope (Steps.trans harr (.one step_inScope))⟩
  | exit id => exact ⟨.exit id, a₁, w₁, hq, fun k' hk => .head step_scope (harr k' (by simp [exitTo, hk]))⟩
  | ret => exact ⟨_, a₁, w₁, hq, .of_steps (.one step_scope) harr⟩
  | panic ch => exact ⟨_, a₁, w₁, hq, .of_steps (.one step_scope) harr⟩
  | outgrown => exact ⟨_, a₁, w₁, hq, .of_steps (.one step_scope) harr⟩
def ofTwo {α : Type} (x0 x1 d : α) : Nat → α
  | 0 => x0
  | 1 => x1
  | _ => d
/-- Where one goes on: at each of two labels, with a lower number. -/
def below2 (J0 J1 : Nat → Act → World → Prop) (Q : Exit → Act → World → Prop) (m : Nat) : Exit → Act → World → Prop := atLabel (ofTwo (fun a' w' => ∃ m', m' < m ∧ J0 m' a' w') (fun a' w' => ∃ m', m' < m ∧ J1 m' a' w') (fun _ _ => False)) Q
def any2 (J0 J1 : Nat → Act → World → Prop) (Q : Exit → Act → World → Prop) : Exit → Act → World → Prop := atLabel (ofTwo (fun a w => ∃ m, J0 m a w) (fun a w => ∃ m, J1 m a w) (fun _ _ => False)) Q
theorem below2_ret {J0 J1 : Nat → Act → World → Prop} {Q : Exit → Act → World → Prop} {m : Nat} {a : Act} {w : World} : below2 J0 J1 Q m .ret a w = Q .ret a w := rfl
theorem below2_to0 {J0 J1 : Nat → Act → World → Prop} {Q : Exit → Act → World → Prop} {m : Nat} {a : Act} {w : World} (h : ∃ m', m' < m ∧ J0 m' a w) : below2 J0 J1 Q m (.goto 0) a w := h
theorem below2_to1 {J0 J1 : Nat → Act → World → Prop} {Q : Exit → Act → World → Prop} {m : Nat} {a : Act} {w : World} (h : ∃ m', m' < m ∧ J1 m' a w) : below2 J0 J1 Q m (.goto 1) a w := h
theorem below2_any {J0 J1 : Nat → Act → World → Prop} {Q : Exit → Act → World → Prop} {m : Nat} (e : Exit) (a : Act) (w : World) (h : below2 J0 J1 Q m e a w) : any2 J0 J1 Q e a w := by
  cases e with
  | goto l =>
    match l, h with
    | 0, h => obtain ⟨m', _, h⟩ : ∃ m', m' < m ∧ J0 m' a w := h; exact ⟨m', h⟩
    | 1, h => obtain ⟨m', _, h⟩ : ∃ m', m' < m ∧ J1 m' a w := h; exact ⟨m', h⟩
  | _ => exact h
theorem below2_le {J0 J1 : Nat → Act → World → Prop} {Q : Exit → Act → World → Prop} {k m : Nat} (hk : k ≤ m) (e : Exit) (a : Act) (w : World) (h : below2 J0 J1 Q k e a w) : below2 J0 J1 Q m e a w := by
  cases e with
  | goto l =>
    match l, h with
    | 0, h => obtain ⟨m', hl, h⟩ : ∃ m', m' < k ∧ J0 m' a w := h; exact ⟨m', by omega, h⟩
    | 1, h => obtain ⟨m', hl, h⟩ : ∃ m', m' < k ∧ J1 m' a w := h; exact ⟨m', by omega, h⟩
  | _ => exact h
/-- Two labels; from label 1 the run may also go straight on to label 0. -/
theorem wp_scope_two {P : Program} {Q : Exit → Act → World → Prop} {c r0 r1 : Code} {a : Act} {w : World} (J0 J1 : Nat → Act → World → Prop)
    (hf0 : findLabel c 0 = some (Code.skip.seq r0)) (hf1 : findLabel c 1 = some (Code.skip.seq r1))
    (pass0 : ∀ m a w, J0 m a w → r0.wp P (below2 J0 J1 Q m) a w)
    (pass1 : ∀ m, (∀ m' a w, m' < m → J0 m' a w → r0.wp P (below2 J0 J1 Q m) a w) → ∀ a w, J1 m a w → r1.wp P (below2 J0 J1 Q m) a w)
    (first : (∀ m a w, J1 m a w → r1.wp P (any2 J0 J1 Q) a w) → c.wp P (any2 J0 J1 Q) a w) : (Code.scope c).wp P Q a w := by
  have p1 : ∀ m a w, J1 m a w → r1.wp P (below2 J0 J1 Q m) a w := fun m a w h => pass1 m (fun m' a w hm h0 => Code.wp_mono (below2_le (Nat.le_of_lt hm)) (pass0 m' a w h0)) a w h
  have e1 : (fun l a w => ∃ m, ofTwo J0 J1 (fun _ _ _ => False) l m a w) = ofTwo (fun a w => ∃ m, J0 m a w) (fun a w => ∃ m, J1 m a w) (fun _ _ => False) := by
    funext l a w
    match l with
    | 0 => rfl
    | 1 => rfl
    | l + 2 => simp [ofTwo]
  have e2 : ∀ m : Nat, (fun l a w => ∃ m', m' < m ∧ ofTwo J0 J1 (fun _ _ _ => False) l m' a w) = ofTwo (fun a w => ∃ m', m' < m ∧ J0 m' a w) (fun a w => ∃ m', m' < m ∧ J1 m' a w) (fun _ _ => False) := by
    intro m
    funext l a w
    match l with
    | 0 => rfl
    | 1 => rfl
    | l + 2 => simp [ofTwo]
  refine wp_scope_labels (ofTwo (Code.skip.seq r0) (Code.skip.seq r1) r0) (ofTwo J0 J1 (fun _ _ _ => False)) (fun l m a w h => ?_) (by rw [e1]; exact first (fun m a w h => Code.wp_mono below2_any (p1 m a w h))) (fun l m a w h => ?_)
  · match l, h with
    | 0, _ => exact hf0
    | 1, _ => exact hf1
  · rw [e2]
    match l, h with
    | 0, h => exact wp_seq (wp_skip (pass0 m a w h))
    | 1, h => exact wp_seq (wp_skip (p1 m a w h))
end Go.Proofs.Ytkdebpfdiblliaa

/- Contract of the program's nextFor: the least that may have a seat, is past the one that had it last, and has none ahead. -/
namespace Go.Proofs.Ytkdebpfdiblliaa
open Go.ChangeShapes Go.WideShapes Go.ChangeAt Go.RowKit

theorem take_snocI (s : List Int) (k : Nat) (h : k < s.length) : s.take (k + 1) = s.take k ++ [s.getD k 0] := by
  rw [List.take_add_one, List.getElem?_eq_getElem h, List.getD_eq_getElem?_getD, List.getElem?_eq_getElem h]
  rfl
theorem next_take_more {s a : List Int} {last p : Int} {k : Nat} (h : nextL (s.take k) a last = []) (hk : k < s.length) (hp : p = s.getD k 0) (ht : (decide (last < p) && !isB a p) = false) : nextL (s.take (k + 1)) a last = [] := by
  unfold nextL at h ⊢
  rw [take_snocI s k hk, List.filter_append, h, ← hp]
  simp [ht]
theorem next_take_hit {s a : List Int} {last p : Int} {k : Nat} (h : nextL (s.take k) a last = []) (hk : k < s.length) (hp : p = s.getD k 0) (ht : (decide (last < p) && !isB a p) = true) : nextB s a last = p := by
  have e : s = s.take k ++ (p :: s.drop (k + 1)) := by
    rw [hp, List.getD_eq_getElem?_getD, List.getElem?_eq_getElem hk]
    show s = s.take k ++ s[k] :: s.drop (k + 1)
    rw [← List.drop_eq_getElem_cons hk, List.take_append_drop]
  unfold nextB
  unfold nextL at h ⊢
  rw [e, List.filter_append, h, List.filter_cons, if_pos ht]
  rfl
set_option maxHeartbeats 1000000 in
theorem nextFor_any (w : World) (v va : Value) (s a : List Int) (last : Int) (h : Rd w v s) (ha : Rd w va a) (hn : s.length ≤ 1048576) (han : a.length ≤ 1048576) :
    Calls Try.prog 62 #[v, va, .int .i64 last] w fun e w' => e = .returned (.int .i64 (nextB s a last)) ∧ w' = w := by
  obtain ⟨a1, c1, rfl, -⟩ := id ha
  obtain ⟨a0, c0, rfl, h⟩ := h
  go_enter Try.func62, Try.ntmps62
  go_wp2
  go_loop [11] (fun i => ∃ k : Nat, k ≤ s.length ∧ i = .int .i64 k ∧ Hid (nextL (s.take k) a last = [])) (fun i => s.length - (intOf i).toNat)
  case atStart => exact ⟨0, Nat.zero_le _, rfl, Lib.hid rfl⟩
  case round =>
    obtain ⟨k, hk, rfl, hno⟩ := hrel
    by_cases hlt : k < s.length
    · rcases h with h | ⟨b, o, rfl, hb, hc⟩
      · exfalso; rw [h] at hlt; simp at hlt
      have d1 := hc k hlt
      obtain ⟨p, hp⟩ : ∃ p, p = s.getD k 0 := ⟨_, rfl⟩
      have HP := Lib.hid hp
      rw [← hp] at d1
      clear hc hp
      have i1 : (0 : Int) ≤ (k : Int) := Int.natCast_nonneg _
      have i2 : (k : Int) < (s.length : Int) := by omega
      have C := contains_any w _ a ha han p
      by_cases hgt : last < p
      · cases hi : isB a p
        · have HE : Hid (nextB s a last = p) := Lib.hid (next_take_hit hno.out hlt HP.out (by rw [hi]; simp [hgt]))
          rw [hi] at C
          go_wp2_with fail
          refine C.mono ?_
          rintro e w5 ⟨rfl, rfl⟩
          go_wp2
          go_ret
          exact ⟨by rw [HE.out]; rfl, rfl⟩
        · have HE : Hid (nextL (s.take (k + 1)) a last = []) := Lib.hid (next_take_more hno.out hlt HP.out (by rw [hi]; simp))
          rw [hi] at C
          go_wp2_with fail
          refine C.mono ?_
          rintro e w5 ⟨rfl, rfl⟩
          go_wp2
          go_round
          case rel => exact ⟨k + 1, by omega, by go_num, HE⟩
          case measure => simp [intOf]; omega
      · have HE : Hid (nextL (s.take (k + 1)) a last = []) := Lib.hid (next_take_more hno.out hlt HP.out (by simp [hgt]))
        have hg2 : decide (last < p) = false := by simp [hgt]
        clear C
        go_wp2
        go_round
        case rel => exact ⟨k + 1, by omega, by go_num, HE⟩
        case measure => simp [intOf]; omega
    · obtain rfl : k = s.length := by omega
      have HE : Hid (nextB s a last = -1) := Lib.hid (by
        have := hno.out
        rw [List.take_length] at this
        unfold nextB
        rw [this]
        rfl)
      go_wp2
      go_ret
      exact ⟨by rw [HE.out]; rfl, rfl⟩
end Go.Proofs.Ytkdebpfdiblliaa

/- Contract of the program's walkedRows: it meets all that the seats allow, in their order, and stops at the n-th. -/
namespace Go.Proofs.Ytkdebpfdiblliaa
open Go.ChangeShapes Go.WideShapes Go.ChangeAt Go.RowKit

/-- The n-th of all, if there is one; how many were met. -/
def wrB (E : List (List Int)) (n : Int) : List Int := if 0 ≤ n ∧ n < (E.length : Int) then E.getD n.toNat [] else []
def wcB (E : List (List Int)) (n : Int) : Int := if 0 ≤ n ∧ n < (E.length : Int) then n else (E.length : Int)
/-- What holds while it walks: T is still to come. -/
structure Wk (ss : List (List Int)) (n : Int) (rows : List Int) (last : Int) (met : Nat) (T : List (Option (List Int))) : Prop where
  come : T.filterMap id = (allS ss []).drop met
  top : met ≤ (allS ss []).length
  low : n < 0 ∨ (met : Int) ≤ n
  len : rows.length ≤ ss.length
  lst : -1 ≤ last
  pos : ∀ x ∈ rows, 0 ≤ x
theorem Wk.start (ss : List (List Int)) (n : Int) : Wk ss n [] (-1) 0 (comeT ss [] (-1)) := by
  refine ⟨?_, Nat.zero_le _, by omega, Nat.zero_le _, by decide, by simp⟩
  have e : comeT ss [] (-1) = allT ss [] := by
    unfold comeT
    rw [here_all]
    exact List.append_nil _
  rw [e, all_found, List.drop_zero]
theorem Wk.nil {ss : List (List Int)} {n : Int} {rows : List Int} {last : Int} {met : Nat} {T : List (Option (List Int))} (h : Wk ss n rows last met T) (hT : T = []) : wcB (allS ss []) n = (met : Int) ∧ wrB (allS ss []) n = [] := by
  have hc := h.come
  rw [hT, List.filterMap_nil] at hc
  have hl := congrArg List.length hc
  rw [List.length_drop, List.length_nil] at hl
  have := h.top
  have := h.low
  unfold wcB wrB
  rw [if_neg (by omega), if_neg (by omega)]
  exact ⟨by omega, rfl⟩
theorem Wk.back {ss : List (List Int)} {n : Int} {r' : List Int} {x last : Int} {met : Nat} {T T' : List (Option (List Int))} (h : Wk ss n (r' ++ [x]) last met T) (hT : T = T') : Wk ss n r' x met T' := by
  have hl := h.len
  rw [List.length_append, List.length_singleton] at hl
  have := h.pos x (by simp)
  exact ⟨by rw [← hT]; exact h.come, h.top, h.low, by omega, by omega, fun y hy => h.pos y (by simp [hy])⟩
theorem Wk.fail {ss : List (List Int)} {n : Int} {rows : List Int} {last last' : Int} {met : Nat} {T T' : List (Option (List Int))} (h : Wk ss n rows last met T) (hT : T = none :: T') (hl : -1 ≤ last') : Wk ss n rows last' met T' := by
  have hc := h.come
  rw [hT, List.filterMap_cons] at hc
  exact ⟨hc, h.top, h.low, h.len, hl, h.pos⟩
theorem Wk.give {ss : List (List Int)} {n : Int} {rows : List Int} {last x : Int} {met : Nat} {T T' : List (Option (List Int))} (h : Wk ss n rows last met T) (hT : T = none :: T') (hx : 0 ≤ x) (hlt : rows.length < ss.length) : Wk ss n (rows ++ [x]) (-1) met T' := by
  have hc := h.come
  rw [hT, List.filterMap_cons] at hc
  refine ⟨hc, h.top, h.low, by rw [List.length_append, List.length_singleton]; omega, by decide, fun y hy => ?_⟩
  rcases List.mem_append.1 hy with hy | hy
  · exact h.pos y hy
  · rw [List.mem_singleton] at hy
    omega
theorem Wk.met {ss : List (List Int)} {n : Int} {rows : List Int} {last : Int} {met : Nat} {T T' : List (Option (List Int))} (h : Wk ss n rows last met T) (hT : T = some rows :: T') :
    met < (allS ss []).length ∧ (allS ss []).getD met [] = rows ∧ T'.filterMap id = (allS ss []).drop (met + 1) := by
  have hc := h.come
  rw [hT, List.filterMap_cons] at hc
  have hl : met < (allS ss []).length := by
    apply Classical.byContradiction
    intro hn
    rw [List.drop_of_length_le (by omega)] at hc
    cases hc
  rw [List.drop_eq_getElem_cons hl] at hc
  simp only [id, List.cons.injEq] at hc
  refine ⟨hl, ?_, hc.2⟩
  rw [List.getD_eq_getElem?_getD, List.getElem?_eq_getElem hl]
  exact hc.1.symm
theorem Wk.hit {ss : List (List Int)} {n : Int} {rows : List Int} {last : Int} {met : Nat} {T T' : List (Option (List Int))} (h : Wk ss n rows last met T) (hT : T = some rows :: T') (hn : (met : Int) = n) : wcB (allS ss []) n = (met : Int) ∧ wrB (allS ss []) n = rows := by
  obtain ⟨h1, h2, _⟩ := h.met hT
  unfold wcB wrB
  rw [if_pos (by omega), if_pos (by omega), ← hn, Int.toNat_natCast]
  exact ⟨rfl, h2⟩
theorem Wk.pass {ss : List (List Int)} {n : Int} {rows : List Int} {last : Int} {met : Nat} {T T' : List (Option (List Int))} (h : Wk ss n rows last met T) (hT : T = some rows :: T') (hn : (met : Int) ≠ n) : Wk ss n rows last (met + 1) T' := by
  obtain ⟨h1, h2, h3⟩ := h.met hT
  have := h.low
  exact ⟨h3, by omega, by omega, h.len, h.lst, h.pos⟩
theorem wrap_small {n : Int} (h : 0 ≤ n ∧ n < 4611686018427387904) : IntKind.i64.wrap n = n := by
  rw [IntKind.wrap_i64]
  omega
theorem Own.short {w : World} {base : Nat} {ar : Option Addr} {cr : Nat} {r' : List Int} {x : Int} {n : Nat} (h : Own w base (.slice ar n cr) (r' ++ [x])) :
    ∃ g, ar = some ⟨g, 0, none⟩ ∧ Own w base (.slice (some ⟨g, 0, none⟩) r'.length cr) r' ∧ w.cell? ⟨g, r'.length, none⟩ = some (.int .i64 x) ∧ r'.length + 1 ≤ cr := by
  have hrd := h.rd
  unfold Own World.ownsRow at h
  rcases h.2 with ⟨h1, h2⟩ | ⟨g, cap, cur, hv, hb, hg, hc, hm, hs, ht⟩
  · simp at h2
  · simp only [Value.slice.injEq] at hv
    obtain ⟨rfl, rfl, rfl⟩ := hv
    rw [List.length_append, List.length_singleton] at hc
    refine ⟨g, rfl, ⟨by simp, .inr ⟨g, cr, cur, rfl, hb, hg, by omega, hm, hs, ?_⟩⟩, ?_, hc⟩
    · rw [Nat.mul_one, List.length_append, List.length_singleton] at ht
      have := congrArg (List.take r'.length) ht
      rw [List.take_take, Nat.min_eq_left (by omega), List.map_append, List.take_append_of_le_length (by simp)] at this
      have e : (r'.map (Value.int .i64)).take r'.length = r'.map (Value.int .i64) := List.take_of_length_le (by simp)
      rw [e] at this
      rw [Nat.mul_one]
      exact this
    · obtain ⟨a, c, he, hr⟩ := hrd
      simp only [Value.slice.injEq] at he
      obtain ⟨rfl, _, rfl⟩ := he
      rcases hr with hr | ⟨b, off, he, hb2, hcell⟩
      · simp at hr
      · simp only [Option.some.injEq, Addr.mk.injEq, and_true] at he
        obtain ⟨rfl, rfl⟩ := he
        have := hcell r'.length (by simp)
        rw [Nat.zero_add, List.getD_eq_getElem?_getD, List.getElem?_append_right (Nat.le_refl _), Nat.sub_self] at this
        exact this
def atBack (w : World) (a0 : Option Addr) (c0 : Nat) (ss : List (List Int)) (n : Int) : Nat → Act → World → Prop := fun m a wr => ∃ (rows : List Int) (vr : Value) (met : Nat) (last : Int), m = 2 * (backT ss rows rows.length).length + 1 ∧ Wk ss n rows last met (backT ss rows rows.length) ∧ Own wr w.heap.size vr rows ∧ Keep w wr ∧ ∃ (u9 u10 u11 u12 u13 u14 u15 u16 u17 u18 u19 u20 u21 u22 u23 u24 u25 u26 u27 u28 u29 u30 u31 u32 u33 u34 u35 u36 u37 u38 u39 u40 u41 u42 u43 u44 u45 u46 u47 u48 u49 u50 u51 : Value), a = { tmps := #[.slice a0 ss.length c0, .int .i64 n, undef, undef, .slice none 0 0, .int .i64 0, vr, .int .i64 met, .int .i64 last, u9, u10, u11, u12, u13, u14, u15, u16, u17, u18, u19, u20, u21, u22, u23, u24, u25, u26, u27, u28, u29, u30, u31, u32, u33, u34, u35, u36, u37, u38, u39, u40, u41, u42, u43, u44, u45, u46, u47, u48, u49, u50, u51], defers := [] }
def atOn (w : World) (a0 : Option Addr) (c0 : Nat) (ss : List (List Int)) (n : Int) : Nat → Act → World → Prop := fun m a wr => ∃ (rows : List Int) (vr : Value) (met : Nat) (last : Int), m = 2 * (comeT ss rows last).length ∧ Wk ss n rows last met (comeT ss rows last) ∧ Own wr w.heap.size vr rows ∧ Keep w wr ∧ ∃ (u9 u10 u11 u12 u13 u14 u15 u16 u17 u18 u19 u20 u21 u22 u23 u24 u25 u26 u27 u28 u29 u30 u31 u32 u33 u34 u35 u36 u37 u38 u39 u40 u41 u42 u43 u44 u45 u46 u47 u48 u49 u50 u51 : Value), a = { tmps := #[.slice a0 ss.length c0, .int .i64 n, undef, undef, .slice none 0 0, .int .i64 0, vr, .int .i64 met, .int .i64 last, u9, u10, u11, u12, u13, u14, u15, u16, u17, u18, u19, u20, u21, u22, u23, u24, u25, u26, u27, u28, u29, u30, u31, u32, u33, u34, u35, u36, u37, u38, u39, u40, u41, u42, u43, u44, u45, u46, u47, u48, u49, u50, u51], defers := [] }
set_option maxRecDepth 100000 in
set_option maxHeartbeats 4000000 in
theorem walkedRows_any (w : World) (v : Value) (ss : List (List Int)) (n : Int) (h : RdL w v ss) (hsl : ss.length ≤ 1048576) (hs : ∀ i, i < ss.length → (ss.getD i []).Pairwise (· < ·) ∧ (ss.getD i []).length ≤ 1048576) (hE : (allS ss []).length ≤ 1000000000000000000) :
    Calls Try.prog 37 #[v, .int .i64 n] w fun e w' => ∃ v', e = .returned (.tuple #[v', .int .i64 (wcB (allS ss []) n)]) ∧ Own w' w.heap.size v' (wrB (allS ss []) n) ∧ Keep w w' := by
  have hL := h
  obtain ⟨a0, c0, rfl, -⟩ := id h
  have hown0 : Own (w.alloc (.cells #[] 2)) w.heap.size (.slice (some ⟨w.heap.size, 0, none⟩) 0 0) [] := World.ownsRow_lit w #[] 0 (Nat.le_refl _) (by decide) rfl
  have K0 : Keep w (w.alloc (.cells #[] 2)) := (Keep.refl w).alloc _
  obtain ⟨i0, hi, hz0, hz1, hz2⟩ := info_parts Try.infoI
  have hS := Lib.hid hs
  clear h hs
  have W0 := Wk.start ss n
  go_enter Try.func37, Try.ntmps37
  go_wp2
  refine wp_scope_two (atBack w a0 c0 ss n) (atOn w a0 c0 ss n) rfl rfl ?pass0 ?pass1 ?first
  case pass0 =>
    rintro m a wr ⟨rows, vr, met, last, hm, hW, hO, hK, u9, u10, u11, u12, u13, u14, u15, u16, u17, u18, u19, u20, u21, u22, u23, u24, u25, u26, u27, u28, u29, u30, u31, u32, u33, u34, u35, u36, u37, u38, u39, u40, u41, u42, u43, u44, u45, u46, u47, u48, u49, u50, u51, rfl⟩
    obtain ⟨ar, cr, rfl, -⟩ := id hO.rd
    have HM0 := Lib.hid hm
    have RS := hL
    clear hown0 K0 W0 hm
    by_cases h0 : rows.length = 0
    · have hr0 : rows = [] := List.eq_nil_of_length_eq_zero h0
      have hb0 : ((rows.length : Int) == 0) = true := by simp [h0]
      have HA : Hid (wcB (allS ss []) n = (met : Int) ∧ wrB (allS ss []) n = rows) := Lib.hid (by rw [hr0]; exact hW.nil (by rw [hr0]; rfl))
      clear h0 hr0 hW hS RS hL
      go_wp2
      rw [below2_ret]
      go_ret2
      exact ⟨.slice ar rows.length cr, by rw [HA.out.1]; rfl, by rw [HA.out.2]; exact hO, hK⟩
    · obtain ⟨r', x, hrx⟩ : ∃ r' x, rows = r' ++ [x] := ⟨rows.dropLast, rows.getLast (fun e => h0 (by rw [e]; rfl)), (List.dropLast_concat_getLast _).symm⟩
      subst hrx
      have hlen : (r' ++ [x]).length = r'.length + 1 := by simp
      have HC : Hid (backT ss (r' ++ [x]) (r' ++ [x]).length = comeT ss r' x) := Lib.hid (back_snoc ss r' x)
      have hb0 : (((r'.length + 1 : Nat) : Int) == 0) = false := by simp; omega
      have hW' := hW.back HC.out
      have HM : Hid (2 * (comeT ss r' x).length < m) := Lib.hid (by rw [← HC.out]; have := HM0.out; omega)
      have hrl := hW'.len
      obtain ⟨g, hg, hO', hcell, hcap⟩ := hO.short
      subst hg
      have i1 : IntKind.i64.wrap (((r'.length + 1 : Nat) : Int) - 1) = (r'.length : Int) := by
        have : ((r'.length + 1 : Nat) : Int) - 1 = (r'.length : Int) := by omega
        rw [this]
        exact wrap_small (by omega)
      have i2 : (0 : Int) ≤ (r'.length : Int) := Int.natCast_nonneg _
      have i3 : (r'.length : Int) < ((r'.length + 1 : Nat) : Int) := by omega
      have i4 : (r'.length : Int) ≤ (cr : Int) := by omega
      rw [hlen]
      clear h0 hW hS RS hL hO HC hlen
      go_wp2
      go_step3
      refine below2_to1 ?_
      exact ⟨_, HM.out, r', _, met, x, rfl, hW', hO', hK, _, _, _, _, _, _, _, _, _, _, _, _, _, _, _, _, _, _, _, _, _, _, _, _, _, _, _, _, _, _, _, _, _, _, _, _, _, _, _, _, _, _, _, rfl⟩

  case pass1 =>
    intro m pass0
    rintro a wr ⟨rows, vr, met, last, hm, hW, hO, hK, u9, u10, u11, u12, u13, u14, u15, u16, u17, u18, u19, u20, u21, u22, u23, u24, u25, u26, u27, u28, u29, u30, u31, u32, u33, u34, u35, u36, u37, u38, u39, u40, u41, u42, u43, u44, u45, u46, u47, u48, u49, u50, u51, rfl⟩
    obtain ⟨ar, cr, rfl, -⟩ := id hO.rd
    have HM0 := Lib.hid hm
    have PB := Lib.hid pass0
    clear hown0 K0 W0 hm pass0
    have hwl := hW.len
    by_cases hfull : rows.length = ss.length
    · have HF : Hid (comeT ss rows last = some rows :: backT ss rows rows.length) := Lib.hid (come_full hfull)
      have hb1 : ((rows.length : Int) == (ss.length : Int)) = true := by simp [hfull]
      have hb1' : ((ss.length : Int) == (rows.length : Int)) = true := by simp [hfull]
      clear hfull
      by_cases hmn : (met : Int) = n
      · have HA : Hid (wcB (allS ss []) n = (met : Int) ∧ wrB (allS ss []) n = rows) := Lib.hid (hW.hit HF.out hmn)
        have hb2 : ((met : Int) == n) = true := by simp [hmn]
        clear hmn hW hS hL PB hwl
        go_wp2
        rw [below2_ret]
        go_ret2
        exact ⟨.slice ar rows.length cr, by rw [HA.out.1]; rfl, by rw [HA.out.2]; exact hO, hK⟩
      · have hW2 := hW.pass HF.out hmn
        have hb2 : ((met : Int) == n) = false := by simp [hmn]
        have htop := hW2.top
        have i1 : IntKind.i64.wrap ((met : Int) + 1) = ((met + 1 : Nat) : Int) := by
          have : (met : Int) + 1 = ((met + 1 : Nat) : Int) := by omega
          rw [this]
          exact wrap_small (by omega)
        have HM : Hid (2 * (backT ss rows rows.length).length + 1 < m) := Lib.hid (by rw [HM0.out, HF.out, List.length_cons]; omega)
        clear hmn hW hS hL PB hwl htop
        go_wp2
        go_step3
        refine below2_to0 ?_
        exact ⟨_, HM.out, rows, _, met + 1, last, rfl, hW2, hO, hK, _, _, _, _, _, _, _, _, _, _, _, _, _, _, _, _, _, _, _, _, _, _, _, _, _, _, _, _, _, _, _, _, _, _, _, _, _, _, _, _, _, _, _, rfl⟩
    · have hlt : rows.length < ss.length := by omega
      have hb1 : ((rows.length : Int) == (ss.length : Int)) = false := by simp; omega
      have RS := hL.keep hK
      obtain ⟨a', c', he', RS⟩ := RS
      simp only [Value.slice.injEq, true_and] at he'
      obtain ⟨rfl, rfl⟩ := he'
      rcases RS with h0 | ⟨b, o, rfl, hb, hc⟩
      · exfalso; rw [h0] at hlt; simp at hlt
      obtain ⟨vi, d1, r2⟩ := hc rows.length hlt
      obtain ⟨hs1, hs2⟩ := hS.out rows.length hlt
      have j1 : (0 : Int) ≤ (rows.length : Int) := Int.natCast_nonneg _
      have j2 : (rows.length : Int) < (ss.length : Int) := by omega
      have C := nextFor_any wr vi _ (ss.getD rows.length []) rows last r2 hO.rd hs2 (by omega)
      obtain ⟨az, cz, hvi, -⟩ := id r2
      have hsz := hK.size
      rcases hnx : nextL (ss.getD rows.length []) rows last with _ | ⟨x, t⟩
      · have HF : Hid (comeT ss rows last = none :: backT ss rows rows.length) := Lib.hid (come_none hlt hnx)
        have hnb : nextB (ss.getD rows.length []) rows last = -1 := by unfold nextB; rw [hnx]; rfl
        rw [hnb] at C
        have hW2 := hW.fail HF.out (last' := -1) (by decide)
        have HM : Hid (2 * (backT ss rows rows.length).length + 1 < m) := Lib.hid (by rw [HM0.out, HF.out, List.length_cons]; omega)
        have hrb : ((-1 : Int) != -1) = false := by decide
        clear hc hs1 hs2 hnx hnb hS hL hW hfull r2 hb hwl
        generalize (ss.getD rows.length []).length = sl at hvi
        subst hvi
        go_wp2_with fail
        refine C.mono ?_
        rintro e w5 ⟨rfl, rfl⟩
        clear C
        go_wp2
        go_step3
        simp only [Exit.then]
        rename_i hkk
        apply hkk
        exact PB.out _ _ _ HM.out ⟨rows, _, met, -1, rfl, hW2, hO, hK, _, _, _, _, _, _, _, _, _, _, _, _, _, _, _, _, _, _, _, _, _, _, _, _, _, _, _, _, _, _, _, _, _, _, _, _, _, _, _, _, _, _, _, rfl⟩
      · obtain ⟨-, hx1, -⟩ := next_step hs1 hnx
        have hx0 : 0 ≤ x := by have := hW.lst; omega
        have HF : Hid (comeT ss rows last = none :: comeT ss (rows ++ [x]) (-1)) := Lib.hid (come_give hlt hs1 hnx)
        have hnb : nextB (ss.getD rows.length []) rows last = x := by unfold nextB; rw [hnx]; rfl
        rw [hnb] at C
        have hW2 := hW.give HF.out hx0 hlt
        have HM : Hid (2 * (comeT ss (rows ++ [x]) (-1)).length < m) := Lib.hid (by rw [HM0.out, HF.out, List.length_cons]; omega)
        have hrb : (x != -1) = true := by simp; omega
        clear hc hs1 hs2 hnx hnb hS hL hW hfull r2 hb PB hx1
        generalize (ss.getD rows.length []).length = sl at hvi
        subst hvi
        go_wp2_with fail
        refine C.mono ?_
        rintro e w5 ⟨rfl, rfl⟩
        clear C
        go_wp2_with (at_builtin; refine wpList_append_own _ rfl _ _ 27 rfl w.heap.size 2 i0 (.int .i64 0) 1 8 Try.underlying27 hi hz0 hz1 hz2 rfl (by decide) _ _ _ rfl (World.ownsRow.alloc hO _) ⟨_, 0, none⟩ 1 1 [.int .i64 x] rfl rfl ?c1 ?c2 ?c3 ?c4 ?c5 ?_)
        case c1 =>
          intro j u hj
          match j, hj with
          | 0, hj => simp at hj; subst hj; simp [Addr.add]
        case c2 => intro u hu; simp at hu; subst hu; rfl
        case c3 => unfold maxLen; omega
        case c4 => omega
        case c5 => simp; omega
        intro v' w2 hown' hgrow _
        have hK2 : Keep w w2 := (hK.alloc _).grown hgrow hO.ge
        have hO2 := own_hit hown'
        clear hgrow hown' hO hK
        go_wp2
        go_step3
        refine below2_to1 ?_
        exact ⟨_, HM.out, rows ++ [x], v', met, -1, rfl, hW2, hO2, hK2, _, _, _, _, _, _, _, _, _, _, _, _, _, _, _, _, _, _, _, _, _, _, _, _, _, _, _, _, _, _, _, _, _, _, _, _, _, _, _, _, _, _, _, rfl⟩
  case first =>
    intro P1
    have PB := Lib.hid P1
    clear P1
    go_wp2
    go_step3
    simp only [Exit.then]
    rename_i hkk
    apply hkk
    refine PB.out _ _ _ ⟨[], _, 0, -1, rfl, W0, hown0, K0, _, _, _, _, _, _, _, _, _, _, _, _, _, _, _, _, _, _, _, _, _, _, _, _, _, _, _, _, _, _, _, _, _, _, _, _, _, _, _, _, _, _, _, rfl⟩
end Go.Proofs.Ytkdebpfdiblliaa

/- Contracts of the program's RowsCount and RowsAt. -/
namespace Go.Proofs.Ytkdebpfdiblliaa
open Go.ChangeShapes Go.WideShapes Go.ChangeAt Go.RowKit

theorem rcnt_top {es : List Ev} (hx : es.length ≤ 9) : rcntL es ≤ 47784725839872000 := by
  have a0 := fac_mono9 (m := (plcW es 0).length - 1) (by have := plcW_9 hx 0; omega)
  have a1 := fac_mono9 (m := (plcW es 1).length - 1) (by have := plcW_9 hx 1; omega)
  have a2 := fac_mono9 (m := (plcW es 2).length - 1) (by have := plcW_9 hx 2; omega)
  have b0 := fac_pos ((plcW es 0).length - 1)
  have b1 := fac_pos ((plcW es 1).length - 1)
  have b2 := fac_pos ((plcW es 2).length - 1)
  unfold rcntL
  have h1 := Int.mul_le_mul a0 a1 (by omega) (by omega)
  have h2 := Int.mul_le_mul h1 a2 (by omega) (by omega)
  omega
theorem all_len {dss : List (List Dd)} (hb : workB dss = true) : ((allS (seatsL (eventsB dss)) []).length : Int) = rcntL (eventsB dss) := by
  rw [all_rows hb, List.length_map, List.length_range]
  have := rcnt_pos (eventsB dss)
  omega
theorem all_top (dss : List (List Dd)) : (allS (seatsL (eventsB dss)) []).length ≤ 1000000000000000000 := by
  cases hb : workB dss
  · rw [all_none hb]; simp
  · have h1 := all_len hb
    have h2 := rcnt_top (eventsB_len9 dss)
    omega
theorem wr_same (dss : List (List Dd)) (n : Int) : wrB (allS (seatsL (eventsB dss)) []) n = ratB dss n := by
  cases hb : workB dss
  · have hc : rcntB dss = -1 := by unfold rcntB; rw [hb]; rfl
    rw [all_none hb]
    unfold wrB ratB
    rw [hc, if_neg (show ¬ (0 ≤ n ∧ n < (-1 : Int)) by omega)]
    split
    · rename_i h
      have : n = 0 := by simp at h; omega
      subst this
      rfl
    · rfl
  · have hc : rcntB dss = rcntL (eventsB dss) := by unfold rcntB; rw [hb]; rfl
    have hl := all_len hb
    unfold wrB ratB
    rw [hl, hc]
    split
    · rename_i h
      rw [all_rows hb, List.getD_eq_getElem?_getD, List.getElem?_map, List.getElem?_range (by omega)]
      show ratL (eventsB dss) ((n.toNat : Nat) : Int) = ratL (eventsB dss) n
      rw [Int.toNat_of_nonneg h.1]
    · rfl
theorem wc_same {dss : List (List Dd)} (hb : workB dss = true) : wcB (allS (seatsL (eventsB dss)) []) (-1) = rcntB dss := by
  unfold wcB rcntB
  rw [if_neg (by omega), all_len hb, if_pos hb]
set_option maxHeartbeats 1000000 in
theorem implRowsCount_any (w : World) (v : Value) (dss : List (List Dd)) (h : RdW w v dss) (hx : dss.length ≤ 1048576) (hm : ∀ i, i < dss.length → (dss.getD i []).length ≤ 1048576) :
    Calls Try.prog 11 #[v] w fun e w' => e = .returned (.int .i64 (rcntB dss)) ∧ Keep w w' := by
  have h12 : (eventsB dss).length ≤ 12 := by have := eventsB_len9 dss; omega
  have CW := implWorkOk_any w v dss h hx hm
  cases hb : workB dss
  · have HN : Hid (rcntB dss = -1) := Lib.hid (by unfold rcntB; rw [hb]; rfl)
    rw [hb] at CW
    go_enter Try.func11, Try.ntmps11
    go_wp2_with fail
    refine CW.mono ?_
    rintro e w1 ⟨rfl, k1⟩
    go_wp2
    go_ret
    exact ⟨by rw [HN.out]; rfl, k1⟩
  · have HN : Hid (rcntB dss = wcB (allS (seatsL (eventsB dss)) []) (-1)) := Lib.hid (wc_same hb).symm
    rw [hb] at CW
    go_enter Try.func11, Try.ntmps11
    go_wp2_with fail
    refine CW.mono ?_
    rintro e w1 ⟨rfl, k1⟩
    go_wp2_with fail
    refine (implEventsOf_any _ _ _ (h.keep k1) hx hm).mono ?_
    rintro e w2 ⟨v2, rfl, a2, k2⟩
    go_wp2_with fail
    refine (seatsOf_any _ _ _ a2.rd h12).mono ?_
    rintro e w3 ⟨v3, rfl, rc, k3⟩
    go_wp2_with fail
    refine (walkedRows_any _ _ _ (-1) rc (by have := seats_36 h12; omega) (fun i hi => ⟨(seat_rises h12 hi).1, by have := (seat_rises h12 hi).2; omega⟩) (all_top dss)).mono ?_
    rintro e w4 ⟨v4, rfl, o4, k4⟩
    go_wp2
    go_ret
    exact ⟨by rw [HN.out]; rfl, ((k1.trans k2).trans k3).trans k4⟩
set_option maxHeartbeats 1000000 in
theorem implRowsAt_own (w : World) (v : Value) (dss : List (List Dd)) (n : Int) (h : RdW w v dss) (hx : dss.length ≤ 1048576) (hm : ∀ i, i < dss.length → (dss.getD i []).length ≤ 1048576) :
    Calls Try.prog 10 #[v, .int .i64 n] w fun e w' => ∃ v', e = .returned v' ∧ Own w' w.heap.size v' (ratB dss n) ∧ Keep w w' := by
  have h12 : (eventsB dss).length ≤ 12 := by have := eventsB_len9 dss; omega
  have HN : Hid (ratB dss n = wrB (allS (seatsL (eventsB dss)) []) n) := Lib.hid (wr_same dss n).symm
  go_enter Try.func10, Try.ntmps10
  go_wp2_with fail
  refine (implEventsOf_any _ _ _ h hx hm).mono ?_
  rintro e w2 ⟨v2, rfl, a2, k2⟩
  go_wp2_with fail
  refine (seatsOf_any _ _ _ a2.rd h12).mono ?_
  rintro e w3 ⟨v3, rfl, rc, k3⟩
  go_wp2_with fail
  refine (walkedRows_any _ _ _ n rc (by have := seats_36 h12; omega) (fun i hi => ⟨(seat_rises h12 hi).1, by have := (seat_rises h12 hi).2; omega⟩) (all_top dss)).mono ?_
  rintro e w4 ⟨v4, rfl, o4, k4⟩
  have hs := (k2.trans k3).size
  go_wp2
  go_ret
  exact ⟨_, rfl, by rw [HN.out]; exact o4.base_le hs, (k2.trans k3).trans k4⟩
theorem implRowsAt_cap (w : World) (v : Value) (dss : List (List Dd)) (n : Int) (h : RdW w v dss) (hx : dss.length ≤ 1048576) (hm : ∀ i, i < dss.length → (dss.getD i []).length ≤ 1048576) :
    Calls Try.prog 10 #[v, .int .i64 n] w fun e w' => ∃ v', e = .returned v' ∧ Row w' w.heap.size v' (ratB dss n) ∧ (ratB dss n).length ≤ capZ v' ∧ Keep w w' :=
  (implRowsAt_own w v dss n h hx hm).mono (fun _ _ ⟨v', he, ho, k⟩ => ⟨v', he, ho.row, ho.capz, k⟩)
theorem implRowsAt_any (w : World) (v : Value) (dss : List (List Dd)) (n : Int) (h : RdW w v dss) (hx : dss.length ≤ 1048576) (hm : ∀ i, i < dss.length → (dss.getD i []).length ≤ 1048576) :
    Calls Try.prog 10 #[v, .int .i64 n] w fun e w' => ∃ v', e = .returned v' ∧ Row w' w.heap.size v' (ratB dss n) ∧ Keep w w' :=
  (implRowsAt_own w v dss n h hx hm).mono (fun _ _ ⟨v', he, ho, k⟩ => ⟨v', he, ho.row, k⟩)
end Go.Proofs.Ytkdebpfdiblliaa

/- Plain facts on webs that the laws of chapter 2 ask for: joined, common and less; then and back; ways are the least that go on by themselves, and are what comes of as many rounds as there are. Nothing of the program. -/
namespace Go.Proofs.Ytkdebpfdiblliaa
open Go.RowKit

theorem getD_zip (f : Int → Int → Int) {n : Nat} {a b : List Int} (ha : a.length = n) (hb : b.length = n) {i : Nat} (hi : i < n) : (List.zipWith f a b).getD i 0 = f (a.getD i 0) (b.getD i 0) := by
  rw [List.getD_eq_getElem?_getD, List.getElem?_zipWith, List.getD_eq_getElem?_getD, List.getD_eq_getElem?_getD, List.getElem?_eq_getElem (show i < a.length by omega), List.getElem?_eq_getElem (show i < b.length by omega)]
  rfl
theorem web_mix (f : Int → Int → Int) (hf : ∀ {n : Nat} {s t : Int}, okB n s = true → okB n t = true → okB n (f s t) = true) {n : Nat} {a b : List Int} (ha : Web n a) (hb : Web n b) : Web n (List.zipWith f a b) := by
  refine ⟨ha.1, by rw [List.length_zipWith, ha.2.1, hb.2.1]; omega, fun i hi => ?_⟩
  rw [getD_zip f ha.2.1 hb.2.1 hi]
  exact hf (ha.2.2 i hi) (hb.2.2 i hi)
theorem mixL_web (f : Int → Int → Int) {n : Nat} {a b : List Int} (ha : Web n a) (hb : Web n b) : mixL f a b = List.zipWith f a b := by
  unfold mixL
  rw [if_pos (twoB_iff.2 ⟨by rw [ha.2.1, hb.2.1], ha.b, hb.b⟩)]
theorem web_join {n : Nat} {a b : List Int} (ha : Web n a) (hb : Web n b) : Web n (mixL orI a b) ∧ ∀ i j, i < n → line (mixL orI a b) i j = (line a i j || line b i j) := by
  rw [mixL_web _ ha hb]
  refine ⟨web_mix orI (fun h k => (ok_or h k).1) ha hb, fun i j hi => ?_⟩
  unfold line
  rw [getD_zip orI ha.2.1 hb.2.1 hi]
  exact (ok_or (ha.2.2 i hi) (hb.2.2 i hi)).2 j
theorem web_common {n : Nat} {a b : List Int} (ha : Web n a) (hb : Web n b) : Web n (mixL andI a b) ∧ ∀ i j, i < n → line (mixL andI a b) i j = (line a i j && line b i j) := by
  rw [mixL_web _ ha hb]
  refine ⟨web_mix andI (fun h k => (ok_and h k).1) ha hb, fun i j hi => ?_⟩
  unfold line
  rw [getD_zip andI ha.2.1 hb.2.1 hi]
  exact (ok_and (ha.2.2 i hi) (hb.2.2 i hi)).2 j
theorem web_less {n : Nat} {a b : List Int} (ha : Web n a) (hb : Web n b) : Web n (mixL notI a b) ∧ ∀ i j, i < n → line (mixL notI a b) i j = (line a i j && !line b i j) := by
  rw [mixL_web _ ha hb]
  refine ⟨web_mix notI (fun h k => (ok_not h k).1) ha hb, fun i j hi => ?_⟩
  unfold line
  rw [getD_zip notI ha.2.1 hb.2.1 hi]
  exact (ok_not (ha.2.2 i hi) (hb.2.2 i hi)).2 j
theorem web_then {n : Nat} {a b : List Int} (ha : Web n a) (hb : Web n b) : Web n (thenL a b) ∧ ∀ i j, i < n → (line (thenL a b) i j = true ↔ ∃ k, k < n ∧ line a i k = true ∧ line b k j = true) := by
  have e : thenL a b = a.map (fun x => thenS x b 12) := by
    unfold thenL
    rw [if_pos (twoB_iff.2 ⟨by rw [ha.2.1, hb.2.1], ha.b, hb.b⟩)]
  have hg : ∀ i, i < n → (a.map (fun x => thenS x b 12)).getD i 0 = thenS (a.getD i 0) b 12 := by
    intro i hi
    rw [List.getD_eq_getElem?_getD, List.getElem?_map, List.getD_eq_getElem?_getD, List.getElem?_eq_getElem (show i < a.length by rw [ha.2.1]; exact hi)]
    rfl
  rw [e]
  refine ⟨⟨ha.1, by simp [ha.2.1], fun i hi => ?_⟩, fun i j hi => ?_⟩
  · rw [hg i hi]; exact (ok_then (ha.2.2 i hi) hb 12).1
  · have h := (ok_then (ha.2.2 i hi) hb 12).2 j
    unfold line at h ⊢
    rw [hg i hi, h]
    constructor
    · rintro ⟨k, _, h1, h2⟩; exact ⟨k, inSetB_iff (ha.2.2 i hi) h1, h1, h2⟩
    · rintro ⟨k, hk, h1, h2⟩; exact ⟨k, by have := ha.1; omega, h1, h2⟩
theorem web_back {n : Nat} {a : List Int} (ha : Web n a) : Web n (backL a) ∧ ∀ i j, i < n → j < n → line (backL a) i j = line a j i := by
  have e : backL a = backAll a n := by
    unfold backL
    rw [if_pos ha.b, ha.2.1]
  rw [e]
  have h := web_backAll ha n (Nat.le_refl _)
  exact ⟨h.1, fun i j hi hj => by rw [h.2 i j hi]; simp [hj]⟩
theorem back_back {n : Nat} {a : List Int} (ha : Web n a) : backL (backL a) = a := by
  have h1 := web_back ha
  have h2 := web_back h1.1
  exact Web.ext h2.1 ha fun i j hi hj => by rw [h2.2 i j hi hj, h1.2 j i hj hi]
theorem back_then {n : Nat} {a b : List Int} (ha : Web n a) (hb : Web n b) : backL (thenL a b) = thenL (backL b) (backL a) := by
  have ht := web_then ha hb
  have h1 := web_back ht.1
  have a1 := web_back ha
  have b1 := web_back hb
  have h2 := web_then b1.1 a1.1
  refine Web.ext h1.1 h2.1 fun i j hi hj => ?_
  rw [h1.2 i j hi hj, Bool.eq_iff_iff, ht.2 j i hj, h2.2 i j hi]
  constructor
  · rintro ⟨k, hk, x, y⟩; exact ⟨k, hk, by rw [b1.2 i k hi hk]; exact y, by rw [a1.2 k j hk hj]; exact x⟩
  · rintro ⟨k, hk, x, y⟩; exact ⟨k, hk, by rw [← a1.2 k j hk hj]; exact y, by rw [← b1.2 i k hi hk]; exact x⟩
theorem join_parts {n : Nat} {a b : List Int} (ha : Web n a) (hb : Web n b) : mixL orI (mixL notI a b) (mixL andI a b) = a := by
  have l := web_less ha hb
  have c := web_common ha hb
  have j := web_join l.1 c.1
  refine Web.ext j.1 ha fun i k hi hk => ?_
  rw [j.2 i k hi, l.2 i k hi, c.2 i k hi]
  cases line a i k <;> cases line b i k <;> rfl
theorem join_comm {n : Nat} {a b : List Int} (ha : Web n a) (hb : Web n b) : mixL orI b a = mixL orI a b := by
  have j := web_join ha hb
  have k := web_join hb ha
  exact Web.ext k.1 j.1 fun i m hi hm => by rw [k.2 i m hi, j.2 i m hi, Bool.or_comm]

/-! All lines of a are lines of b. -/
def inL (a b : List Int) : Bool := decide (a.length = b.length) && (List.range a.length).all fun i => notI (a.getD i 0) (b.getD i 0) == 0
theorem inL_web {n : Nat} {a b : List Int} (ha : Web n a) (hb : Web n b) (h : ∀ i j, i < n → j < n → line a i j = true → line b i j = true) : inL a b = true := by
  unfold inL
  rw [Bool.and_eq_true, decide_eq_true_eq, List.all_eq_true]
  refine ⟨by rw [ha.2.1, hb.2.1], fun i hi => ?_⟩
  have hi : i < n := by rw [List.mem_range, ha.2.1] at hi; exact hi
  have ho := ok_not (ha.2.2 i hi) (hb.2.2 i hi)
  rw [beq_iff_eq]
  refine ok_ext ho.1 (ok_zero ha.1) fun j hj => ?_
  rw [ho.2 j, zero_bit]
  have := h i j hi hj
  unfold line at this
  cases h1 : inSetB (a.getD i 0) j with
  | false => rfl
  | true => rw [this h1]; rfl

/-! Ways. -/
inductive Way (zs : List Int) : Nat → Nat → Prop
  | one {i j : Nat} (h : line zs i j = true) : Way zs i j
  | more {i k j : Nat} (h : Way zs i k) (g : line zs k j = true) : Way zs i j
theorem Way.trans {zs : List Int} {i k j : Nat} (h : Way zs i k) (g : Way zs k j) : Way zs i j := by
  induction g with
  | one g => exact .more h g
  | more _ g ih => exact .more ih g
theorem Way.lt {n : Nat} {zs : List Int} (hz : Web n zs) {i j : Nat} (hi : i < n) (h : Way zs i j) : j < n := by
  induction h with
  | one g => exact hz.lt hi g
  | more _ g ih => exact hz.lt ih g
/-- What is found after m are let by: ways, and all that pass the first m alone. -/
theorem wayAll_sound {n : Nat} {zs : List Int} (hz : Web n zs) (m : Nat) (hm : m ≤ n) {i : Nat} (hi : i < n) {j : Nat} (h : line (wayAll zs m) i j = true) : Way zs i j := by
  induction m generalizing i j with
  | zero => exact .one h
  | succ m ih =>
    rw [line_wayAll hz m (by omega) hi, Bool.or_eq_true, Bool.and_eq_true] at h
    rcases h with h | ⟨h1, h2⟩
    · exact ih (by omega) hi h
    · exact (ih (by omega) hi h1).trans (ih (by omega) (by omega) h2)
theorem wayAll_mono {n : Nat} {zs : List Int} (hz : Web n zs) (m : Nat) (hm : m < n) {i : Nat} (hi : i < n) {j : Nat} (h : line (wayAll zs m) i j = true) : line (wayAll zs (m + 1)) i j = true := by
  rw [line_wayAll hz m hm hi, h]; rfl
/-- Behind m rounds two ways that meet at one of the first m are one. -/
theorem wayAll_meet {n : Nat} {zs : List Int} (hz : Web n zs) (m : Nat) (hm : m ≤ n) {i k j : Nat} (hi : i < n) (hk : k < m) (h1 : line (wayAll zs m) i k = true) (h2 : line (wayAll zs m) k j = true) : line (wayAll zs m) i j = true := by
  induction m generalizing i k j with
  | zero => omega
  | succ m ih =>
    have hmn : m < n := by omega
    have ihm := @ih (by omega)
    rw [line_wayAll hz m hmn hi, Bool.or_eq_true, Bool.and_eq_true] at h1
    rw [line_wayAll hz m hmn (show k < n by omega), Bool.or_eq_true, Bool.and_eq_true] at h2
    rw [line_wayAll hz m hmn hi, Bool.or_eq_true, Bool.and_eq_true]
    by_cases e : k = m
    · subst e
      have h1' : line (wayAll zs k) i k = true := by
        rcases h1 with h | h
        · exact h
        · exact h.1
      have h2' : line (wayAll zs k) k j = true := by
        rcases h2 with h | h
        · exact h
        · exact h.2
      exact .inr ⟨h1', h2'⟩
    · have hkm : k < m := by omega
      rcases h1 with h1 | ⟨h1, h1'⟩ <;> rcases h2 with h2 | ⟨h2, h2'⟩
      · exact .inl (ihm hi hkm h1 h2)
      · exact .inr ⟨ihm hi hkm h1 h2, h2'⟩
      · exact .inr ⟨h1, ihm hmn hkm h1' h2⟩
      · exact .inr ⟨h1, h2'⟩
theorem ways_eq {n : Nat} {zs : List Int} (hz : Web n zs) : waysL zs = wayAll zs n := by
  unfold waysL
  rw [if_pos hz.b, hz.2.1]
theorem web_ways {n : Nat} {zs : List Int} (hz : Web n zs) : Web n (waysL zs) := by rw [ways_eq hz]; exact web_wayAll hz n (Nat.le_refl _)
theorem wayAll_old {n : Nat} {zs : List Int} (hz : Web n zs) (m : Nat) (hm : m ≤ n) {i : Nat} (hi : i < n) {j : Nat} (h : line zs i j = true) : line (wayAll zs m) i j = true := by
  induction m with
  | zero => exact h
  | succ m ih => exact wayAll_mono hz m (by omega) hi (ih (by omega))
theorem ways_line {n : Nat} {zs : List Int} (hz : Web n zs) {i : Nat} (hi : i < n) {j : Nat} : line (waysL zs) i j = true ↔ Way zs i j := by
  rw [ways_eq hz]
  constructor
  · exact wayAll_sound hz n (Nat.le_refl _) hi
  · intro h
    induction h with
    | one g => exact wayAll_old hz n (Nat.le_refl _) hi g
    | more h g ih =>
      have hk := h.lt hz hi
      exact wayAll_meet hz n (Nat.le_refl _) hi hk ih (wayAll_old hz n (Nat.le_refl _) hk g)
theorem ways_in {n : Nat} {zs : List Int} (hz : Web n zs) : inL zs (waysL zs) = true :=
  inL_web hz (web_ways hz) fun _ _ hi _ h => (ways_line hz hi).2 (.one h)
theorem ways_on {n : Nat} {zs : List Int} (hz : Web n zs) : inL (thenL (waysL zs) (waysL zs)) (waysL zs) = true := by
  have hw := web_ways hz
  have ht := web_then hw hw
  refine inL_web ht.1 hw fun i j hi _ h => ?_
  obtain ⟨k, hk, h1, h2⟩ := (ht.2 i j hi).1 h
  exact (ways_line hz hi).2 (((ways_line hz hi).1 h1).trans ((ways_line hz hk).1 h2))
theorem ways_ways {n : Nat} {zs : List Int} (hz : Web n zs) : waysL (waysL zs) = waysL zs := by
  have hw := web_ways hz
  refine Web.ext (web_ways hw) hw fun i j hi _ => ?_
  rw [Bool.eq_iff_iff, ways_line hw hi]
  constructor
  · intro h
    induction h with
    | one g => exact g
    | more h g ih =>
      have hk := h.lt hw hi
      exact (ways_line hz hi).2 (((ways_line hz hi).1 (ih hk)).trans ((ways_line hz hk).1 g))
  · exact .one

/-! As many rounds as there are. -/
def goOn (zs : List Int) : Nat → List Int
  | 0 => zs
  | m + 1 => mixL orI zs (thenL (goOn zs m) zs)
theorem web_goOn {n : Nat} {zs : List Int} (hz : Web n zs) (m : Nat) : Web n (goOn zs m) := by
  induction m with
  | zero => exact hz
  | succ m ih => exact (web_join hz (web_then ih hz).1).1
theorem goOn_step {n : Nat} {zs : List Int} (hz : Web n zs) (m : Nat) {i : Nat} (hi : i < n) (j : Nat) : line (goOn zs (m + 1)) i j = true ↔ line zs i j = true ∨ ∃ k, k < n ∧ line (goOn zs m) i k = true ∧ line zs k j = true := by
  show line (mixL orI zs (thenL (goOn zs m) zs)) i j = true ↔ _
  have ht := web_then (web_goOn hz m) hz
  rw [(web_join hz ht.1).2 i j hi, Bool.or_eq_true, ht.2 i j hi]
theorem goOn_sound {n : Nat} {zs : List Int} (hz : Web n zs) (m : Nat) {i : Nat} (hi : i < n) {j : Nat} (h : line (goOn zs m) i j = true) : Way zs i j := by
  induction m generalizing j with
  | zero => exact .one h
  | succ m ih =>
    rcases (goOn_step hz m hi j).1 h with h | ⟨k, hk, h1, h2⟩
    · exact .one h
    · exact .more (ih h1) h2
theorem goOn_mono {n : Nat} {zs : List Int} (hz : Web n zs) (m : Nat) {i : Nat} (hi : i < n) {j : Nat} (h : line (goOn zs m) i j = true) : line (goOn zs (m + 1)) i j = true := by
  induction m generalizing j with
  | zero => exact (goOn_step hz 0 hi j).2 (.inl h)
  | succ m ih =>
    rcases (goOn_step hz m hi j).1 h with h | ⟨k, hk, h1, h2⟩
    · exact (goOn_step hz (m + 1) hi j).2 (.inl h)
    · exact (goOn_step hz (m + 1) hi j).2 (.inr ⟨k, hk, ih h1, h2⟩)
/-- How many lines go from i. -/
def many (zs : List Int) (i n : Nat) : Nat := (List.range n).countP (fun j => line zs i j)
theorem many_le (zs : List Int) (i n : Nat) : many zs i n ≤ n := by
  have := List.countP_le_length (p := fun j => line zs i j) (l := List.range n)
  simpa [many] using this
theorem countP_lt {p q : Nat → Bool} {l : List Nat} (h : ∀ x ∈ l, p x = true → q x = true) {y : Nat} (hy : y ∈ l) (h1 : p y = false) (h2 : q y = true) : l.countP p < l.countP q := by
  induction l with
  | nil => simp at hy
  | cons a l ih =>
    have hle : l.countP p ≤ l.countP q := List.countP_mono_left fun x hx hp => h x (by simp [hx]) hp
    rw [List.countP_cons, List.countP_cons]
    rcases List.mem_cons.1 hy with rfl | hy
    · simp [h1, h2]; omega
    · have := ih (fun x hx => h x (by simp [hx])) hy
      have ha := h a (by simp)
      cases hp : p a with
      | false => simp; split <;> omega
      | true => rw [ha hp]; simp; omega
/-- Row i does not change from m on. -/
def Still (zs : List Int) (i n m : Nat) : Prop := ∀ j, j < n → line (goOn zs (m + 1)) i j = true → line (goOn zs m) i j = true
theorem still_next {n : Nat} {zs : List Int} (hz : Web n zs) {i : Nat} (hi : i < n) {m : Nat} (h : Still zs i n m) : Still zs i n (m + 1) := by
  intro j hj hl
  rcases (goOn_step hz (m + 1) hi j).1 hl with hl | ⟨k, hk, h1, h2⟩
  · exact (goOn_step hz m hi j).2 (.inl hl)
  · exact (goOn_step hz m hi j).2 (.inr ⟨k, hk, h k hk h1, h2⟩)
theorem still_or {n : Nat} {zs : List Int} (hz : Web n zs) {i : Nat} (hi : i < n) (m : Nat) : Still zs i n m ∨ m + 1 ≤ many (goOn zs (m + 1)) i n := by
  induction m with
  | zero =>
    by_cases h : Still zs i n 0
    · exact .inl h
    · right
      obtain ⟨j, hj, h1, h2⟩ : ∃ j, j < n ∧ line (goOn zs (0 + 1)) i j = true ∧ line (goOn zs 0) i j = false := by
        apply Classical.byContradiction
        intro hno
        apply h
        intro j hj h1
        cases h2 : line (goOn zs 0) i j with
        | true => rfl
        | false => exact absurd ⟨j, hj, h1, h2⟩ hno
      have := countP_lt (p := fun j => line (goOn zs 0) i j) (q := fun j => line (goOn zs (0 + 1)) i j) (l := List.range n) (fun x hx hp => goOn_mono hz 0 hi hp) (List.mem_range.2 hj) h2 h1
      unfold many; omega
  | succ m ih =>
    rcases ih with ih | ih
    · exact .inl (still_next hz hi ih)
    · by_cases h : Still zs i n (m + 1)
      · exact .inl h
      · right
        obtain ⟨j, hj, h1, h2⟩ : ∃ j, j < n ∧ line (goOn zs (m + 1 + 1)) i j = true ∧ line (goOn zs (m + 1)) i j = false := by
          apply Classical.byContradiction
          intro hno
          apply h
          intro j hj h1
          cases h2 : line (goOn zs (m + 1)) i j with
          | true => rfl
          | false => exact absurd ⟨j, hj, h1, h2⟩ hno
        have := countP_lt (p := fun j => line (goOn zs (m + 1)) i j) (q := fun j => line (goOn zs (m + 1 + 1)) i j) (l := List.range n) (fun x hx hp => goOn_mono hz (m + 1) hi hp) (List.mem_range.2 hj) h2 h1
        unfold many at ih ⊢
        omega
theorem goOn_still {n : Nat} {zs : List Int} (hz : Web n zs) {i : Nat} (hi : i < n) : Still zs i n n := by
  rcases still_or hz hi n with h | h
  · exact h
  · have := many_le (goOn zs (n + 1)) i n; omega
theorem goOn_ways {n : Nat} {zs : List Int} (hz : Web n zs) : goOn zs n = waysL zs := by
  refine Web.ext (web_goOn hz n) (web_ways hz) fun i j hi hj => ?_
  rw [Bool.eq_iff_iff, ways_line hz hi]
  constructor
  · exact goOn_sound hz n hi
  · intro h
    induction h with
    | one g =>
      have : ∀ m, line (goOn zs m) i _ = true := fun m => by
        induction m with
        | zero => exact g
        | succ m ih => exact goOn_mono hz m hi ih
      exact this n
    | more h g ih =>
      have hk := h.lt hz hi
      exact goOn_still hz hi _ hj ((goOn_step hz n hi _).2 (.inr ⟨_, hk, ih hk, g⟩))
end Go.Proofs.Ytkdebpfdiblliaa

/- Plain facts on order: which webs go round, what a web is sorted to (always the least that may stand there), which lists follow it; sorted follows, just where it does not go round. Nothing of the program. -/
namespace Go.Proofs.Ytkdebpfdiblliaa
open Go.RowKit

/-- Does it go round? -/
def roundB (zs : List Int) : Bool := webB zs && (List.range zs.length).any fun i => line (waysL zs) i i
/-- May i stand next, those in 'done' standing already? -/
def mayB (zs : List Int) (done : Int) (i : Nat) : Bool := !inSetB done i && (notI ((backL zs).getD i 0) done == 0)
/-- The least of the first m that may stand next; -1 where none may. -/
def pick (zs : List Int) (done : Int) : Nat → Int
  | 0 => -1
  | m + 1 => if 0 ≤ pick zs done m then pick zs done m else if mayB zs done m = true then (m : Int) else -1
/-- What stands after k steps, and the set of it; none where nothing may stand next. -/
def sortK (zs : List Int) : Nat → Option (List Int × Int)
  | 0 => some ([], 0)
  | k + 1 => match sortK zs k with
    | none => none
    | some (l, d) => if pick zs d zs.length < 0 then none else some (l ++ [pick zs d zs.length], gAdd d (pick zs d zs.length))
def sortedO (zs : List Int) : Option (List Int × Int) := if webB zs = true then sortK zs zs.length else none
def sortedL (zs : List Int) : List Int := match sortedO zs with
  | none => []
  | some (l, _) => l
def sortedB (zs : List Int) : Bool := (sortedO zs).isSome

theorem round_iff {n : Nat} {zs : List Int} (hz : Web n zs) : roundB zs = true ↔ ∃ i, i < n ∧ Way zs i i := by
  unfold roundB
  rw [hz.b, Bool.true_and, List.any_eq_true, hz.2.1]
  constructor
  · rintro ⟨i, hi, h⟩; exact ⟨i, List.mem_range.1 hi, (ways_line hz (List.mem_range.1 hi)).1 h⟩
  · rintro ⟨i, hi, h⟩; exact ⟨i, List.mem_range.2 hi, (ways_line hz hi).2 h⟩
theorem pick_spec (zs : List Int) (d : Int) (m : Nat) : (pick zs d m = -1 ∧ ∀ i, i < m → mayB zs d i = false) ∨ ∃ i, i < m ∧ pick zs d m = (i : Int) ∧ mayB zs d i = true ∧ ∀ j, j < i → mayB zs d j = false := by
  induction m with
  | zero => exact .inl ⟨rfl, fun i hi => by omega⟩
  | succ m ih =>
    unfold pick
    rcases ih with ⟨h, hall⟩ | ⟨i, hi, h, hm, hl⟩
    · rw [h, if_neg (by omega)]
      cases hb : mayB zs d m with
      | false =>
        refine .inl ⟨by simp, fun i hi => ?_⟩
        by_cases e : i = m
        · rw [e]; exact hb
        · exact hall i (by omega)
      | true => exact .inr ⟨m, by omega, by simp, hb, hall⟩
    · rw [h, if_pos (by omega)]
      exact .inr ⟨i, by omega, rfl, hm, hl⟩
/-- i may stand next just where it does not yet, and all from which a line goes to it do. -/
theorem may_iff {n : Nat} {zs : List Int} (hz : Web n zs) {d : Int} (hd : okB n d = true) {i : Nat} (hi : i < n) : mayB zs d i = true ↔ inSetB d i = false ∧ ∀ j, j < n → line zs j i = true → inSetB d j = true := by
  have hb := web_back hz
  have ho := ok_not (hb.1.2.2 i hi) hd
  unfold mayB
  rw [Bool.and_eq_true, Bool.not_eq_true', beq_iff_eq]
  refine and_congr_right fun _ => ?_
  constructor
  · intro h j hj hl
    have h1 := ho.2 j
    rw [h, zero_bit] at h1
    have h2 : inSetB ((backL zs).getD i 0) j = true := by have := hb.2 i j hi hj; unfold line at this hl; rw [this]; exact hl
    rw [h2] at h1
    cases h3 : inSetB d j with
    | true => rfl
    | false => rw [h3] at h1; cases h1
  · intro h
    refine ok_ext ho.1 (ok_zero hz.1) fun j hj => ?_
    rw [ho.2 j, zero_bit]
    cases h2 : inSetB ((backL zs).getD i 0) j with
    | false => rfl
    | true =>
      have : line zs j i = true := by have e := hb.2 i j hi hj; unfold line at e ⊢; rw [← e]; exact h2
      rw [h j hj this]; rfl
/-- What stands is in the set and only that, each once, below n, each behind all that lead to it; and where the next is less than the one ahead of it a line goes between them. -/
structure Stands (zs : List Int) (n k : Nat) (l : List Int) (d : Int) : Prop where
  ok : okB n d = true
  len : l.length = k
  mem : ∀ j : Nat, j < n → (inSetB d j = true ↔ (j : Int) ∈ l)
  low : ∀ x ∈ l, ∃ j : Nat, x = j ∧ j < n
  once : l.Nodup
  ahead : ∀ p, p < l.length → ∀ i j : Nat, l.getD p 0 = (i : Int) → j < n → line zs j i = true → (j : Int) ∈ l.take p
theorem sort_stands {n : Nat} {zs : List Int} (hz : Web n zs) (k : Nat) {l : List Int} {d : Int} (h : sortK zs k = some (l, d)) : Stands zs n k l d := by
  induction k generalizing l d with
  | zero =>
    simp only [sortK, Option.some.injEq, Prod.mk.injEq] at h
    obtain ⟨rfl, rfl⟩ := h
    exact ⟨ok_zero hz.1, rfl, fun j _ => by rw [zero_bit]; simp, by simp, List.nodup_nil, fun p hp => by simp at hp⟩
  | succ k ih =>
    unfold sortK at h
    cases hs : sortK zs k with
    | none => rw [hs] at h; cases h
    | some q =>
      obtain ⟨l0, d0⟩ := q
      rw [hs] at h
      have S := ih hs
      simp only at h
      split at h
      · cases h
      · rename_i hneg
        simp only [Option.some.injEq, Prod.mk.injEq] at h
        obtain ⟨rfl, rfl⟩ := h
        rcases pick_spec zs d0 zs.length with ⟨e, _⟩ | ⟨i, hi, e, hm, _⟩
        · rw [e] at hneg; omega
        · rw [hz.2.1] at hi
          rw [e]
          have hmi := (may_iff hz S.ok hi).1 hm
          have ha := ok_add S.ok hi
          have hnot : ¬ (i : Int) ∈ l0 := fun hin => by
            have := (S.mem i hi).2 hin
            rw [hmi.1] at this; cases this
          refine ⟨ha.1, by simp [S.len], fun j hj => ?_, fun x hx => ?_, ?_, fun p hp a b hab hb hl => ?_⟩
          · rw [ha.2 j, Bool.or_eq_true, S.mem j hj, List.mem_append, List.mem_singleton, decide_eq_true_eq]
            constructor
            · rintro (h | h)
              · exact .inl h
              · exact .inr (by rw [h])
            · rintro (h | h)
              · exact .inl h
              · exact .inr (by omega)
          · rcases List.mem_append.1 hx with hx | hx
            · exact S.low x hx
            · rw [List.mem_singleton] at hx; exact ⟨i, hx, hi⟩
          · rw [List.nodup_append]
            refine ⟨S.once, by simp, fun a ha b hb => ?_⟩
            rw [List.mem_singleton] at hb
            subst hb
            intro e2; subst e2; exact hnot ha
          · by_cases hpl : p < l0.length
            · rw [List.getD_eq_getElem?_getD, List.getElem?_append_left hpl, ← List.getD_eq_getElem?_getD] at hab
              rw [List.take_append_of_le_length (by omega)]
              exact S.ahead p hpl a b hab hb hl
            · have hpe : p = l0.length := by simp at hp; omega
              subst hpe
              rw [List.getD_eq_getElem?_getD, List.getElem?_append_right (Nat.le_refl _), Nat.sub_self] at hab
              have hai : i = a := by simp at hab; omega
              subst hai
              rw [List.take_append_of_le_length (Nat.le_refl _), List.take_length]
              exact (S.mem b hb).1 (hmi.2 b hb hl)
/-- Where j stands in the list. -/
theorem at_of_mem {l : List Int} {x : Int} (h : x ∈ l) : ∃ p, p < l.length ∧ l.getD p 0 = x := by
  obtain ⟨p, hp, e⟩ := List.getElem_of_mem h
  exact ⟨p, hp, by rw [List.getD_eq_getElem?_getD, List.getElem?_eq_getElem hp]; exact e⟩
theorem at_one {l : List Int} (h : l.Nodup) {p q : Nat} (hp : p < l.length) (hq : q < l.length) (e : l.getD p 0 = l.getD q 0) : p = q := by
  rw [List.getD_eq_getElem?_getD, List.getD_eq_getElem?_getD, List.getElem?_eq_getElem hp, List.getElem?_eq_getElem hq] at e
  simp only [Option.getD_some] at e
  have hp2 := List.pairwise_iff_getElem.1 (List.nodup_iff_pairwise_ne.1 h)
  apply Classical.byContradiction
  intro hne
  by_cases hlt : p < q
  · exact hp2 p q hp hq hlt e
  · exact hp2 q p hq hp (by omega) e.symm
theorem at_take {l : List Int} {x : Int} {p : Nat} (h : x ∈ l.take p) : ∃ q, q < p ∧ q < l.length ∧ l.getD q 0 = x := by
  obtain ⟨q, hq, e⟩ := List.getElem_of_mem h
  rw [List.length_take] at hq
  refine ⟨q, by omega, by omega, ?_⟩
  rw [List.getElem_take] at e
  rw [List.getD_eq_getElem?_getD, List.getElem?_eq_getElem (show q < l.length by omega)]; exact e
theorem nodup_sub_len {a b : List Int} (h : a.Nodup) (hs : ∀ x ∈ a, x ∈ b) : a.length ≤ b.length := by
  induction a generalizing b with
  | nil => simp
  | cons x a ih =>
    rw [List.nodup_cons] at h
    have hx := hs x (by simp)
    have := ih (b := b.erase x) h.2 (fun y hy => (List.mem_erase_of_ne (fun e => h.1 (by rw [← e]; exact hy))).2 (hs y (by simp [hy])))
    rw [List.length_erase_of_mem hx] at this
    have := List.length_pos_of_mem hx
    simp; omega
/-- A list of n numbers below n, each once, has all. -/
theorem all_in {n : Nat} {l : List Int} (hl : l.length = n) (hlow : ∀ x ∈ l, ∃ j : Nat, x = j ∧ j < n) (h1 : l.Nodup) {j : Nat} (hj : j < n) : (j : Int) ∈ l := by
  apply Classical.byContradiction
  intro hno
  have hsub : ∀ x ∈ l, x ∈ ((List.range n).erase j).map (fun k : Nat => (k : Int)) := by
    intro x hx
    obtain ⟨k, rfl, hk⟩ := hlow x hx
    rw [List.mem_map]
    refine ⟨k, ?_, rfl⟩
    rw [List.Nodup.mem_erase_iff List.nodup_range]
    exact ⟨fun e => hno (by rw [← e]; exact hx), List.mem_range.2 hk⟩
  have hle := nodup_sub_len h1 hsub
  rw [List.length_map, List.length_erase_of_mem (List.mem_range.2 hj), List.length_range, hl] at hle
  omega
/-- What is sorted whole does not go round. -/
theorem sorted_no_round {n : Nat} {zs : List Int} (hz : Web n zs) {l : List Int} {d : Int} (h : sortK zs n = some (l, d)) : roundB zs = false := by
  have S := sort_stands hz n h
  have hw : ∀ i j, i < n → Way zs i j → ∀ p q, p < l.length → q < l.length → l.getD p 0 = (i : Int) → l.getD q 0 = (j : Int) → p < q := by
    intro i j hi w
    induction w with
    | one g =>
      intro p q hp hq ep eq
      obtain ⟨p', h1, h2, h3⟩ := at_take (S.ahead q hq _ _ eq hi g)
      have := at_one S.once hp h2 (by rw [ep, h3])
      omega
    | more w g ih =>
      intro p q hp hq ep eq
      have hk := w.lt hz hi
      obtain ⟨r, h1, h2, h3⟩ := at_take (S.ahead q hq _ _ eq hk g)
      have := ih p r hp h2 ep h3
      omega
  cases hr : roundB zs with
  | false => rfl
  | true =>
    obtain ⟨i, hi, w⟩ := (round_iff hz).1 hr
    obtain ⟨p, hp, e⟩ := at_of_mem (all_in S.len S.low S.once hi)
    have := hw i i hi w p p hp hp e e
    omega
/-- How many lead to i by ways. -/
def leads (zs : List Int) (n i : Nat) : Nat := (List.range n).countP fun j => line (waysL zs) j i
/-- Where it does not go round one of those that do not stand yet may stand next. -/
theorem may_some {n : Nat} {zs : List Int} (hz : Web n zs) (hr : roundB zs = false) {d : Int} (hd : okB n d = true) (m : Nat) : ∀ i, i < n → leads zs n i ≤ m → inSetB d i = false → ∃ j, j < n ∧ mayB zs d j = true := by
  have nr : ∀ i, i < n → ¬ Way zs i i := fun i hi w => by
    have := (round_iff hz).2 ⟨i, hi, w⟩
    rw [hr] at this; cases this
  induction m with
  | zero =>
    intro i hi hm hn
    refine ⟨i, hi, (may_iff hz hd hi).2 ⟨hn, fun j hj hl => ?_⟩⟩
    exfalso
    have h0 : (List.range n).countP (fun j => line (waysL zs) j i) = 0 := by unfold leads at hm; omega
    rw [List.countP_eq_zero] at h0
    exact h0 j (List.mem_range.2 hj) ((ways_line hz hj).2 (.one hl))
  | succ m ih =>
    intro i hi hm hn
    by_cases hall : ∀ j, j < n → line zs j i = true → inSetB d j = true
    · exact ⟨i, hi, (may_iff hz hd hi).2 ⟨hn, hall⟩⟩
    · obtain ⟨j, hj, hl, hdj⟩ : ∃ j, j < n ∧ line zs j i = true ∧ inSetB d j = false := by
        apply Classical.byContradiction
        intro hno
        apply hall
        intro j hj hl
        cases hdj : inSetB d j with
        | true => rfl
        | false => exact absurd ⟨j, hj, hl, hdj⟩ hno
      refine ih j hj ?_ hdj
      have hlt : leads zs n j < leads zs n i := by
        refine countP_lt (fun k hk hp => ?_) (List.mem_range.2 hj) ?_ ?_
        · have hk := List.mem_range.1 hk
          exact (ways_line hz hk).2 (((ways_line hz hk).1 hp).trans (.one hl))
        · cases h : line (waysL zs) j j with
          | false => rfl
          | true => exact absurd ((ways_line hz hj).1 h) (nr j hj)
        · exact (ways_line hz hj).2 (.one hl)
      omega
theorem sort_goes {n : Nat} {zs : List Int} (hz : Web n zs) (hr : roundB zs = false) (k : Nat) (hk : k ≤ n) : ∃ l d, sortK zs k = some (l, d) := by
  induction k with
  | zero => exact ⟨[], 0, rfl⟩
  | succ k ih =>
    obtain ⟨l, d, hs⟩ := ih (by omega)
    have S := sort_stands hz k hs
    obtain ⟨i, hi, hn⟩ : ∃ i, i < n ∧ inSetB d i = false := by
      apply Classical.byContradiction
      intro hno
      have hsub : ∀ x ∈ (List.range n).map (fun k : Nat => (k : Int)), x ∈ l := by
        intro x hx
        rw [List.mem_map] at hx
        obtain ⟨j, hj, rfl⟩ := hx
        have hj := List.mem_range.1 hj
        refine (S.mem j hj).1 ?_
        cases h : inSetB d j with
        | true => rfl
        | false => exact absurd ⟨j, hj, h⟩ hno
      have hnd : ((List.range n).map (fun k : Nat => (k : Int))).Nodup := by
        rw [List.nodup_iff_pairwise_ne, List.pairwise_map]
        exact List.Pairwise.imp (fun h e => h (by omega)) List.nodup_range
      have hle := nodup_sub_len hnd hsub
      rw [List.length_map, List.length_range, S.len] at hle
      omega
    obtain ⟨j, hj, hm⟩ := may_some hz hr S.ok _ i hi (Nat.le_refl _) hn
    unfold sortK
    rw [hs]
    simp only
    rcases pick_spec zs d zs.length with ⟨_, hall⟩ | ⟨a, _, e, _, _⟩
    · have := hall j (by rw [hz.2.1]; exact hj)
      rw [this] at hm; cases hm
    · rw [if_neg (by omega)]
      exact ⟨_, _, rfl⟩
theorem sorted_iff {n : Nat} {zs : List Int} (hz : Web n zs) : sortedB zs = !roundB zs := by
  have e : sortedO zs = sortK zs n := by unfold sortedO; rw [if_pos hz.b, hz.2.1]
  unfold sortedB
  rw [e]
  cases hr : roundB zs with
  | false => obtain ⟨l, d, h⟩ := sort_goes hz hr n (Nat.le_refl _); rw [h]; rfl
  | true =>
    cases h : sortK zs n with
    | none => rfl
    | some q => obtain ⟨l, d⟩ := q; have := sorted_no_round hz h; rw [hr] at this; cases this
/-- Where the next is less than the one ahead of it a line goes between them. -/
theorem sort_least {n : Nat} {zs : List Int} (hz : Web n zs) (k : Nat) {l : List Int} {d : Int} (h : sortK zs k = some (l, d)) : ∀ p, p + 1 < l.length → l.getD (p + 1) 0 < l.getD p 0 → inSetB (zs.getD (l.getD p 0).toNat 0) (l.getD (p + 1) 0) = true := by
  induction k generalizing l d with
  | zero =>
    simp only [sortK, Option.some.injEq, Prod.mk.injEq] at h
    obtain ⟨rfl, rfl⟩ := h
    intro p hp; simp at hp
  | succ k ih =>
    have S2 := sort_stands hz (k + 1) h
    unfold sortK at h
    cases hs : sortK zs k with
    | none => rw [hs] at h; cases h
    | some q =>
      obtain ⟨l0, d0⟩ := q
      rw [hs] at h
      have S := sort_stands hz k hs
      simp only at h
      split at h
      · cases h
      · rename_i hneg
        simp only [Option.some.injEq, Prod.mk.injEq] at h
        obtain ⟨rfl, rfl⟩ := h
        intro p hp hlt
        rw [List.length_append, List.length_singleton] at hp
        have g1 : (l0 ++ [pick zs d0 zs.length]).getD p 0 = l0.getD p 0 := by
          rw [List.getD_eq_getElem?_getD, List.getElem?_append_left (by omega), ← List.getD_eq_getElem?_getD]
        rw [g1] at hlt ⊢
        by_cases hpl : p + 1 < l0.length
        · have g2 : (l0 ++ [pick zs d0 zs.length]).getD (p + 1) 0 = l0.getD (p + 1) 0 := by
            rw [List.getD_eq_getElem?_getD, List.getElem?_append_left hpl, ← List.getD_eq_getElem?_getD]
          rw [g2] at hlt ⊢
          exact ih hs p hpl hlt
        · have hpe : l0.length = p + 1 := by omega
          have g2 : (l0 ++ [pick zs d0 zs.length]).getD (p + 1) 0 = pick zs d0 zs.length := by
            rw [List.getD_eq_getElem?_getD, List.getElem?_append_right (by omega), hpe, Nat.sub_self]; rfl
          rw [g2] at hlt ⊢
          -- the step ahead of this one
          obtain ⟨k', rfl⟩ : ∃ k', k = k' + 1 := ⟨k - 1, by have := S.len; omega⟩
          unfold sortK at hs
          cases hs1 : sortK zs k' with
          | none => rw [hs1] at hs; cases hs
          | some q =>
            obtain ⟨l1, d1⟩ := q
            rw [hs1] at hs
            have S1 := sort_stands hz k' hs1
            simp only at hs
            split at hs
            · cases hs
            · rename_i hneg1
              simp only [Option.some.injEq, Prod.mk.injEq] at hs
              obtain ⟨rfl, rfl⟩ := hs
              have hp1 : l1.length = p := by rw [List.length_append, List.length_singleton] at hpe; omega
              have g3 : (l1 ++ [pick zs d1 zs.length]).getD p 0 = pick zs d1 zs.length := by
                rw [List.getD_eq_getElem?_getD, List.getElem?_append_right (by omega), hp1, Nat.sub_self]; rfl
              rw [g3] at hlt ⊢
              rcases pick_spec zs d1 zs.length with ⟨e, _⟩ | ⟨a, ha, ea, hma, hla⟩
              · rw [e] at hneg1; omega
              · rcases pick_spec zs (gAdd d1 (pick zs d1 zs.length)) zs.length with ⟨e, _⟩ | ⟨b, hb, eb, hmb, _⟩
                · rw [e] at hneg; omega
                · rw [eb, ea] at hlt ⊢
                  rw [ea] at hmb
                  rw [hz.2.1] at ha hb
                  have hba : b < a := by omega
                  have had := ok_add S1.ok ha
                  have h2 := (may_iff hz had.1 hb).1 hmb
                  have h1 : ¬ mayB zs d1 b = true := by rw [hla b hba]; simp
                  rw [may_iff hz S1.ok hb] at h1
                  have hnb : inSetB d1 b = false := by
                    have := h2.1
                    rw [had.2 b] at this
                    cases h : inSetB d1 b with
                    | false => rfl
                    | true => rw [h] at this; cases this
                  rw [show ((a : Int)).toNat = a from by omega]
                  apply Classical.byContradiction
                  intro hno
                  apply h1
                  refine ⟨hnb, fun j hj hl => ?_⟩
                  have h3 := h2.2 j hj hl
                  rw [had.2 j, Bool.or_eq_true, decide_eq_true_eq] at h3
                  rcases h3 with h3 | h3
                  · exact h3
                  · subst h3; exact absurd hl hno

/-! Follows. -/
/-- May k stand behind those that are seen? -/
def folB (zs : List Int) (s k : Int) : Bool := inB k 0 ((zs.length : Int) - 1) && !inSetB s k && (andI (zs.getD k.toNat 0) (gAdd s k) == 0)
/-- What is seen of the first m; none where one stands wrong. -/
def folK (zs list : List Int) : Nat → Option Int
  | 0 => some 0
  | m + 1 => match folK zs list m with
    | none => none
    | some s => if folB zs s (list.getD m 0) = true then some (gAdd s (list.getD m 0)) else none
def followsB (zs list : List Int) : Bool := webB zs && decide (list.length = zs.length) && (folK zs list list.length).isSome
theorem mem_take_step {l : List Int} {m : Nat} (hm : m < l.length) (x : Int) : x ∈ l.take (m + 1) ↔ x ∈ l.take m ∨ x = l.getD m 0 := by
  rw [take_snoc l m hm, List.mem_append, List.mem_singleton]
theorem stands_follows {n : Nat} {zs : List Int} (hz : Web n zs) {l : List Int} {d : Int} (S : Stands zs n n l d) (m : Nat) (hm : m ≤ n) :
    ∃ s, folK zs l m = some s ∧ okB n s = true ∧ ∀ j : Nat, j < n → (inSetB s j = true ↔ (j : Int) ∈ l.take m) := by
  induction m with
  | zero => exact ⟨0, rfl, ok_zero hz.1, fun j _ => by rw [zero_bit]; simp⟩
  | succ m ih =>
    obtain ⟨s, hs, ok, hbit⟩ := ih (by omega)
    have hml : m < l.length := by rw [S.len]; omega
    obtain ⟨i, ei, hi⟩ := S.low _ (getD_mem hml)
    have hnot : ¬ (i : Int) ∈ l.take m := fun h => by
      obtain ⟨q, h1, h2, h3⟩ := at_take h
      have := at_one S.once h2 hml (by rw [h3, ei])
      omega
    have hns : inSetB s i = false := by
      cases h : inSetB s i with
      | false => rfl
      | true => exact absurd ((hbit i hi).1 h) hnot
    have ha := ok_add ok hi
    have hand := ok_and (hz.2.2 i hi) ha.1
    have hz0 : andI (zs.getD i 0) (gAdd s i) = 0 := by
      refine ok_ext hand.1 (ok_zero hz.1) fun j hj => ?_
      rw [hand.2 j, zero_bit, ha.2 j]
      cases hl : inSetB (zs.getD i 0) j with
      | false => rfl
      | true =>
        have hline : line zs i j = true := hl
        rw [Bool.true_and]
        cases hsj : inSetB s j with
        | true =>
          exfalso
          obtain ⟨q, h1, h2, h3⟩ := at_take ((hbit j hj).1 hsj)
          obtain ⟨q', h4, h5, h6⟩ := at_take (S.ahead q h2 j i h3 hi hline)
          have := at_one S.once h5 hml (by rw [h6, ei])
          omega
        | false =>
          rw [Bool.false_or, decide_eq_false_iff_not]
          intro e
          subst e
          exact hnot (S.ahead m hml i i ei hi hline)
    have hin : inB (i : Int) 0 ((zs.length : Int) - 1) = true := by unfold inB; rw [hz.2.1, decide_eq_true_eq]; omega
    have hf : folB zs s (l.getD m 0) = true := by
      unfold folB
      rw [ei, hin, hns, show ((i : Int)).toNat = i from by omega, hz0]
      rfl
    refine ⟨gAdd s i, ?_, ha.1, fun j hj => ?_⟩
    · unfold folK
      rw [hs]
      simp only
      rw [if_pos hf, ei]
    · rw [ha.2 j, Bool.or_eq_true, hbit j hj, mem_take_step hml, ei, decide_eq_true_eq]
      constructor
      · rintro (h | h)
        · exact .inl h
        · exact .inr (by omega)
      · rintro (h | h)
        · exact .inl h
        · exact .inr (by omega)
theorem sorted_follows {n : Nat} {zs : List Int} (hz : Web n zs) (h : sortedB zs = true) : followsB zs (sortedL zs) = true := by
  have e : sortedO zs = sortK zs n := by unfold sortedO; rw [if_pos hz.b, hz.2.1]
  unfold sortedB at h
  unfold sortedL
  rw [e] at h ⊢
  cases hs : sortK zs n with
  | none => rw [hs] at h; cases h
  | some q =>
    obtain ⟨l, d⟩ := q
    have S := sort_stands hz n hs
    obtain ⟨s, h1, _⟩ := stands_follows hz S n (Nat.le_refl _)
    show followsB zs l = true
    unfold followsB
    rw [hz.b, S.len, hz.2.1, h1]
    simp
theorem sortedL_len (zs : List Int) : (sortedL zs).length ≤ 12 := by
  unfold sortedL sortedO
  cases hw : webB zs with
  | false => simp
  | true =>
    rw [if_pos rfl]
    cases hs : sortK zs zs.length with
    | none => simp
    | some q =>
      obtain ⟨l, d⟩ := q
      have := (sort_stands (web_iff.1 hw) _ hs).len
      have := webB_len hw
      show l.length ≤ 12
      omega

/-! Lifted. -/
/-- All that those of class c reach, of the first m. -/
def liftA (zs cl : List Int) (c : Int) : Nat → Int
  | 0 => 0
  | m + 1 => if cl.getD m 0 = c then orI (liftA zs cl c m) (zs.getD m 0) else liftA zs cl c m
/-- Is one of the first m of class c in the set? -/
def hitB (cl : List Int) (c all : Int) : Nat → Bool
  | 0 => false
  | m + 1 => hitB cl c all m || (decide (cl.getD m 0 = c) && inSetB all m)
/-- The lifted lines from one of class c to the first m. -/
def liftR (zs cl : List Int) (c : Int) : Nat → Int
  | 0 => 0
  | m + 1 => if cl.getD m 0 = c then liftR zs cl c m else if hitB cl (cl.getD m 0) (liftA zs cl c zs.length) zs.length = true then gAdd (liftR zs cl c m) m else liftR zs cl c m
def liftL (zs cl : List Int) : List Int := if webB zs = true ∧ cl.length = zs.length then cl.map (fun c => liftR zs cl c zs.length) else []
theorem ok_liftA {n : Nat} {zs : List Int} (hz : Web n zs) (cl : List Int) (c : Int) (m : Nat) (hm : m ≤ n) : okB n (liftA zs cl c m) = true ∧ ∀ j : Nat, inSetB (liftA zs cl c m) j = true ↔ ∃ a, a < m ∧ cl.getD a 0 = c ∧ line zs a j = true := by
  induction m with
  | zero => exact ⟨ok_zero hz.1, fun j => by rw [show liftA zs cl c 0 = 0 from rfl, zero_bit]; simp⟩
  | succ m ih =>
    have ih := ih (by omega)
    unfold liftA
    by_cases hc : cl.getD m 0 = c
    · have ho := ok_or ih.1 (hz.2.2 m (by omega))
      rw [if_pos hc]
      refine ⟨ho.1, fun j => ?_⟩
      rw [ho.2 j, Bool.or_eq_true, ih.2 j]
      constructor
      · rintro (⟨a, h1, h2, h3⟩ | h)
        · exact ⟨a, by omega, h2, h3⟩
        · exact ⟨m, by omega, hc, h⟩
      · rintro ⟨a, h1, h2, h3⟩
        by_cases e : a = m
        · subst e; exact .inr h3
        · exact .inl ⟨a, by omega, h2, h3⟩
    · rw [if_neg hc]
      refine ⟨ih.1, fun j => ?_⟩
      rw [ih.2 j]
      constructor
      · rintro ⟨a, h1, h2, h3⟩; exact ⟨a, by omega, h2, h3⟩
      · rintro ⟨a, h1, h2, h3⟩
        have : a ≠ m := fun e => hc (by rw [← e]; exact h2)
        exact ⟨a, by omega, h2, h3⟩
theorem hit_iff (cl : List Int) (c all : Int) (m : Nat) : hitB cl c all m = true ↔ ∃ b, b < m ∧ cl.getD b 0 = c ∧ inSetB all b = true := by
  induction m with
  | zero => simp [hitB]
  | succ m ih =>
    unfold hitB
    rw [Bool.or_eq_true, Bool.and_eq_true, decide_eq_true_eq, ih]
    constructor
    · rintro (⟨b, h1, h2, h3⟩ | ⟨h2, h3⟩)
      · exact ⟨b, by omega, h2, h3⟩
      · exact ⟨m, by omega, h2, h3⟩
    · rintro ⟨b, h1, h2, h3⟩
      by_cases e : b = m
      · subst e; exact .inr ⟨h2, h3⟩
      · exact .inl ⟨b, by omega, h2, h3⟩
theorem ok_liftR {n : Nat} {zs : List Int} (hz : Web n zs) (cl : List Int) (c : Int) (m : Nat) (hm : m ≤ n) :
    okB n (liftR zs cl c m) = true ∧ ∀ j : Nat, inSetB (liftR zs cl c m) j = true ↔ j < m ∧ cl.getD j 0 ≠ c ∧ ∃ a b, a < n ∧ b < n ∧ cl.getD a 0 = c ∧ cl.getD b 0 = cl.getD j 0 ∧ line zs a b = true := by
  induction m with
  | zero => exact ⟨ok_zero hz.1, fun j => by rw [show liftR zs cl c 0 = 0 from rfl, zero_bit]; simp⟩
  | succ m ih =>
    have ih := ih (by omega)
    have hA := ok_liftA hz cl c n (Nat.le_refl _)
    have hH : hitB cl (cl.getD m 0) (liftA zs cl c zs.length) zs.length = true ↔ ∃ a b, a < n ∧ b < n ∧ cl.getD a 0 = c ∧ cl.getD b 0 = cl.getD m 0 ∧ line zs a b = true := by
      rw [hit_iff, hz.2.1]
      constructor
      · rintro ⟨b, h1, h2, h3⟩
        obtain ⟨a, h4, h5, h6⟩ := (hA.2 b).1 h3
        exact ⟨a, b, h4, h1, h5, h2, h6⟩
      · rintro ⟨a, b, h1, h2, h3, h4, h5⟩
        exact ⟨b, h2, h4, (hA.2 b).2 ⟨a, h1, h3, h5⟩⟩
    unfold liftR
    by_cases hc : cl.getD m 0 = c
    · rw [if_pos hc]
      refine ⟨ih.1, fun j => ?_⟩
      rw [ih.2 j]
      constructor
      · rintro ⟨h1, h2⟩; exact ⟨by omega, h2⟩
      · rintro ⟨h1, h2, h3⟩
        have : j ≠ m := fun e => h2 (by rw [e]; exact hc)
        exact ⟨by omega, h2, h3⟩
    · rw [if_neg hc]
      by_cases hh : hitB cl (cl.getD m 0) (liftA zs cl c zs.length) zs.length = true
      · rw [if_pos hh]
        have ha := ok_add ih.1 (show m < n by omega)
        refine ⟨ha.1, fun j => ?_⟩
        rw [ha.2 j, Bool.or_eq_true, ih.2 j, decide_eq_true_eq]
        constructor
        · rintro (⟨h1, h2⟩ | h)
          · exact ⟨by omega, h2⟩
          · subst h; exact ⟨by omega, hc, hH.1 hh⟩
        · rintro ⟨h1, h2⟩
          by_cases e : m = j
          · exact .inr e
          · exact .inl ⟨by omega, h2⟩
      · rw [if_neg hh]
        refine ⟨ih.1, fun j => ?_⟩
        rw [ih.2 j]
        constructor
        · rintro ⟨h1, h2⟩; exact ⟨by omega, h2⟩
        · rintro ⟨h1, h2, h3⟩
          have : j ≠ m := fun e => hh (hH.2 (by rw [← e]; exact h3))
          exact ⟨by omega, h2, h3⟩
theorem web_lift {n : Nat} {zs cl : List Int} (hz : Web n zs) (hc : cl.length = n) : Web n (liftL zs cl) ∧
    (∀ i, i < n → (liftL zs cl).getD i 0 = liftR zs cl (cl.getD i 0) n) ∧
    ∀ i j, i < n → (line (liftL zs cl) i j = true ↔ j < n ∧ cl.getD j 0 ≠ cl.getD i 0 ∧ ∃ a b, a < n ∧ b < n ∧ cl.getD a 0 = cl.getD i 0 ∧ cl.getD b 0 = cl.getD j 0 ∧ line zs a b = true) := by
  have e : liftL zs cl = cl.map (fun c => liftR zs cl c n) := by unfold liftL; rw [if_pos ⟨hz.b, by rw [hc, hz.2.1]⟩, hz.2.1]
  have hg : ∀ i, i < n → (cl.map (fun c => liftR zs cl c n)).getD i 0 = liftR zs cl (cl.getD i 0) n := by
    intro i hi
    rw [List.getD_eq_getElem?_getD, List.getElem?_map, List.getD_eq_getElem?_getD, List.getElem?_eq_getElem (show i < cl.length by omega)]
    rfl
  rw [e]
  refine ⟨⟨hz.1, by simp [hc], fun i hi => ?_⟩, hg, fun i j hi => ?_⟩
  · rw [hg i hi]; exact (ok_liftR hz cl _ n (Nat.le_refl _)).1
  · unfold line
    rw [hg i hi]
    exact (ok_liftR hz cl _ n (Nat.le_refl _)).2 j
theorem liftL_len (zs cl : List Int) : (liftL zs cl).length ≤ 12 := by
  unfold liftL
  split
  · rename_i h; have := webB_len h.1; simp; omega
  · simp
end Go.Proofs.Ytkdebpfdiblliaa

/- What the law on rows asks of the lists. -/
namespace Go.Proofs.Ytkdebpfdiblliaa
open Go.RowKit

theorem rw_way {es : List Ev} {rows : List Int} (hx : es.length ≤ 12) (h : rowsL es rows = true) {a b : Nat} (ha : a < es.length) (hw : Way (rwL es rows) a b) : ∃ i k, i < k ∧ k < rows.length ∧ rows.getD i 0 = (a : Int) ∧ rows.getD k 0 = (b : Int) := by
  obtain ⟨hn, _, hr⟩ := rows_use hx h
  obtain ⟨h1, h2⟩ := web_rwAll hx hr rows.length (Nat.le_refl _)
  have step : ∀ x y, x < es.length → line (rwL es rows) x y = true → ∃ i k, i < k ∧ k < rows.length ∧ rows.getD i 0 = (x : Int) ∧ rows.getD k 0 = (y : Int) := fun x y hx' hl => by
    obtain ⟨i, q, hi, hq, hp, e1, e2⟩ := (h2 x y hx').1 hl
    unfold rwP at hp
    simp only [Bool.and_eq_true, decide_eq_true_eq] at hp
    exact ⟨i, q, hp.1, hq, e1, e2⟩
  induction hw with
  | one g => exact step _ _ ha g
  | more g l ih =>
    obtain ⟨i, k, hik, hk, e1, e2⟩ := ih
    obtain ⟨i', k', hik', hk', e1', e2'⟩ := step _ _ (g.lt h1 ha) l
    have := nodup_get hn (p := k) (q := i') hk (by omega) (by rw [e2, e1'])
    subst this
    exact ⟨i, k', by omega, hk', e1, e2'⟩
theorem rw_round {es : List Ev} {rows : List Int} (hx : es.length ≤ 12) (h : rowsL es rows = true) : roundB (rwL es rows) = false := by
  obtain ⟨hn, _, hr⟩ := rows_use hx h
  have h1 := (web_rwAll hx hr rows.length (Nat.le_refl _)).1
  cases hq : roundB (rwL es rows) with
  | false => rfl
  | true =>
    exfalso
    obtain ⟨a, ha, hw⟩ := (round_iff h1).1 hq
    obtain ⟨i, k, hik, hk, e1, e2⟩ := rw_way hx h ha hw
    have := nodup_get hn (p := i) (q := k) (by omega) hk (by rw [e1, e2])
    omega
theorem row_all {dss : List (List Dd)} {n : Int} (h0 : 0 ≤ n) (h1 : n < rcntB dss) :
    workB dss = true ∧ rowsB dss (ratB dss n) = true ∧ (ratB dss n).length ≤ 36 ∧ (rwB dss (ratB dss n)).length = (eventsB dss).length ∧ roundB (rwB dss (ratB dss n)) = false ∧
    (∀ i, i < (ratB dss n).length → ∃ a : Nat, (ratB dss n).getD i 0 = (a : Int) ∧ a < (eventsB dss).length) ∧
    (∀ i k a b : Nat, i < (ratB dss n).length → k < (ratB dss n).length → (ratB dss n).getD i 0 = (a : Int) → (ratB dss n).getD k 0 = (b : Int) → inSetB ((rwB dss (ratB dss n)).getD a 0) b = (((eventsB dss).getD a zE).2.2.2.1 == ((eventsB dss).getD b zE).2.2.2.1 && decide (i < k))) ∧
    ∀ m, 0 ≤ m → m < rcntB dss → decide (ratB dss m = ratB dss n) = decide (m = n) := by
  have hb : workB dss = true := by
    cases hb : workB dss with
    | true => rfl
    | false => rw [rcntB, hb] at h1; simp at h1; omega
  have hx := eventsB_12 dss
  have hc : rcntB dss = rcntL (eventsB dss) := by rw [rcntB, if_pos hb]
  have ha : ∀ m, 0 ≤ m → m < rcntB dss → ratB dss m = ratL (eventsB dss) m := fun m g0 g1 => by unfold ratB; rw [if_pos ⟨g0, g1⟩]
  have hs : rowsL (eventsB dss) (ratB dss n) = true := by rw [ha n h0 h1]; exact rat_ok hb h0 (by rw [← hc]; exact h1)
  have hso : rowsB dss (ratB dss n) = true := by rw [rowsB, hb, hs]; rfl
  have hw : rwB dss (ratB dss n) = rwL (eventsB dss) (ratB dss n) := by rw [rwB, if_pos hso]
  obtain ⟨hn, hl, hr⟩ := rows_use hx hs
  have h12 := (web_rwAll hx hr (ratB dss n).length (Nat.le_refl _)).1
  refine ⟨hb, hso, hl, by rw [hw]; exact h12.2.1, by rw [hw]; exact rw_round hx hs, fun i hi => ?_, fun i k a b hi hk ea eb => ?_, fun m g0 g1 => ?_⟩
  · obtain ⟨r0, r1⟩ := hr i hi
    obtain ⟨a, e⟩ := Int.eq_ofNat_of_zero_le r0
    exact ⟨a, e, by omega⟩
  · have := row_cell hx hs hi hk
    rw [ea, eb, Int.toNat_natCast, Int.toNat_natCast] at this
    rw [hw]
    unfold line at this
    rw [this]
    unfold rwP plE
    rw [ea, eb, Int.toNat_natCast, Int.toNat_natCast, Bool.and_comm]
  · rw [ha m g0 g1, ha n h0 h1]
    rw [hc] at h1 g1
    refine decide_eq_decide.2 ⟨fun e => rat_inj hb h0 h1 g0 g1 e, fun e => by rw [e]⟩
end Go.Proofs.Ytkdebpfdiblliaa

/- Contract of the program's new web without a line. -/
namespace Go.Proofs.Ytkdebpfdiblliaa
open Go.ChangeShapes Go.WideShapes Go.ChangeAt Go.RowKit

theorem take_zeros (n : Nat) (h : n ≤ 12) : (List.replicate 12 (Value.int .i64 0)).take n = (List.replicate n (0 : Int)).map (Value.int .i64) := by
  rw [List.take_replicate, List.map_replicate, Nat.min_eq_left h]
set_option maxHeartbeats 400000 in
theorem blank_any (w : World) (n : Nat) (hn : n ≤ 12) :
    Calls Try.prog 42 #[.int .i64 n] w fun e w' => e = .returned (.slice (some ⟨w.heap.size, 0, none⟩) n n) ∧ RowAt w' w.heap.size (List.replicate n 0) ∧ Keep w w' := by
  have i1 : (0 : Int) ≤ (n : Int) := Int.natCast_nonneg _
  have i2 : (n : Int) ≤ 12 := by omega
  have i3 : (n : Int) ≤ (n : Int) := Int.le_refl _
  go_enter Try.func42, Try.ntmps42
  go_wp2
  go_ret
  refine ⟨?_, ⟨_, _, heap_alloc_new w _, ?_⟩, (Keep.refl w).alloc _⟩
  · rfl
  · rw [List.length_replicate]; exact take_zeros n hn
end Go.Proofs.Ytkdebpfdiblliaa

/- Contract of one more line in the program's web. -/
namespace Go.Proofs.Ytkdebpfdiblliaa
open Go.ChangeShapes Go.WideShapes Go.ChangeAt Go.RowKit

set_option maxHeartbeats 400000 in
theorem line_any (w : World) (g n cap : Nat) (st : List Int) (j : Nat) (i : Int) (hr : RowAt w g st) (hn : st.length = n) (hj : j < n) :
    Calls Try.prog 44 #[.slice (some ⟨g, 0, none⟩) n cap, .int .i64 j, .int .i64 i] w fun e w' => e = .returned (.tuple #[]) ∧ RowAt w' g (st.set j (gAdd (st.getD j 0) i)) ∧ w.grownBy w' (some g) := by
  have d1 := hr.cell (j := j) (by omega)
  have d2 := hr.free j
  have hs := hr.set j (gAdd (st.getD j 0) i)
  generalize st.getD j 0 = x at *
  have hG := grown_set w g j (.int .i64 (gAdd x i))
  go_enter Try.func44, Try.ntmps44
  go_wp2_with fail
  refine (with_any _ _ _).mono ?_
  rintro e w' ⟨rfl, rfl⟩
  go_wp2
  go_end0
  exact ⟨rfl, hs, hG⟩
end Go.Proofs.Ytkdebpfdiblliaa
