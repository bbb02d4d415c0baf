/- A scope in which the run jumps to several labels: what holds at each label when it is jumped to, with a number that each pass lowers. -/
import Derived.Test.YtgolhjmbloiakaaMA
import Derived.Scope
import Derived.WalkMore
namespace Go.Proofs.Ytgolhjmbloiakaa

/-- By a goto to a label: J of that label; else as Q. -/
def atLabel (J : Nat → Act → World → Prop) (Q : Exit → Act → World → Prop) : Exit → Act → World → Prop
  | .goto l, a, w => J l a w
  | e, a, w => Q e a w
theorem atLabel_ret {J : Nat → Act → World → Prop} {Q : Exit → Act → World → Prop} {a : Act} {w : World} : atLabel J Q .ret a w = Q .ret a w := rfl
theorem wp_scope_labels {P : Program} {Q : Exit → Act → World → Prop} {c : Code} {a : Act} {w : World} (rest : Nat → Code) (J : Nat → Nat → Act → World → Prop)
    (hf : ∀ l m a w, J l m a w → findLabel c l = some (rest l)) (first : c.wp P (atLabel (fun l a w => ∃ m, J l m a w) Q) a w)
    (pass : ∀ l m a w, J l m a w → (rest l).wp P (atLabel (fun l' a' w' => ∃ m', m' < m ∧ J l' m' a' w') Q) a w) : (Code.scope c).wp P Q a w := by
  intro b k cs
  have on : ∀ m l a w, J l m a w → ∃ e a' w', Q e a' w' ∧ Arrives P (lone (b.at a (.code (rest l) :: .inScope c :: k)) cs w) b k cs e a' w' := by
    intro m
    induction m using Nat.strongRecOn with
    | _ m ih =>
      intro l a w hJ
      obtain ⟨e, a₁, w₁, hq, harr⟩ := pass l m a w hJ b (.inScope c :: k) cs
      cases e with
      | goto l' =>
        obtain ⟨m', hlt, hJ'⟩ : ∃ m', m' < m ∧ J l' m' a₁ w₁ := hq
        obtain ⟨e₂, a₂, w₂, hq₂, harr₂⟩ := ih _ hlt l' a₁ w₁ hJ'
        have hg : gotoIn l' (.inScope c :: k) = some (.code (rest l') :: .inScope c :: k) := by simp [gotoIn, hf l' m' a₁ w₁ hJ']
        exact ⟨e₂, a₂, w₂, hq₂, .of_steps (harr _ hg) harr₂⟩
      | normal => exact ⟨.normal, a₁, w₁, hq, Steps.trans harr (.one step_inScope)⟩
      | exit id => exact ⟨.exit id, a₁, w₁, hq, fun k' hk => harr k' (by simp [exitTo, hk])⟩
      | ret => exact ⟨_, a₁, w₁, hq, harr⟩
      | panic ch => exact ⟨_, a₁, w₁, hq, harr⟩
      | outgrown => exact ⟨_, a₁, w₁, hq, harr⟩
  obtain ⟨e, a₁, w₁, hq, harr⟩ := first b (.inScope c :: k) cs
  cases e with
  | goto l' =>
    obtain ⟨m, hJ'⟩ : ∃ m, J l' m a₁ w₁ := hq
    obtain ⟨e₂, a₂, w₂, hq₂, harr₂⟩ := on m l' a₁ w₁ hJ'
    have hg : gotoIn l' (.inScope c :: k) = some (.code (rest l') :: .inScope c :: k) := by simp [gotoIn, hf l' m a₁ w₁ hJ']
    exact ⟨e₂, a₂, w₂, hq₂, .of_steps (.head step_scope (harr _ hg)) harr₂⟩
  | normal => exact ⟨.normal, a₁, w₁, hq, .head step_scope (Steps.trans harr (.one step_inScope))⟩
  | exit id => exact ⟨.exit id, a₁, w₁, hq, fun k' hk => .head step_scope (harr k' (by simp [exitTo, hk]))⟩
  | ret => exact ⟨_, a₁, w₁, hq, .of_steps (.one step_scope) harr⟩
  | panic ch => exact ⟨_, a₁, w₁, hq, .of_steps (.one step_scope) harr⟩
  | outgrown => exact ⟨_, a₁, w₁, hq, .of_steps (.one step_scope) harr⟩
def ofTwo {α : Type} (x0 x1 d : α) : Nat → α
  | 0 => x0
  | 1 => x1
  | _ => d
/-- Where one goes on: at each of two labels, with a lower number. -/
def below2 (J0 J1 : Nat → Act → World → Prop) (Q : Exit → Act → World → Prop) (m : Nat) : Exit → Act → World → Prop := atLabel (ofTwo (fun a' w' => ∃ m', m' < m ∧ J0 m' a' w') (fun a' w' => ∃ m', m' < m ∧ J1 m' a' w') (fun _ _ => False)) Q
def any2 (J0 J1 : Nat → Act → World → Prop) (Q : Exit → Act → World → Prop) : Exit → Act → World → Prop := atLabel (ofTwo (fun a w => ∃ m, J0 m a w) (fun a w => ∃ m, J1 m a w) (fun _ _ => False)) Q
theorem below2_ret {J0 J1 : Nat → Act → World → Prop} {Q : Exit → Act → World → Prop} {m : Nat} {a : Act} {w : World} : below2 J0 J1 Q m .ret a w = Q .ret a w := rfl
theorem below2_to0 {J0 J1 : Nat → Act → World → Prop} {Q : Exit → Act → World → Prop} {m : Nat} {a : Act} {w : World} (h : ∃ m', m' < m ∧ J0 m' a w) : below2 J0 J1 Q m (.goto 0) a w := h
theorem below2_to1 {J0 J1 : Nat → Act → World → Prop} {Q : Exit → Act → World → Prop} {m : Nat} {a : Act} {w : World} (h : ∃ m', m' < m ∧ J1 m' a w) : below2 J0 J1 Q m (.goto 1) a w := h
theorem below2_any {J0 J1 : Nat → Act → World → Prop} {Q : Exit → Act → World → Prop} {m : Nat} (e : Exit) (a : Act) (w : World) (h : below2 J0 J1 Q m e a w) : any2 J0 J1 Q e a w := by
  cases e with
  | goto l =>
    match l, h with
    | 0, h => obtain ⟨m', _, h⟩ : ∃ m', m' < m ∧ J0 m' a w := h; exact ⟨m', h⟩
    | 1, h => obtain ⟨m', _, h⟩ : ∃ m', m' < m ∧ J1 m' a w := h; exact ⟨m', h⟩
  | _ => exact h
theorem below2_le {J0 J1 : Nat → Act → World → Prop} {Q : Exit → Act → World → Prop} {k m : Nat} (hk : k ≤ m) (e : Exit) (a : Act) (w : World) (h : below2 J0 J1 Q k e a w) : below2 J0 J1 Q m e a w := by
  cases e with
  | goto l =>
    match l, h with
    | 0, h => obtain ⟨m', hl, h⟩ : ∃ m', m' < k ∧ J0 m' a w := h; exact ⟨m', by omega, h⟩
    | 1, h => obtain ⟨m', hl, h⟩ : ∃ m', m' < k ∧ J1 m' a w := h; exact ⟨m', by omega, h⟩
  | _ => exact h
/-- Two labels; from label 1 the run may also go straight on to label 0. -/
theorem wp_scope_two {P : Program} {Q : Exit → Act → World → Prop} {c r0 r1 : Code} {a : Act} {w : World} (J0 J1 : Nat → Act → World → Prop)
    (hf0 : findLabel c 0 = some (Code.skip.seq r0)) (hf1 : findLabel c 1 = some (Code.skip.seq r1))
    (pass0 : ∀ m a w, J0 m a w → r0.wp P (below2 J0 J1 Q m) a w)
    (pass1 : ∀ m, (∀ m' a w, m' < m → J0 m' a w → r0.wp P (below2 J0 J1 Q m) a w) → ∀ a w, J1 m a w → r1.wp P (below2 J0 J1 Q m) a w)
    (first : (∀ m a w, J1 m a w → r1.wp P (any2 J0 J1 Q) a w) → c.wp P (any2 J0 J1 Q) a w) : (Code.scope c).wp P Q a w := by
  have p1 : ∀ m a w, J1 m a w → r1.wp P (below2 J0 J1 Q m) a w := fun m a w h => pass1 m (fun m' a w hm h0 => Code.wp_mono (below2_le (Nat.le_of_lt hm)) (pass0 m' a w h0)) a w h
  have e1 : (fun l a w => ∃ m, ofTwo J0 J1 (fun _ _ _ => False) l m a w) = ofTwo (fun a w => ∃ m, J0 m a w) (fun a w => ∃ m, J1 m a w) (fun _ _ => False) := by
    funext l a w
    match l with
    | 0 => rfl
    | 1 => rfl
    | l + 2 => simp [ofTwo]
  have e2 : ∀ m : Nat, (fun l a w => ∃ m', m' < m ∧ ofTwo J0 J1 (fun _ _ _ => False) l m' a w) = ofTwo (fun a w => ∃ m', m' < m ∧ J0 m' a w) (fun a w => ∃ m', m' < m ∧ J1 m' a w) (fun _ _ => False) := by
    intro m
    funext l a w
    match l with
    | 0 => rfl
    | 1 => rfl
    | l + 2 => simp [ofTwo]
  refine wp_scope_labels (ofTwo (Code.skip.seq r0) (Code.skip.seq r1) r0) (ofTwo J0 J1 (fun _ _ _ => False)) (fun l m a w h => ?_) (by rw [e1]; exact first (fun m a w h => Code.wp_mono below2_any (p1 m a w h))) (fun l m a w h => ?_)
  · match l, h with
    | 0, _ => exact hf0
    | 1, _ => exact hf1
  · rw [e2]
    match l, h with
    | 0, h => exact wp_seq (wp_skip (pass0 m a w h))
    | 1, h => exact wp_seq (wp_skip (p1 m a w h))
end Go.Proofs.Ytgolhjmbloiakaa
