/- Several texts in one. -/
import Derived.RangeFuncBox
import Derived.RangeFuncCalls
import Derived.RangeFuncLeaves
import Derived.Test.YtkbkdlaknmgjpaaGreatMC
import Derived.Test.YtkbkdlaknmgjpaaGreatMB
import Derived.Outline
import Derived.BigRegion
import Derived.RegionTactic
import Derived.Deep.RegionHeld3
import Derived.Deep.QuietTactic
import Derived.BigQuiet
import Derived.Lib.Hide
import Derived.Test.YtkbkdlaknmgjpaaGreatMA
import Derived.Laws.Tables
import Derived.ChangeKeysEq
/- A range over a function whose iterator hands out what lies in memory: what a round keeps ('But'), the iterator's contract ('SeqM'), the law for its caller ('wp_rangeM'). -/
namespace Go.Proofs.YtkbkdlaknmgjpaaGreat
open Go.RowKit

/-- All that lay is as it was, but for the blocks of C. -/
structure But (C : Nat → Prop) (w w' : World) : Prop where
  os : w'.os = w.os
  tape : w'.tape = w.tape
  output : w'.output = w.output
  size : w.heap.size ≤ w'.heap.size
  block : ∀ k, k < w.heap.size → ¬ C k → w'.heap[k]? = w.heap[k]?
theorem But.refl (C : Nat → Prop) (w : World) : But C w w := ⟨rfl, rfl, rfl, Nat.le_refl _, fun _ _ _ => rfl⟩
theorem But.trans {C : Nat → Prop} {a b c : World} (h : But C a b) (k : But C b c) : But C a c :=
  ⟨k.os.trans h.os, k.tape.trans h.tape, k.output.trans h.output, Nat.le_trans h.size k.size, fun i hi hn => (k.block i (Nat.lt_of_lt_of_le hi h.size) hn).trans (h.block i hi hn)⟩
theorem But.mono {C C' : Nat → Prop} {a b : World} (h : But C a b) (hc : ∀ k, k < a.heap.size → C k → C' k) : But C' a b :=
  ⟨h.os, h.tape, h.output, h.size, fun i hi hn => h.block i hi (fun e => hn (hc i hi e))⟩
theorem But.of_below {C : Nat → Prop} {a b : World} (h : Below a.heap.size a b) : But C a b := ⟨h.os, h.tape, h.output, h.size, fun i hi _ => h.block i hi⟩
theorem But.of_grown {C : Nat → Prop} {a b : World} {row : Option Nat} (h : a.grownBy b row) (hr : ∀ k, row = some k → C k) : But C a b :=
  ⟨h.os, h.tape, h.output, h.size, fun i hi hn => h.block i hi (fun e => hn (hr i e.symm))⟩
theorem But.alloc {C : Nat → Prop} {a b : World} (h : But C a b) (o : Obj) : But C a (b.alloc o) := h.trans (But.of_grown (World.grownBy_alloc b o none) (by simp))
theorem But.put {C : Nat → Prop} {a b : World} (h : But C a b) {l : Nat} (hl : C l) (o : Obj) : But C a (b.putObj l o) := h.trans (But.of_grown (grownBy_putObj' b l o) (fun k e => by cases e; exact hl))
theorem But.setCell {C : Nat → Prop} {a b : World} (h : But C a b) {l : Nat} (hl : C l) (o : Nat) (v : Value) : But C a (b.setCell ⟨l, o, none⟩ v) :=
  h.trans ⟨rfl, rfl, rfl, by simp [World.setCell], fun k _ hn => Below.heap_setCell _ _ _ _ (fun e => hn (by rw [e]; exact hl))⟩
theorem But.drew {C : Nat → Prop} {a b : World} (h : But C a b) : But C a b.drew := h.trans ⟨rfl, rfl, rfl, Nat.le_refl _, fun _ _ _ => rfl⟩
theorem But.below {C : Nat → Prop} {a b : World} (h : But C a b) (hc : ∀ k, C k → a.heap.size ≤ k) : Below a.heap.size a b := ⟨h.os, h.tape, h.output, h.size, fun k hk => h.block k hk (fun e => by have := hc k e; omega)⟩
/-- A block from s on that holds no cells (the record of a loop, deferred calls). -/
def NC (s : Nat) (A : World) (b : Nat) : Prop := s ≤ b ∧ ∃ o : Obj, A.heap[b]? = some o ∧ o.isCells = false
theorem NC.le {s s' : Nat} {A : World} {b : Nat} (h : NC s A b) (hs : s' ≤ s) : NC s' A b := ⟨Nat.le_trans hs h.1, h.2⟩
/-- It speaks of blocks below s, and of cells, alone. -/
def Stays (s : Nat) (J : World → Prop) : Prop := ∀ A B, J A → But (NC s A) A B → J B
/-- The contract of an iterator that hands out N things, the k-th being what Lie says. C: the blocks that a round may turn; Pr: those that the iterator reads. -/
def SeqM (P : Program) (gf : Nat) (lb : Array Value) (Pr : Nat → Prop) (N : Nat) (Lie : Nat → Nat → Value → World → Prop) (w0 : World) : Prop :=
  ∀ (C : Nat → Prop) (l : Nat) (J Jx : Nat → World → Prop) (W : World), But (fun b => ¬ Pr b) w0 W → (∀ b, C b → b < W.heap.size ∧ ¬ Pr b) →
    (∀ k, Stays W.heap.size (J k)) → (∀ k, Stays W.heap.size (Jx k)) →
    (∀ (m k : Nat) (v : Value) (W1 : World), k < N → J k W1 → Lie W.heap.size k v W1 → YieldAt Fence.wide m P l #[v] W1 fun e W' =>
      ∃ b : Bool, e = .returned (.bool b) ∧ But C W1 W' ∧ (b = true → J (k + 1) W') ∧ (b = false → Jx k W')) →
    J 0 W →
    Calls P gf (#[.func (.yield l) #[] #[]] ++ lb) W fun e W' => (∃ v, e = .returned v) ∧ (J N W' ∨ ∃ k, k < N ∧ Jx k W')
/-- How the body of a round may be left. -/
def postM (C : Nat → Prop) (I : Nat → World → Prop) (Ix : Code → Nat → World → Prop) (k : Nat) (W : World) : Exit → Act → World → Prop
  | .normal, _, W' => But C W W' ∧ I (k + 1) W'
  | .ret, _, W' => But C W W' ∧ Ix .ret k W'
  | .exit id, _, W' => But C W W' ∧ Ix (.exit id) k W'
  | .goto t, _, W' => But C W W' ∧ Ix (.goto t) k W'
  | .panic _, _, _ => False
  | .outgrown, _, _ => False
theorem wp_rangeM {n : Nat} {P : Program} {g : Operand} {ps : Array Tmp} {assign body : Code} {Q : Exit → Act → World → Prop} {a : Act} {w : World} {gf : Nat} {lb : Array Value} {Pr : Nat → Prop} {N : Nat} {Lie : Nat → Nat → Value → World → Prop} {w0 : World}
    (hg : a.eval g = .func (.func gf) #[] lb) (eg : ∀ args w, (callFunc gf args).run P w = .ok (.enter gf args) w) (hps : ps.size = 1)
    (hseq : SeqM P gf lb Pr N Lie w0) (hk0 : But (fun b => ¬ Pr b) w0 w) (hPr : ∀ b, Pr b → b < w0.heap.size)
    (C : Nat → Prop) (hC : ∀ b, C b → b < w.heap.size ∧ ¬ Pr b)
    (I : Nat → World → Prop) (Ix : Code → Nat → World → Prop) (hI : ∀ k, Stays w.heap.size (I k)) (hIx : ∀ c k, Stays w.heap.size (Ix c k))
    (hL : ∀ s k v A B, Lie s k v A → But (fun b => b < s) A B → Lie s k v B) (h0 : I 0 w) (a₁ : Value → Act)
    (hassign : ∀ (m : Nat) (v : Value) (W : World) (K : Act → World → Prop), K (a₁ v) W →
      assign.wpIn (Fence.wide.inRound (w.heap.size + 1)) m P (Exit.then K (fun _ _ _ => False)) { tmps := (ps.zip #[v]).foldl (fun t (p, v) => t.setIfInBounds p v) a.tmps, defers := [] } W)
    (hbody : ∀ (m k : Nat) (v : Value) (W : World), k < N → I k W → Lie (w.heap.size + 2) k v W → body.wpIn (Fence.wide.inRound (w.heap.size + 1)) m P (postM C I Ix k W) (a₁ v) W)
    (hdone : ∀ W, I N W → W.heap[w.heap.size]? = some (.deferred (some [])) → Q .normal { a with defers := { target := .collected w.heap.size, args := #[] } :: a.defers } W)
    (hstop : ∀ c k W, k < N → Ix c k W → W.heap[w.heap.size]? = some (.deferred (some [])) → c.wpIn Fence.wide n P Q { a with defers := { target := .collected w.heap.size, args := #[] } :: a.defers } W) :
    (Code.rangeFunc g ps assign body).wpIn Fence.wide n P Q a w := by
  have hs0 := hk0.size
  refine wpIn_rangeFunc ?_
  intro fn hfn
  -- the two blocks that the loop lays: D for deferred calls, its record behind it
  obtain ⟨rc, hrc⟩ : ∃ rc : LoopState → Option Code → Loop, rc = fun st pe => { state := st, pending := pe, fn, tmps := a.tmps, params := ps, assign, body, defers := w.heap.size } := ⟨_, rfl⟩
  obtain ⟨W1, hW1⟩ : ∃ W1, W1 = (w.alloc (.deferred (some []))).alloc (.loop (rc .ready none)) := ⟨_, rfl⟩
  have hz : W1.heap.size = w.heap.size + 2 := by rw [hW1]; simp
  have hB1 : Below w.heap.size w W1 := by rw [hW1]; exact ((Below.refl _ w).alloc (Nat.le_refl _) _).alloc (by simp) _
  have hl1 : W1.heap[w.heap.size + 1]? = some (.loop (rc .ready none)) := by
    rw [hW1]
    have := World.alloc_heap_new (w.alloc (.deferred (some []))) (.loop (rc .ready none))
    rwa [World.size_alloc] at this
  have hd1 : W1.heap[w.heap.size]? = some (.deferred (some [])) := by
    rw [hW1]
    exact (Below.heap_alloc _ _ _ (by simp)).trans (World.alloc_heap_new w _)
  refine ⟨w.heap.size + 1, [{ target := .collected w.heap.size, args := #[] }], W1, { target := .fn (.func gf) lb, args := #[.func (.yield (w.heap.size + 1)) #[] #[]] }, W1, gf, #[.func (.yield (w.heap.size + 1)) #[] #[]] ++ lb, W1, ?_, ?_, ?_, ?_, ?_, ?_⟩
  · rw [hW1, hrc]; exact run_enterLoop_outer _ _ _ _ _
  · simp only [resolve, hg]
    simp [go_sem]
  · intro f' _; exact trivial
  · simp [invoke, go_sem, eg]
  · intro h; cases h
  refine callsIn_wide.2 ((hseq (fun b => C b ∨ b = w.heap.size + 1) (w.heap.size + 1)
    (fun k A => I k A ∧ A.heap[w.heap.size + 1]? = some (.loop (rc .ready none)) ∧ A.heap[w.heap.size]? = some (.deferred (some [])))
    (fun k A => ∃ c, Ix c k A ∧ A.heap[w.heap.size + 1]? = some (.loop (rc .done (some c))) ∧ A.heap[w.heap.size]? = some (.deferred (some [])))
    W1 (hk0.trans (But.of_below hB1)) ?_ ?_ ?_ ?_ ⟨hI 0 _ _ h0 (But.of_below hB1), hl1, hd1⟩).mono ?_)
  · rintro b (hb | rfl)
    · exact ⟨by have := (hC b hb).1; omega, (hC b hb).2⟩
    · exact ⟨by omega, fun hp => by have := hPr _ hp; omega⟩
  · rintro k A B ⟨h1, h2, h3⟩ hB
    have e1 : w.heap.size + 1 < A.heap.size := (Array.getElem?_eq_some_iff.1 h2).1
    have nl : ∀ b, b < w.heap.size + 2 → ¬ NC W1.heap.size A b := fun b hb h => by have := h.1; omega
    exact ⟨hI k _ _ h1 (hB.mono (fun b _ hb => hb.le (by omega))), (hB.block _ e1 (nl _ (by omega))).trans h2, (hB.block _ (by omega) (nl _ (by omega))).trans h3⟩
  · rintro k A B ⟨c, h1, h2, h3⟩ hB
    have e1 : w.heap.size + 1 < A.heap.size := (Array.getElem?_eq_some_iff.1 h2).1
    have nl : ∀ b, b < w.heap.size + 2 → ¬ NC W1.heap.size A b := fun b hb h => by have := h.1; omega
    exact ⟨c, hIx c k _ _ h1 (hB.mono (fun b _ hb => hb.le (by omega))), (hB.block _ e1 (nl _ (by omega))).trans h2, (hB.block _ (by omega) (nl _ (by omega))).trans h3⟩
  · -- one round
    rintro m k v W hk ⟨hi, hl, hd⟩ hv
    rw [hz] at hv
    have hlt : w.heap.size + 1 < W.heap.size := (Array.getElem?_eq_some_iff.1 hl).1
    have hy := run_yield (P := P) (args := #[v]) hl (by rw [hrc]; exact hps.symm)
    rw [hrc] at hy
    refine ⟨fn, _, assign, body, hy, roundIn_of_wpIn hfn (hassign m v W _ ⟨_, run_beginRound hl (by rw [hrc]), ?_⟩)⟩
    clear hy
    obtain ⟨W2, hW2⟩ : ∃ W2, W2 = W.putObj (w.heap.size + 1) (.loop { rc .ready none with state := .busy }) := ⟨_, rfl⟩
    rw [← hW2]
    have hl2 : W2.heap[w.heap.size + 1]? = some (.loop { rc .ready none with state := .busy }) := by rw [hW2]; exact World.putObj_heap_same hlt
    have hd2 : W2.heap[w.heap.size]? = some (.deferred (some [])) := by rw [hW2]; exact (World.putObj_heap_other (by omega)).trans hd
    have hb2 : ∀ X : Nat → Prop, X (w.heap.size + 1) → But X W W2 := fun X hX => by rw [hW2]; exact (But.refl X W).put hX _
    refine wpIn_mono (hbody m k v W2 hk (hI k _ _ hi (hb2 _ ⟨by omega, _, hl, rfl⟩)) (hL _ _ _ _ _ hv (hb2 _ (by omega)))) ?_
    have fin : ∀ (jump : Option Code) (W3 : World), But C W2 W3 → ∃ W4, (Instr.endRound (w.heap.size + 1) jump).run P W3 = .ok (.bool jump.isNone) W4 ∧ (∀ X : Nat → Prop, X (w.heap.size + 1) → But X W3 W4) ∧ NC w.heap.size W3 (w.heap.size + 1) ∧
        W4.heap[w.heap.size + 1]? = some (.loop (rc (if jump.isNone then .ready else .done) jump)) ∧ W4.heap[w.heap.size]? = some (.deferred (some [])) := by
      intro jump W3 h3
      have e1 : w.heap.size + 1 < W2.heap.size := (Array.getElem?_eq_some_iff.1 hl2).1
      have hl3 : W3.heap[w.heap.size + 1]? = some (.loop { rc .ready none with state := .busy }) := (h3.block _ e1 (fun e => by have := (hC _ e).1; omega)).trans hl2
      have hd3 : W3.heap[w.heap.size]? = some (.deferred (some [])) := (h3.block _ (by omega) (fun e => by have := (hC _ e).1; omega)).trans hd2
      have e3 : w.heap.size + 1 < W3.heap.size := (Array.getElem?_eq_some_iff.1 hl3).1
      have := run_endRound (P := P) jump hl3
      refine ⟨_, this, fun X hX => (But.refl X W3).put hX _, ⟨by omega, _, hl3, rfl⟩, ?_, (World.putObj_heap_other (by omega)).trans hd3⟩
      rw [World.putObj_heap_same e3, hrc]
    have bu : ∀ {W3 W4 : World}, But C W2 W3 → (∀ X : Nat → Prop, X (w.heap.size + 1) → But X W3 W4) → But (fun b => C b ∨ b = w.heap.size + 1) W W4 := fun h3 h4 =>
      ((hb2 _ (.inr rfl)).trans (h3.mono (fun _ _ hc => .inl hc))).trans (h4 _ (.inr rfl))
    rintro e a3 W3 hp
    cases e with
    | normal =>
      obtain ⟨h3, hi3⟩ := hp
      obtain ⟨W4, hr, h4, hn4, hl4, hd4⟩ := fin none W3 h3
      exact ⟨_, W4, hr, true, rfl, bu h3 h4, fun _ => ⟨hI _ _ _ hi3 (h4 _ hn4), hl4, hd4⟩, fun e => by cases e⟩
    | ret =>
      obtain ⟨h3, hi3⟩ := hp
      obtain ⟨W4, hr, h4, hn4, hl4, hd4⟩ := fin (some .ret) W3 h3
      exact ⟨_, W4, hr, false, rfl, bu h3 h4, fun e => (by cases e), fun _ => ⟨.ret, hIx _ _ _ _ hi3 (h4 _ hn4), hl4, hd4⟩⟩
    | exit id =>
      obtain ⟨h3, hi3⟩ := hp
      obtain ⟨W4, hr, h4, hn4, hl4, hd4⟩ := fin (some (.exit id)) W3 h3
      exact ⟨_, W4, hr, false, rfl, bu h3 h4, fun e => (by cases e), fun _ => ⟨.exit id, hIx _ _ _ _ hi3 (h4 _ hn4), hl4, hd4⟩⟩
    | goto t =>
      obtain ⟨h3, hi3⟩ := hp
      obtain ⟨W4, hr, h4, hn4, hl4, hd4⟩ := fin (some (.goto t)) W3 h3
      exact ⟨_, W4, hr, false, rfl, bu h3 h4, fun e => (by cases e), fun _ => ⟨.goto t, hIx _ _ _ _ hi3 (h4 _ hn4), hl4, hd4⟩⟩
    | panic ch => exact hp.elim
    | outgrown => exact hp.elim
  · -- behind the iterator
    rintro e W2 ⟨⟨v, rfl⟩, (⟨hi, hl, hd⟩ | ⟨k, hk, c, hi, hl, hd⟩)⟩
    · have hr := run_endLoop (P := P) hl (by rw [hrc]; simp)
      exact ⟨none, _, by rw [hr, hrc], hdone _ (hI _ _ _ hi ((But.refl (NC w.heap.size W2) W2).put ⟨by omega, _, hl, rfl⟩ _)) ((World.putObj_heap_other (by omega)).trans hd)⟩
    · have hr := run_endLoop (P := P) hl (by rw [hrc]; simp)
      exact ⟨some c, _, by rw [hr, hrc], hstop c k _ hk (hIx _ _ _ _ hi ((But.refl (NC w.heap.size W2) W2).put ⟨by omega, _, hl, rfl⟩ _)) ((World.putObj_heap_other (by omega)).trans hd)⟩
end Go.Proofs.YtkbkdlaknmgjpaaGreat

/- Lists of lists of numbers that an iterator reads, in blocks from s1 up to s2 alone; what stays of them where other blocks turn. -/
namespace Go.Proofs.YtkbkdlaknmgjpaaGreat
open Go.ChangeShapes Go.WideShapes Go.ChangeAt Go.RowKit

theorem But.cell {C : Nat → Prop} {w w' : World} (h : But C w w') {b o : Nat} (hb : b < w.heap.size) (hn : ¬ C b) : w'.cell? ⟨b, o, none⟩ = w.cell? ⟨b, o, none⟩ := World.cell?_of_block (w := w) (h.block b hb hn)
theorem But.free {C : Nat → Prop} {w w' : World} (h : But C w w') {b o : Nat} (hb : b < w.heap.size) (hn : ¬ C b) : w'.frozen? ⟨b, o, none⟩ = w.frozen? ⟨b, o, none⟩ := World.frozen?_of_block (w := w) (h.block b hb hn)
theorem But.drewN {C : Nat → Prop} {a b : World} (h : But C a b) (n : Nat) : But C a (b.drewN n) := h.trans ⟨rfl, rfl, rfl, Nat.le_refl _, fun _ _ _ => rfl⟩
theorem But.keep {C : Nat → Prop} {a b c : World} (h : But C a b) (k : Keep b c) : But C a c := h.trans (But.of_below k)
theorem Own.but {C : Nat → Prop} {w w' : World} {s : Nat} {v : Value} {zs : List Int} (h : Own w s v zs) (k : But C w w') (hc : ∀ b, s ≤ b → (∃ o : Obj, w.heap[b]? = some o ∧ o.isCells = true) → ¬ C b) : Own w' s v zs := by
  have hlt := World.ownsRow.lt h
  obtain ⟨h1, h2⟩ := h
  refine ⟨h1, ?_⟩
  rcases h2 with h2 | ⟨g, cap, cur, rfl, hb, hg, rest⟩
  · exact .inl h2
  · have := (hlt g rfl).2
    exact .inr ⟨g, cap, cur, rfl, hb, (k.block g this (hc g hb ⟨_, hg, rfl⟩)).trans hg, rest⟩
/-- A list that the call owns stays where no cells turn. -/
theorem Own.turn {s t : Nat} {w w' : World} {v : Value} {zs : List Int} (h : Own w s v zs) (k : But (NC t w) w w') : Own w' s v zs :=
  h.but k (fun b _ ⟨o, h1, h2⟩ ⟨_, o', h3, h4⟩ => by rw [h1] at h3; cases h3; rw [h2] at h4; cases h4)
/-- A list of numbers that can be read, in a block from s1 up to s2. -/
def RdR (s1 s2 : Nat) (w : World) (v : Value) (zs : List Int) : Prop :=
  ∃ (a : Option Addr) (cap : Nat), v = .slice a zs.length cap ∧
    (zs = [] ∨ ∃ b off, a = some ⟨b, off, none⟩ ∧ s1 ≤ b ∧ b < s2 ∧ ∀ i, i < zs.length → w.cell? ⟨b, off + i, none⟩ = some (.int .i64 (zs.getD i 0)))
theorem RdR.rd {s1 s2 : Nat} {w : World} {v : Value} {zs : List Int} (h : RdR s1 s2 w v zs) (hs : s2 ≤ w.heap.size) : Rd w v zs := by
  obtain ⟨a, cap, rfl, h⟩ := h
  refine ⟨a, cap, rfl, ?_⟩
  rcases h with h | ⟨b, off, rfl, h1, h2, hc⟩
  · exact .inl h
  · exact .inr ⟨b, off, rfl, by omega, hc⟩
theorem RdR.but {C : Nat → Prop} {s1 s2 : Nat} {w w' : World} {v : Value} {zs : List Int} (h : RdR s1 s2 w v zs) (hs : s2 ≤ w.heap.size) (k : But C w w') (hc : ∀ b, s1 ≤ b → b < s2 → ¬ C b) : RdR s1 s2 w' v zs := by
  obtain ⟨a, cap, rfl, h⟩ := h
  refine ⟨a, cap, rfl, ?_⟩
  rcases h with h | ⟨b, off, rfl, h1, h2, h3⟩
  · exact .inl h
  · exact .inr ⟨b, off, rfl, h1, h2, fun i hi => (k.cell (by omega) (hc b h1 h2)).trans (h3 i hi)⟩
/-- The first n of a list of such lists. -/
def RdP (s1 s2 : Nat) (w : World) (v : Value) (n : Nat) (css : List (List Int)) : Prop :=
  n ≤ css.length ∧ ∃ (a : Option Addr) (cap : Nat), v = .slice a n cap ∧ n ≤ cap ∧
    (n = 0 ∨ ∃ b off, a = some ⟨b, off, none⟩ ∧ s1 ≤ b ∧ b < s2 ∧ ∀ i, i < n → ∃ vi, w.cell? ⟨b, off + i, none⟩ = some vi ∧ RdR s1 s2 w vi (css.getD i []))
theorem RdP.but {C : Nat → Prop} {s1 s2 : Nat} {w w' : World} {v : Value} {n : Nat} {css : List (List Int)} (h : RdP s1 s2 w v n css) (hs : s2 ≤ w.heap.size) (k : But C w w') (hc : ∀ b, s1 ≤ b → b < s2 → ¬ C b) : RdP s1 s2 w' v n css := by
  obtain ⟨h0, a, cap, rfl, hn, h⟩ := h
  refine ⟨h0, a, cap, rfl, hn, ?_⟩
  rcases h with h | ⟨b, off, rfl, h1, h2, h3⟩
  · exact .inl h
  · refine .inr ⟨b, off, rfl, h1, h2, fun i hi => ?_⟩
    obtain ⟨vi, e1, e2⟩ := h3 i hi
    exact ⟨vi, (k.cell (by omega) (hc b h1 h2)).trans e1, e2.but hs k hc⟩
theorem AppL.rdp {w : World} {base : Nat} {x : Value} {vs : List Value} {zss : List (List Int)} (h : AppL w base x vs zss) (hge : ∀ (i : Nat) u, vs[i]? = some u → ∀ k, u.ownBlock = some k → base ≤ k) : RdP base w.heap.size w x zss.length zss := by
  have hl := h.row.1
  have hlt := h.lt
  have h2 := h.row
  refine ⟨Nat.le_refl _, ?_⟩
  rcases h.row.2 with ⟨rfl, hz⟩ | ⟨g, cap, cur, rfl, hb, hg, hcap, _⟩
  · exact ⟨none, 0, by rw [hz], by omega, .inl hz⟩
  · refine ⟨_, _, rfl, hcap, .inr ⟨g, 0, rfl, hb, (hlt g rfl).2, fun i hi => ?_⟩⟩
    have hi' : i < vs.length := by omega
    have hE := h.each i _ (List.getElem?_eq_getElem hi')
    refine ⟨vs[i], ?_, ?_⟩
    · rw [Nat.zero_add, World.ownsRow.cellAt h2 i (by omega), List.getElem?_eq_getElem hi']
    · have hG := hge i _ (List.getElem?_eq_getElem hi')
      obtain ⟨a, c, e, hr⟩ := hE.rd
      refine ⟨a, c, e, ?_⟩
      rcases hr with hr | ⟨b, off, rfl, hb2, hc2⟩
      · exact .inl hr
      · exact .inr ⟨b, off, rfl, hG b (by rw [e]; rfl), hb2, hc2⟩
theorem RdP.rdl {s1 s2 : Nat} {w : World} {v : Value} {css : List (List Int)} (h : RdP s1 s2 w v css.length css) (hs : s2 ≤ w.heap.size) : RdL w v css := by
  obtain ⟨_, a, cap, rfl, _, h⟩ := h
  refine ⟨a, cap, rfl, ?_⟩
  rcases h with h | ⟨b, off, rfl, h1, h2, h3⟩
  · exact .inl (List.eq_nil_of_length_eq_zero h)
  · refine .inr ⟨b, off, rfl, by omega, fun i hi => ?_⟩
    obtain ⟨vi, e1, e2⟩ := h3 i hi
    exact ⟨vi, e1, e2.rd hs⟩
end Go.Proofs.YtkbkdlaknmgjpaaGreat

/- Plain mathematics of the numbers that the program picks among twelve: those that there are and that pass a test. -/
namespace Go.Proofs.YtkbkdlaknmgjpaaGreat

def tstE (f : Ev → Bool) (es : List Ev) (k : Nat) : Bool := decide (k < es.length) && f (es.getD k zE)
def chK (f : Ev → Bool) (es : List Ev) : Nat → List Int
  | 0 => []
  | k + 1 => if tstE f es k = true then chK f es k ++ [(k : Int)] else chK f es k
theorem chK_min (f : Ev → Bool) (es : List Ev) : ∀ k, chK f es k = idxK f es (min k es.length)
  | 0 => by simp [chK, idxK]
  | k + 1 => by
    rw [chK, chK_min f es k]
    by_cases h : k < es.length
    · rw [show min (k + 1) es.length = k + 1 by omega, show min k es.length = k by omega, idxK]
      simp [tstE, h]
    · rw [show min (k + 1) es.length = min k es.length by omega]
      simp [tstE, h]
theorem chK_all (f : Ev → Bool) (es : List Ev) (k : Nat) (h : es.length ≤ k) : chK f es k = idxK f es es.length := by
  rw [chK_min, Nat.min_eq_right h]
theorem chK_len (f : Ev → Bool) (es : List Ev) (k : Nat) : (chK f es k).length ≤ k := by
  rw [chK_min]
  have := idxK_len f es (min k es.length)
  omega
end Go.Proofs.YtkbkdlaknmgjpaaGreat

/- Contract of the program's ReadsOf: a new list of numbers. (Written by mknum.py.) -/
namespace Go.Proofs.YtkbkdlaknmgjpaaGreat
open Go.ChangeShapes Go.WideShapes Go.ChangeAt Go.RowKit

theorem rClo_any (x0 x1 : Int) (x2 : Bool) (x3 x4 x5 : Int) (w : World) :
    Calls Tryz.prog 144 #[.agg #[.int .i64 x0, .int .i64 x1, .bool x2, .int .i64 x3, .int .i64 x4, .int .i64 x5]] w fun e w' => e = .returned (.bool (rdE (x0, x1, x2, x3, x4, x5))) ∧ Keep w w' := by
  go_enter Tryz.func144, Tryz.ntmps144
  go_wp2
  go_ret
  exact ⟨rfl, (Keep.refl w).alloc _⟩
set_option maxRecDepth 100000 in
set_option maxHeartbeats 2000000 in
theorem rNum_any (w : World) (v : Value) (es : List Ev) (h : RdE w v es) (k : Nat) (A B : Nat) (hA : w.cell? ⟨A, 0, none⟩ = some v) (hAl : A < w.heap.size) (hB : w.cell? ⟨B, 0, none⟩ = some (.func (Fn.func 144) #[] #[])) (hBl : B < w.heap.size) :
    Calls Tryz.prog 169 #[.int .i64 k, .pointer (some ⟨A, 0, none⟩), .pointer (some ⟨B, 0, none⟩)] w fun e w' => e = .returned (.bool (tstE rdE es k)) ∧ Keep w w' := by
  obtain ⟨a, c, rfl, h⟩ := h
  by_cases hlt : k < es.length
  · rcases h with h | ⟨b, o, rfl, hb, hc⟩
    · exfalso; rw [h] at hlt; simp at hlt
    have AT := hc k _ (evs_get hlt)
    have HE : Hid (tstE rdE es k = rdE (es.getD k zE)) := Lib.hid (by unfold tstE; simp [hlt])
    clear hc
    obtain ⟨e, he⟩ : ∃ e, e = es.getD k zE := ⟨_, rfl⟩
    rw [← he] at AT HE
    clear he
    obtain ⟨x0, x1, x2, x3, x4, x5⟩ := e
    obtain ⟨d0, d1, d2, d3, d4, d5⟩ := atE AT
    clear AT
    have i1 : (0 : Int) ≤ (k : Int) := Int.natCast_nonneg _
    have i2 : (k : Int) < (es.length : Int) := by omega
    have z1 : b < w.drew.heap.size := hb
    have z2 : A < w.drew.heap.size := hAl
    have z3 : B < w.drew.heap.size := hBl
    go_enter Tryz.func169, Tryz.ntmps169
    go_wp2_with fail
    go_region_held3 (fun w' => w'.cell? ⟨A, 0, none⟩ = some (.slice (some ⟨b, o, none⟩) es.length (es.length + c)) ∧ w'.cell? ⟨B, 0, none⟩ = some (.func (Fn.func 144) #[] #[]) ∧ w'.cell? ⟨b, o + k * 6, none⟩ = some (.int .i64 x0) ∧ w'.cell? ⟨b, o + k * 6 + 1, none⟩ = some (.int .i64 x1) ∧ w'.cell? ⟨b, o + k * 6 + 2, none⟩ = some (.bool x2) ∧ w'.cell? ⟨b, o + k * 6 + 3, none⟩ = some (.int .i64 x3) ∧ w'.cell? ⟨b, o + k * 6 + 4, none⟩ = some (.int .i64 x4) ∧ w'.cell? ⟨b, o + k * 6 + 5, none⟩ = some (.int .i64 x5))
      (first | go_keep | (go_split_ands; refine ⟨?_, ?_, ?_, ?_, ?_, ?_, ?_, ?_⟩ <;> (rw [kk.cell (by assumption)]; assumption)))
      ((go_at_call 144; refine (rClo_any x0 x1 x2 x3 x4 x5 _).mono ?_; rintro e wz ⟨rfl, kk⟩))
    all_goals
      go_wp2
      go_ret
      exact ⟨by rw [HE.out]; rfl, ((Keep.refl w).drew).trans kk⟩
  · have HE : Hid (tstE rdE es k = false) := Lib.hid (by unfold tstE; simp [hlt])
    have i2 : ¬ ((k : Int) < (es.length : Int)) := by omega
    go_enter Tryz.func169, Tryz.ntmps169
    go_wp2_with fail
    go_quiet (fail)
    go_wp2
    go_ret
    exact ⟨by rw [HE.out]; rfl, (Keep.refl w).drewN _⟩

set_option maxRecDepth 100000 in
set_option maxHeartbeats 1000000 in
theorem rChosen_any (w : World) (v : Value) (es : List Ev) (h : RdE w v es) (hx : es.length ≤ 12) (A B : Nat) (hA : w.cell? ⟨A, 0, none⟩ = some v) (hAl : A < w.heap.size) (hB : w.cell? ⟨B, 0, none⟩ = some (.func (Fn.func 144) #[] #[])) (hBl : B < w.heap.size) :
    Calls Tryz.prog 152 #[.func (Fn.func 169) #[] #[.pointer (some ⟨A, 0, none⟩), .pointer (some ⟨B, 0, none⟩)]] w fun e w' => ∃ v', e = .returned v' ∧ Own w' w.heap.size v' (idxK rdE es es.length) ∧ Keep w w' := by
  have hown0 : Own (w.alloc (.cells #[] 2)) w.heap.size (.slice (some ⟨w.heap.size, 0, none⟩) 0 0) [] := World.ownsRow_lit w #[] 0 (Nat.le_refl _) (by decide) rfl
  obtain ⟨i0, hi, hz0, hz1, hz2⟩ := info_parts Tryz.infoI
  go_enter Tryz.func152, Tryz.ntmps152
  go_wp2
  go_loopw [3, 6] (fun v i wr => ∃ k : Nat, k ≤ 12 ∧ i = .int .i64 k ∧ Own wr w.heap.size v (chK rdE es k) ∧ Keep w wr) (fun _ i _ => 12 - (intOf i).toNat)
  case atStart => exact ⟨0, Nat.zero_le _, rfl, hown0, (Keep.refl _).alloc _⟩
  case round =>
    obtain ⟨k, hk, rfl, ho, hK⟩ := hrel
    clear hown0
    by_cases hlt : k < 12
    · have hml := chK_len rdE es k
      have hsz := hK.size
      have C := rNum_any wr v es (h.keep hK) k A B (by rw [hK.cell hAl]; exact hA) (Nat.lt_of_lt_of_le hAl hK.size) (by rw [hK.cell hBl]; exact hB) (Nat.lt_of_lt_of_le hBl hK.size)
      clear h hA hB
      cases hb : tstE rdE es k
      · have HM : Hid (chK rdE es (k + 1) = chK rdE es k) := Lib.hid (by rw [chK, hb]; rfl)
        rw [hb] at C
        go_wp2_with fail
        refine C.mono ?_
        rintro e w1 ⟨rfl, k1⟩
        go_wp2
        go_roundw
        case rel => exact ⟨k + 1, by omega, by go_num, by rw [HM.out]; exact ho.keep k1, hK.trans k1⟩
        case measure => simp [intOf]; omega
      · have HM : Hid (chK rdE es (k + 1) = chK rdE es k ++ [(k : Int)]) := Lib.hid (by rw [chK, hb]; rfl)
        rw [hb] at C
        go_wp2_with fail
        refine C.mono ?_
        rintro e w1 ⟨rfl, k1⟩
        have ho1 := ho.keep k1
        have hK1 := hK.trans k1
        have hsz1 := hK1.size
        clear ho hK C
        go_wp2_with (at_builtin; refine wpList_append_own _ rfl _ _ 25 rfl w.heap.size 2 i0 (.int .i64 0) 1 8 Tryz.underlying25 hi hz0 hz1 hz2 rfl (by decide) _ _ _ rfl (World.ownsRow.alloc ho1 _) ⟨_, 0, none⟩ 1 1 [.int .i64 k] rfl rfl ?c1 ?c2 ?c3 ?c4 ?c5 ?_)
        case c1 =>
          intro j u hj
          match j, hj with
          | 0, hj => simp at hj; subst hj; simp [Addr.add]
        case c2 => intro u hu; simp at hu; subst hu; rfl
        case c3 => unfold maxLen; omega
        case c4 => omega
        case c5 => simp; omega
        intro v' w2 hown' hgrow _
        have hK2 : Keep w w2 := (hK1.alloc _).grown hgrow ho1.ge
        clear hgrow
        go_wp2
        go_roundw
        case rel => exact ⟨k + 1, by omega, by go_num, by rw [HM.out]; exact own_hit hown', hK2⟩
        case measure => simp [intOf]; omega
    · obtain rfl : k = 12 := by omega
      rw [chK_all rdE es 12 hx] at ho
      go_wp2
      go_ret
      exact ⟨_, rfl, ho, hK⟩

set_option maxRecDepth 100000 in
set_option maxHeartbeats 1000000 in
theorem rNumbers_any (w : World) (v : Value) (es : List Ev) (h : RdE w v es) (hx : es.length ≤ 1048576) :
    Calls Tryz.prog 143 #[v, (.func (Fn.func 144) #[] #[])] w fun e w' => ∃ v', e = .returned v' ∧ Own w' w.heap.size v' (idxB rdE es) ∧ Keep w w' := by
  by_cases hl : 12 < es.length
  · have HE : Hid (idxB rdE es = []) := Lib.hid (by unfold idxB; rw [if_neg (by omega)])
    have l1 : (12 : Int) < (es.length : Int) := by omega
    have O : ∀ o1 o2 : Obj, Own (((w.alloc o1).alloc o2).alloc (.cells #[] 2)) w.heap.size (.slice (some ⟨w.heap.size + 1 + 1, 0, none⟩) 0 0) [] := fun o1 o2 => by
      have q : Own (((w.alloc o1).alloc o2).alloc (.cells #[] 2)) ((w.alloc o1).alloc o2).heap.size (.slice (some ⟨((w.alloc o1).alloc o2).heap.size, 0, none⟩) 0 0) [] := World.ownsRow_lit _ #[] 0 (Nat.le_refl _) (by decide) rfl
      have z : ((w.alloc o1).alloc o2).heap.size = w.heap.size + 1 + 1 := by rw [heap_size, heap_size]
      rw [z] at q
      exact q.base_le (by omega)
    obtain ⟨a, c, rfl, h⟩ := h
    go_enter Tryz.func143, Tryz.ntmps143
    go_wp2
    go_ret
    refine ⟨_, rfl, ?_, (((Keep.refl w).alloc _).alloc _).alloc _⟩
    rw [HE.out]
    exact O _ _
  · have l1 : es.length ≤ 12 := by omega
    have HE : Hid (idxB rdE es = idxK rdE es es.length) := Lib.hid (by unfold idxB; rw [if_pos l1])
    clear hl
    have C := fun (o1 o2 : Obj) => rChosen_any ((w.alloc o1).alloc o2) v es (h.keep (((Keep.refl w).alloc _).alloc _)) l1 w.heap.size (w.heap.size + 1)
    obtain ⟨a, c, rfl, h⟩ := h
    have l2 : (es.length : Int) ≤ 12 := by omega
    go_enter Tryz.func143, Tryz.ntmps143
    go_wp2_with fail
    refine (C _ _ ?g1 ?g2 ?g3 ?g4).mono ?_
    case g1 => simp
    case g2 => simp only [heap_size]; omega
    case g3 => simp
    case g4 => simp only [heap_size]; omega
    rintro e w1 ⟨v1, rfl, ho, hK⟩
    go_wp2
    go_ret
    refine ⟨_, rfl, ?_, (((Keep.refl w).alloc _).alloc _).trans hK⟩
    rw [HE.out]
    exact ho.base_le (by simp only [heap_size]; omega)

theorem implReadsOf_any (w : World) (v : Value) (es : List Ev) (h : RdE w v es) (hx : es.length ≤ 1048576) :
    Calls Tryz.prog 94 #[v] w fun e w' => ∃ v', e = .returned v' ∧ Own w' w.heap.size v' (idxB rdE es) ∧ Keep w w' := by
  go_enter Tryz.func94, Tryz.ntmps94
  go_wp2_with fail
  refine (rNumbers_any _ _ _ h hx).mono ?_
  rintro e w1 ⟨v1, rfl, ho, hK⟩
  go_wp2
  go_ret
  exact ⟨_, rfl, ho, hK⟩
end Go.Proofs.YtkbkdlaknmgjpaaGreat

/- Contract of the program's WritesTo: a new list of numbers. (Written by mknum.py.) -/
namespace Go.Proofs.YtkbkdlaknmgjpaaGreat
open Go.ChangeShapes Go.WideShapes Go.ChangeAt Go.RowKit

set_option maxHeartbeats 1000000 in
theorem wClo_any (x0 x1 : Int) (x2 : Bool) (x3 x4 x5 p : Int) (P : Nat) (w : World) (hP : w.cell? ⟨P, 0, none⟩ = some (.int .i64 p)) (hPl : P < w.heap.size) :
    Calls Tryz.prog 145 #[.agg #[.int .i64 x0, .int .i64 x1, .bool x2, .int .i64 x3, .int .i64 x4, .int .i64 x5], .pointer (some ⟨P, 0, none⟩)] w fun e w' => e = .returned (.bool (toE p (x0, x1, x2, x3, x4, x5))) ∧ Keep w w' := by
  cases x2
  · by_cases hp : x3 = p
    · subst hp
      go_enter Tryz.func145, Tryz.ntmps145
      go_wp2
      go_ret
      exact ⟨ret_bool (by simp [toE]), (Keep.refl w).alloc _⟩
    · have he : (x3 == p) = false := by simpa using hp
      go_enter Tryz.func145, Tryz.ntmps145
      go_wp2
      go_ret
      exact ⟨ret_bool (by simp [toE, hp]), (Keep.refl w).alloc _⟩
  · go_enter Tryz.func145, Tryz.ntmps145
    go_wp2
    go_ret
    exact ⟨ret_bool (by simp [toE]), (Keep.refl w).alloc _⟩
set_option maxRecDepth 100000 in
set_option maxHeartbeats 2000000 in
theorem wNum_any (w : World) (v : Value) (es : List Ev) (h : RdE w v es) (k : Nat) (A B : Nat) (p : Int) (P : Nat) (hP : w.cell? ⟨P, 0, none⟩ = some (.int .i64 p)) (hPl : P < w.heap.size) (hA : w.cell? ⟨A, 0, none⟩ = some v) (hAl : A < w.heap.size) (hB : w.cell? ⟨B, 0, none⟩ = some (.func (Fn.func 145) #[] #[.pointer (some ⟨P, 0, none⟩)])) (hBl : B < w.heap.size) :
    Calls Tryz.prog 169 #[.int .i64 k, .pointer (some ⟨A, 0, none⟩), .pointer (some ⟨B, 0, none⟩)] w fun e w' => e = .returned (.bool (tstE (toE p) es k)) ∧ Keep w w' := by
  obtain ⟨a, c, rfl, h⟩ := h
  by_cases hlt : k < es.length
  · rcases h with h | ⟨b, o, rfl, hb, hc⟩
    · exfalso; rw [h] at hlt; simp at hlt
    have AT := hc k _ (evs_get hlt)
    have HE : Hid (tstE (toE p) es k = (toE p) (es.getD k zE)) := Lib.hid (by unfold tstE; simp [hlt])
    clear hc
    obtain ⟨e, he⟩ : ∃ e, e = es.getD k zE := ⟨_, rfl⟩
    rw [← he] at AT HE
    clear he
    obtain ⟨x0, x1, x2, x3, x4, x5⟩ := e
    obtain ⟨d0, d1, d2, d3, d4, d5⟩ := atE AT
    clear AT
    have i1 : (0 : Int) ≤ (k : Int) := Int.natCast_nonneg _
    have i2 : (k : Int) < (es.length : Int) := by omega
    have z1 : b < w.drew.heap.size := hb
    have z2 : A < w.drew.heap.size := hAl
    have z3 : B < w.drew.heap.size := hBl
    have z4 : P < w.drew.heap.size := hPl
    go_enter Tryz.func169, Tryz.ntmps169
    go_wp2_with fail
    go_region_held3 (fun w' => w'.cell? ⟨A, 0, none⟩ = some (.slice (some ⟨b, o, none⟩) es.length (es.length + c)) ∧ w'.cell? ⟨B, 0, none⟩ = some (.func (Fn.func 145) #[] #[.pointer (some ⟨P, 0, none⟩)]) ∧ w'.cell? ⟨P, 0, none⟩ = some (.int .i64 p) ∧ w'.cell? ⟨b, o + k * 6, none⟩ = some (.int .i64 x0) ∧ w'.cell? ⟨b, o + k * 6 + 1, none⟩ = some (.int .i64 x1) ∧ w'.cell? ⟨b, o + k * 6 + 2, none⟩ = some (.bool x2) ∧ w'.cell? ⟨b, o + k * 6 + 3, none⟩ = some (.int .i64 x3) ∧ w'.cell? ⟨b, o + k * 6 + 4, none⟩ = some (.int .i64 x4) ∧ w'.cell? ⟨b, o + k * 6 + 5, none⟩ = some (.int .i64 x5))
      (first | go_keep | (go_split_ands; refine ⟨?_, ?_, ?_, ?_, ?_, ?_, ?_, ?_, ?_⟩ <;> (rw [kk.cell (by assumption)]; assumption)))
      ((go_at_call 145; refine (wClo_any x0 x1 x2 x3 x4 x5 p P _ (by assumption) (by assumption)).mono ?_; rintro e wz ⟨rfl, kk⟩))
    all_goals
      go_wp2
      go_ret
      exact ⟨by rw [HE.out]; rfl, ((Keep.refl w).drew).trans kk⟩
  · have HE : Hid (tstE (toE p) es k = false) := Lib.hid (by unfold tstE; simp [hlt])
    have i2 : ¬ ((k : Int) < (es.length : Int)) := by omega
    go_enter Tryz.func169, Tryz.ntmps169
    go_wp2_with fail
    go_quiet (fail)
    go_wp2
    go_ret
    exact ⟨by rw [HE.out]; rfl, (Keep.refl w).drewN _⟩

set_option maxRecDepth 100000 in
set_option maxHeartbeats 1000000 in
theorem wChosen_any (w : World) (v : Value) (es : List Ev) (h : RdE w v es) (hx : es.length ≤ 12) (A B : Nat) (p : Int) (P : Nat) (hP : w.cell? ⟨P, 0, none⟩ = some (.int .i64 p)) (hPl : P < w.heap.size) (hA : w.cell? ⟨A, 0, none⟩ = some v) (hAl : A < w.heap.size) (hB : w.cell? ⟨B, 0, none⟩ = some (.func (Fn.func 145) #[] #[.pointer (some ⟨P, 0, none⟩)])) (hBl : B < w.heap.size) :
    Calls Tryz.prog 152 #[.func (Fn.func 169) #[] #[.pointer (some ⟨A, 0, none⟩), .pointer (some ⟨B, 0, none⟩)]] w fun e w' => ∃ v', e = .returned v' ∧ Own w' w.heap.size v' (idxK (toE p) es es.length) ∧ Keep w w' := by
  have hown0 : Own (w.alloc (.cells #[] 2)) w.heap.size (.slice (some ⟨w.heap.size, 0, none⟩) 0 0) [] := World.ownsRow_lit w #[] 0 (Nat.le_refl _) (by decide) rfl
  obtain ⟨i0, hi, hz0, hz1, hz2⟩ := info_parts Tryz.infoI
  go_enter Tryz.func152, Tryz.ntmps152
  go_wp2
  go_loopw [3, 6] (fun v i wr => ∃ k : Nat, k ≤ 12 ∧ i = .int .i64 k ∧ Own wr w.heap.size v (chK (toE p) es k) ∧ Keep w wr) (fun _ i _ => 12 - (intOf i).toNat)
  case atStart => exact ⟨0, Nat.zero_le _, rfl, hown0, (Keep.refl _).alloc _⟩
  case round =>
    obtain ⟨k, hk, rfl, ho, hK⟩ := hrel
    clear hown0
    by_cases hlt : k < 12
    · have hml := chK_len (toE p) es k
      have hsz := hK.size
      have C := wNum_any wr v es (h.keep hK) k A B p P (by rw [hK.cell hPl]; exact hP) (Nat.lt_of_lt_of_le hPl hK.size) (by rw [hK.cell hAl]; exact hA) (Nat.lt_of_lt_of_le hAl hK.size) (by rw [hK.cell hBl]; exact hB) (Nat.lt_of_lt_of_le hBl hK.size)
      clear h hA hB
      cases hb : tstE (toE p) es k
      · have HM : Hid (chK (toE p) es (k + 1) = chK (toE p) es k) := Lib.hid (by rw [chK, hb]; rfl)
        rw [hb] at C
        go_wp2_with fail
        refine C.mono ?_
        rintro e w1 ⟨rfl, k1⟩
        go_wp2
        go_roundw
        case rel => exact ⟨k + 1, by omega, by go_num, by rw [HM.out]; exact ho.keep k1, hK.trans k1⟩
        case measure => simp [intOf]; omega
      · have HM : Hid (chK (toE p) es (k + 1) = chK (toE p) es k ++ [(k : Int)]) := Lib.hid (by rw [chK, hb]; rfl)
        rw [hb] at C
        go_wp2_with fail
        refine C.mono ?_
        rintro e w1 ⟨rfl, k1⟩
        have ho1 := ho.keep k1
        have hK1 := hK.trans k1
        have hsz1 := hK1.size
        clear ho hK C
        go_wp2_with (at_builtin; refine wpList_append_own _ rfl _ _ 25 rfl w.heap.size 2 i0 (.int .i64 0) 1 8 Tryz.underlying25 hi hz0 hz1 hz2 rfl (by decide) _ _ _ rfl (World.ownsRow.alloc ho1 _) ⟨_, 0, none⟩ 1 1 [.int .i64 k] rfl rfl ?c1 ?c2 ?c3 ?c4 ?c5 ?_)
        case c1 =>
          intro j u hj
          match j, hj with
          | 0, hj => simp at hj; subst hj; simp [Addr.add]
        case c2 => intro u hu; simp at hu; subst hu; rfl
        case c3 => unfold maxLen; omega
        case c4 => omega
        case c5 => simp; omega
        intro v' w2 hown' hgrow _
        have hK2 : Keep w w2 := (hK1.alloc _).grown hgrow ho1.ge
        clear hgrow
        go_wp2
        go_roundw
        case rel => exact ⟨k + 1, by omega, by go_num, by rw [HM.out]; exact own_hit hown', hK2⟩
        case measure => simp [intOf]; omega
    · obtain rfl : k = 12 := by omega
      rw [chK_all (toE p) es 12 hx] at ho
      go_wp2
      go_ret
      exact ⟨_, rfl, ho, hK⟩

set_option maxRecDepth 100000 in
set_option maxHeartbeats 1000000 in
theorem wNumbers_any (w : World) (v : Value) (es : List Ev) (h : RdE w v es) (hx : es.length ≤ 1048576) (p : Int) (P : Nat) (hP : w.cell? ⟨P, 0, none⟩ = some (.int .i64 p)) (hPl : P < w.heap.size) :
    Calls Tryz.prog 143 #[v, (.func (Fn.func 145) #[] #[.pointer (some ⟨P, 0, none⟩)])] w fun e w' => ∃ v', e = .returned v' ∧ Own w' w.heap.size v' (idxB (toE p) es) ∧ Keep w w' := by
  by_cases hl : 12 < es.length
  · have HE : Hid (idxB (toE p) es = []) := Lib.hid (by unfold idxB; rw [if_neg (by omega)])
    have l1 : (12 : Int) < (es.length : Int) := by omega
    have O : ∀ o1 o2 : Obj, Own (((w.alloc o1).alloc o2).alloc (.cells #[] 2)) w.heap.size (.slice (some ⟨w.heap.size + 1 + 1, 0, none⟩) 0 0) [] := fun o1 o2 => by
      have q : Own (((w.alloc o1).alloc o2).alloc (.cells #[] 2)) ((w.alloc o1).alloc o2).heap.size (.slice (some ⟨((w.alloc o1).alloc o2).heap.size, 0, none⟩) 0 0) [] := World.ownsRow_lit _ #[] 0 (Nat.le_refl _) (by decide) rfl
      have z : ((w.alloc o1).alloc o2).heap.size = w.heap.size + 1 + 1 := by rw [heap_size, heap_size]
      rw [z] at q
      exact q.base_le (by omega)
    obtain ⟨a, c, rfl, h⟩ := h
    go_enter Tryz.func143, Tryz.ntmps143
    go_wp2
    go_ret
    refine ⟨_, rfl, ?_, (((Keep.refl w).alloc _).alloc _).alloc _⟩
    rw [HE.out]
    exact O _ _
  · have l1 : es.length ≤ 12 := by omega
    have HE : Hid (idxB (toE p) es = idxK (toE p) es es.length) := Lib.hid (by unfold idxB; rw [if_pos l1])
    clear hl
    have C := fun (o1 o2 : Obj) => wChosen_any ((w.alloc o1).alloc o2) v es (h.keep (((Keep.refl w).alloc _).alloc _)) l1 w.heap.size (w.heap.size + 1) p P (by rw [Keep.cell (((Keep.refl w).alloc _).alloc _) hPl]; exact hP) (Nat.lt_of_lt_of_le hPl (Keep.size (((Keep.refl w).alloc _).alloc _)))
    obtain ⟨a, c, rfl, h⟩ := h
    have l2 : (es.length : Int) ≤ 12 := by omega
    go_enter Tryz.func143, Tryz.ntmps143
    go_wp2_with fail
    refine (C _ _ ?g1 ?g2 ?g3 ?g4).mono ?_
    case g1 => simp
    case g2 => simp only [heap_size]; omega
    case g3 => simp
    case g4 => simp only [heap_size]; omega
    rintro e w1 ⟨v1, rfl, ho, hK⟩
    go_wp2
    go_ret
    refine ⟨_, rfl, ?_, (((Keep.refl w).alloc _).alloc _).trans hK⟩
    rw [HE.out]
    exact ho.base_le (by simp only [heap_size]; omega)

theorem implWritesTo_any (w : World) (v : Value) (es : List Ev) (h : RdE w v es) (hx : es.length ≤ 1048576) (p : Int) :
    Calls Tryz.prog 95 #[v, .int .i64 p] w fun e w' => ∃ v', e = .returned v' ∧ Own w' w.heap.size v' (idxB (toE p) es) ∧ Keep w w' := by
  have C := fun (o1 : Obj) => wNumbers_any (w.alloc o1) v es (h.keep ((Keep.refl w).alloc _)) hx p w.heap.size
  go_enter Tryz.func95, Tryz.ntmps95
  go_wp2_with fail
  refine (C _ ?g1 ?g2).mono ?_
  case g1 => simp
  case g2 => simp only [heap_size]; omega
  rintro e w1 ⟨v1, rfl, ho, hK⟩
  go_wp2
  go_ret
  exact ⟨_, rfl, ho.base_le (by simp only [heap_size]; omega), ((Keep.refl w).alloc _).trans hK⟩
end Go.Proofs.YtkbkdlaknmgjpaaGreat

/- Contract of the program's choicesOf. -/
namespace Go.Proofs.YtkbkdlaknmgjpaaGreat
open Go.ChangeShapes Go.WideShapes Go.ChangeAt Go.RowKit

theorem cell_list {w : World} {b : Nat} {v : Value} (h : w.cell? ⟨b, 0, none⟩ = some v) : ∀ j u, ([v] : List Value)[j]? = some u → w.cell? ((⟨b, 0, none⟩ : Addr).add j) = some u := by
  intro j u hj
  match j, hj with
  | 0, hj =>
    simp at hj
    subst hj
    exact h
  | k + 1, hj => simp at hj
/-- All these lie from block s on. -/
def Ge (s : Nat) (vs : List Value) : Prop := ∀ (i : Nat) u, vs[i]? = some u → ∀ k, u.ownBlock = some k → s ≤ k
theorem Ge.push {s : Nat} {vs : List Value} {u : Value} (h : Ge s vs) (hu : ∀ k, u.ownBlock = some k → s ≤ k) : Ge s (vs ++ [u]) := by
  intro i y hy
  by_cases hi : i < vs.length
  · rw [List.getElem?_append_left hi] at hy
    exact h i y hy
  · rw [List.getElem?_append_right (by omega)] at hy
    have : i - vs.length = 0 := by
      have := (List.getElem?_eq_some_iff.1 hy).1
      simp at this
      omega
    rw [this] at hy
    simp only [List.getElem?_cons_zero, Option.some.injEq] at hy
    subst hy
    exact hu
set_option maxRecDepth 100000 in
set_option maxHeartbeats 2000000 in
theorem choicesOf_any (w : World) (v : Value) (es : List Ev) (h : RdE w v es) (hx : es.length ≤ 12) :
    Calls Tryz.prog 151 #[v] w fun e w' => ∃ v', e = .returned v' ∧ RdP w.heap.size w'.heap.size w' v' (chcL es).length (chcL es) ∧ Keep w w' := by
  obtain ⟨i0, hi, hz0, hz1, hz2⟩ := info_parts Tryz.infoL
  have A0 := appL_empty w
  have rl : (idxB rdE es).length ≤ 12 := by
    unfold idxB
    rw [if_pos hx]
    have := idxK_len rdE es es.length
    omega
  have rin : ∀ i, i < (idxB rdE es).length → 0 ≤ (idxB rdE es).getD i 0 ∧ (idxB rdE es).getD i 0 < (es.length : Int) := by
    intro i hi
    have hm : (idxB rdE es).getD i 0 ∈ idxB rdE es := by
      rw [List.getD_eq_getElem?_getD, List.getElem?_eq_getElem hi]
      exact List.getElem_mem hi
    refine idxK_lt rdE es _ _ ?_
    unfold idxB at hm ⊢
    rw [if_pos hx] at hm ⊢
    exact hm
  have HL : Hid (chcL es = chcK es (idxB rdE es) (idxB rdE es).length) := Lib.hid rfl
  go_enter Tryz.func151, Tryz.ntmps151
  go_wp2_with fail
  refine (implReadsOf_any _ _ _ (h.keep ((Keep.refl w).alloc _)) (by omega)).mono ?_
  rintro e w1 ⟨vr, rfl, or1, k1⟩
  generalize idxB rdE es = rs at rl rin HL or1
  have A1 := A0.keep k1
  have K1 : Keep w w1 := ((Keep.refl w).alloc _).trans k1
  have R1 : Beside w1 (.slice (some ⟨w.heap.size, 0, none⟩) 0 0) vr rs := or1.beside (fun k hk => by rw [heap_size]; simp [Value.ownBlock] at hk; omega)
  have RIN := Lib.hid rin
  obtain ⟨ar, cr, rfl, -⟩ := R1.rd
  clear A0 k1 or1 rin
  go_wp2
  go_loopw [3, 10] (fun x i wr => ∃ k : Nat, ∃ vs : List Value, k ≤ rs.length ∧ i = .int .i64 k ∧ Ge w.heap.size vs ∧ AppL wr w.heap.size x vs (chcK es rs k) ∧ Beside wr x (.slice ar rs.length cr) rs ∧ Keep w wr) (fun _ i _ => rs.length - (intOf i).toNat)
  case atStart => exact ⟨0, [], Nat.zero_le _, rfl, fun i u h => by simp at h, A1, R1, K1⟩
  case round =>
    obtain ⟨k, vs, hk, rfl, hG, hA, hB, hK⟩ := hrel
    clear A1 R1 K1
    by_cases hlt : k < rs.length
    · have hr := RIN.out k hlt
      obtain ⟨r, hr'⟩ := Int.eq_ofNat_of_zero_le hr.1
      have hre : r < es.length := by omega
      have hRd := hB.rd
      obtain ⟨a', c', he', hRd⟩ := hRd
      simp only [Value.slice.injEq, true_and] at he'
      obtain ⟨rfl, rfl⟩ := he'
      rcases hRd with h0 | ⟨br, or', rfl, hbr, hcr⟩
      · exfalso; rw [h0] at hlt; simp at hlt
      have d1 := hcr k hlt
      rw [hr'] at d1
      have HC : Hid (chcK es rs (k + 1) = chcK es rs k ++ [idxB (toE (plE es (r : Int))) es]) := Lib.hid (by rw [chcK, hr'])
      have HP : Hid (plE es (r : Int) = (es.getD r zE).2.2.2.1) := Lib.hid (by unfold plE; rw [Int.toNat_natCast])
      clear hr hr' hcr
      have hE := h.keep hK
      obtain ⟨ae, ce, rfl, h2⟩ := id hE
      rcases h2 with h0 | ⟨be, oe, rfl, hbe, hce⟩
      · exfalso; rw [h0] at hre; simp at hre
      have AT := hce r _ (evs_get hre)
      clear hce
      generalize es.getD r zE = e at AT HP
      obtain ⟨x0, x1, x2, x3, x4, x5⟩ := e
      obtain ⟨-, -, -, q3, -, -⟩ := atE AT
      clear AT
      simp only at HP
      rw [HP.out] at HC
      clear HP
      have i1 : (0 : Int) ≤ (k : Int) := Int.natCast_nonneg _
      have i2 : (k : Int) < (rs.length : Int) := by omega
      have j1 : (0 : Int) ≤ (r : Int) := Int.natCast_nonneg _
      have j2 : (r : Int) < (es.length : Int) := by omega
      have hcl := chcK_len es rs k
      go_wp2_with fail
      refine (implWritesTo_any _ _ _ hE (by omega) _).mono ?_
      rintro e w2 ⟨v2, rfl, o2, k2⟩
      obtain ⟨D, hD⟩ : ∃ D, D = chcK es rs k := ⟨_, rfl⟩
      rw [← hD] at hA HC hcl
      clear hD
      generalize idxB (toE x3) es = zs at o2 HC
      have hA2 := (hA.keep k2).keep ((Keep.refl w2).alloc (.cells #[v2] 25))
      have hB2 := (hB.keep k2).keep ((Keep.refl w2).alloc (.cells #[v2] 25))
      have hU : Beside (w2.alloc (.cells #[v2] 25)) _ v2 zs := (o2.beside (x := u3) (fun k hk => (hA.lt k hk).2)).keep ((Keep.refl w2).alloc _)
      have hK2 := hK.trans k2
      have hsz := hK2.size
      have hG2 := hG.push (fun k hk => Nat.le_trans hK.size (o2.ge k hk))
      obtain ⟨a2, c2, hv2, -⟩ := o2.rd
      clear hA hB o2
      generalize zs.length = nz at hv2
      subst hv2
      go_wp2_with (at_builtin; refine wpList_append_own_at _ rfl _ _ 57 rfl w.heap.size 25 i0 (.slice none 0 0) 1 24 Tryz.underlying57 hi hz0 hz1 hz2 rfl (by decide) _ _ _ rfl hA2.row ⟨_, 0, none⟩ 1 1 [.slice a2 nz c2] rfl rfl ?c1 ?c2 ?c3 ?c4 ?c5 ?_)
      case c1 => exact cell_list (Boxed.new _ _ _).cell
      case c2 => intro u hu; simp at hu; subst hu; rfl
      case c3 => unfold maxLen; omega
      case c4 => omega
      case c5 => first | omega | (simp; omega)
      intro v' w3 hown' hgrow _ hblk
      have hblk' : v'.ownBlock = u3.ownBlock ∨ v'.ownBlock = some (w2.alloc (.cells #[.slice a2 nz c2] 25)).heap.size := by rw [heap_size]; exact hblk
      have hA3 := hA2.push hU (by rw [hcl]; exact hown') hgrow hblk'
      have hB3 := hB2.grow hgrow hblk'
      have hK3 : Keep w w3 := (hK2.alloc _).grown hgrow (fun k hk => (hA2.lt k hk).1)
      clear hown' hgrow hblk hblk' hA2 hB2 hU
      go_wp2
      go_roundw
      case rel => exact ⟨k + 1, _, by omega, by go_num, hG2, by rw [HC.out]; exact hA3, hB3, hK3⟩
      case measure => simp [intOf]; omega
    · obtain rfl : k = rs.length := by omega
      have HR := Lib.hid (hA.rdp hG)
      go_wp2
      go_ret
      exact ⟨_, rfl, by rw [HL.out]; exact HR.out, hK⟩
end Go.Proofs.YtkbkdlaknmgjpaaGreat

/- Is a number in a list: plain. -/
namespace Go.Proofs.YtkbkdlaknmgjpaaGreat

theorem isB_take {l : List Int} {n : Int} (h : ∀ i, i < l.length → l.getD i 0 ≠ n) : isB l n = false := by
  unfold isB
  rw [List.any_eq_false]
  intro x hx
  obtain ⟨i, hi, e⟩ := List.getElem_of_mem hx
  have := h i hi
  rw [List.getD_eq_getElem?_getD, List.getElem?_eq_getElem hi] at this
  simp only [Option.getD_some] at this
  rw [← e]
  simpa using this
theorem isB_at {l : List Int} {n : Int} {i : Nat} (hi : i < l.length) (h : l.getD i 0 = n) : isB l n = true := by
  unfold isB
  rw [List.any_eq_true]
  refine ⟨n, ?_, by simp⟩
  rw [← h, List.getD_eq_getElem?_getD, List.getElem?_eq_getElem hi]
  exact List.getElem_mem hi
end Go.Proofs.YtkbkdlaknmgjpaaGreat

/- Contracts of slices.Index and slices.Contains of a list of numbers. -/
namespace Go.Proofs.YtkbkdlaknmgjpaaGreat
open Go.ChangeShapes Go.WideShapes Go.ChangeAt Go.RowKit

set_option maxHeartbeats 1000000 in
theorem index_any (w : World) (v : Value) (zs : List Int) (h : Rd w v zs) (hn : zs.length ≤ 1048576) (n : Int) :
    Calls Tryz.prog 168 #[v, .int .i64 n] w fun e w' => ∃ r : Int, e = .returned (.int .i64 r) ∧ Hid (decide (0 ≤ r) = isB zs n) ∧ w' = w := by
  obtain ⟨a, c, rfl, h⟩ := h
  go_enter Tryz.func168, Tryz.ntmps168
  go_wp2
  go_loop [8] (fun i => ∃ k : Nat, k ≤ zs.length ∧ i = .int .i64 k ∧ Hid (∀ i, i < k → zs.getD i 0 ≠ n)) (fun i => zs.length - (intOf i).toNat)
  case atStart => exact ⟨0, Nat.zero_le _, rfl, Lib.hid (fun i hi => absurd hi (Nat.not_lt_zero _))⟩
  case round =>
    obtain ⟨k, hk, rfl, hno⟩ := hrel
    by_cases hlt : k < zs.length
    · rcases h with h | ⟨b, o, rfl, hb, hc⟩
      · exfalso; rw [h] at hlt; simp at hlt
      have d1 := hc k hlt
      obtain ⟨p, hp⟩ : ∃ p, p = zs.getD k 0 := ⟨_, rfl⟩
      have HP := Lib.hid hp
      rw [← hp] at d1
      clear hc hp
      have i1 : (0 : Int) ≤ (k : Int) := Int.natCast_nonneg _
      have i2 : (k : Int) < (zs.length : Int) := by omega
      by_cases he : p = n
      · have hb : (n == p) = true := by simp [he]
        have HE : Hid (isB zs n = true) := Lib.hid (isB_at hlt (by rw [← HP.out]; exact he))
        clear he
        go_wp2
        go_ret
        exact ⟨k, rfl, Lib.hid (by rw [HE.out]; simp), rfl⟩
      · have hb : (n == p) = false := by simp; exact fun h => he h.symm
        have HE : Hid (∀ i, i < k + 1 → zs.getD i 0 ≠ n) := Lib.hid (fun i hi => by
          by_cases e : i = k
          · subst e; rw [← HP.out]; exact he
          · exact hno.out i (by omega))
        clear he
        go_wp2
        go_round
        case rel => exact ⟨k + 1, by omega, by go_num, HE⟩
        case measure => simp [intOf]; omega
    · obtain rfl : k = zs.length := by omega
      have HE : Hid (isB zs n = false) := Lib.hid (isB_take hno.out)
      go_wp2
      go_ret
      exact ⟨-1, rfl, Lib.hid (by rw [HE.out]; rfl), rfl⟩
theorem contains_any (w : World) (v : Value) (zs : List Int) (h : Rd w v zs) (hn : zs.length ≤ 1048576) (n : Int) :
    Calls Tryz.prog 142 #[v, .int .i64 n] w fun e w' => e = .returned (.bool (isB zs n)) ∧ w' = w := by
  go_enter Tryz.func142, Tryz.ntmps142
  go_wp2_with fail
  refine (index_any _ _ _ h hn _).mono ?_
  rintro e w1 ⟨r, rfl, hr, rfl⟩
  go_wp2
  go_ret
  exact ⟨by rw [← hr.out]; rfl, rfl⟩
end Go.Proofs.YtkbkdlaknmgjpaaGreat

/- Contract of the program's SourceOk. -/
namespace Go.Proofs.YtkbkdlaknmgjpaaGreat
open Go.ChangeShapes Go.WideShapes Go.ChangeAt Go.RowKit

set_option maxRecDepth 100000 in
set_option maxHeartbeats 2000000 in
theorem implSourceOk_any (w : World) (v vf : Value) (dss : List (List Dd)) (f : List Int) (h : RdW w v dss) (hf : Rd w vf f) (hx : dss.length ≤ 1048576) (hm : ∀ i, i < dss.length → (dss.getD i []).length ≤ 1048576) (hfl : f.length ≤ 1048576) :
    Calls Tryz.prog 99 #[v, vf] w fun e w' => e = .returned (.bool (sourceB dss f)) ∧ Keep w w' := by
  have h12 : (eventsB dss).length ≤ 12 := by have := eventsB_len9 dss; omega
  obtain ⟨cl1, cl2⟩ := chc_len h12
  go_enter Tryz.func99, Tryz.ntmps99
  go_wp2_with fail
  refine (implEventsOf_any _ _ _ h hx hm).mono ?_
  rintro e w2 ⟨v2, rfl, a2, k2⟩
  go_wp2_with fail
  refine (choicesOf_any _ _ _ a2.rd h12).mono ?_
  rintro e w3 ⟨v3, rfl, rp, k3⟩
  have K3 := k2.trans k3
  have rc := rp.rdl (Nat.le_refl _)
  have hf3 := hf.keep K3
  have HE : Hid (sourceB dss f = (workB dss && srcB (chcL (eventsB dss)) f)) := Lib.hid rfl
  generalize chcL (eventsB dss) = c at rc HE cl1 cl2
  obtain ⟨ac, cc, rfl, -⟩ := id rc
  obtain ⟨af, cf, rfl, -⟩ := id hf3
  go_wp2_with fail
  refine (implWorkOk_any _ _ _ (h.keep K3) hx hm).mono ?_
  rintro e w4 ⟨rfl, k4⟩
  have K4 := K3.trans k4
  have hf4 := hf3.keep k4
  have rc4 := rc.keep k4
  clear h a2 k2 k3 rp rc hf hf3 K3 k4 hx hm h12
  cases hb : workB dss
  · have HN : Hid (sourceB dss f = false) := Lib.hid (by rw [HE.out, hb]; rfl)
    go_wp2
    go_ret
    exact ⟨by rw [HN.out]; rfl, K4⟩
  have HE2 : Hid (sourceB dss f = srcB c f) := Lib.hid (by rw [HE.out, hb]; rfl)
  clear HE
  by_cases hl : c.length = f.length
  · have hlb : ((f.length : Int) != (c.length : Int)) = false := by simp [hl]
    have l1 : f.length ≤ c.length := by omega
    have l2 : c.length ≤ f.length := by omega
    have HS : Hid (srcB c f = srcK c f f.length) := Lib.hid (by unfold srcB; simp [hl])
    clear hl
    go_wp2
    go_loopw [23] (fun i wr => ∃ k : Nat, k ≤ f.length ∧ i = .int .i64 k ∧ Hid (srcK c f k = true) ∧ Keep w4 wr) (fun i _ => f.length - (intOf i).toNat)
    case atStart => exact ⟨0, Nat.zero_le _, rfl, Lib.hid rfl, Keep.refl _⟩
    case round =>
      obtain ⟨k, hk, rfl, hS, hK⟩ := hrel
      by_cases hlt : k < f.length
      · have rck := rc4.keep hK
        have hfk := hf4.keep hK
        obtain ⟨a', c', he', rck⟩ := rck
        simp only [Value.slice.injEq, true_and] at he'
        obtain ⟨rfl, rfl⟩ := he'
        rcases rck with h | ⟨b, o, rfl, hbb, hc⟩
        · exfalso; rw [h] at l1; simp only [List.length_nil] at l1; omega
        obtain ⟨a', c', he', hfk⟩ := hfk
        simp only [Value.slice.injEq, true_and] at he'
        obtain ⟨rfl, rfl⟩ := he'
        rcases hfk with h | ⟨b2, o2, rfl, hb2, hc2⟩
        · exfalso; rw [h] at hlt; simp at hlt
        obtain ⟨vi, d1, r2⟩ := hc k (by omega)
        have d2 := hc2 k hlt
        have ck := cl2 k (by omega)
        clear hc hc2
        have HB : Hid (srcK c f (k + 1) = (srcK c f k && isB (c.getD k []) (f.getD k 0))) := Lib.hid rfl
        generalize f.getD k 0 = n at d2 HB
        generalize c.getD k [] = zs at r2 ck HB
        obtain ⟨az, cz, rfl, -⟩ := id r2
        have i1 : (0 : Int) ≤ (k : Int) := Int.natCast_nonneg _
        have i2 : (k : Int) < (c.length : Int) := by omega
        have i3 : (k : Int) < (f.length : Int) := by omega
        cases hi : isB zs n
        · have HN : Hid (srcK c f f.length = false) := Lib.hid (srcK_false (k := k + 1) (by rw [HB.out, hi, Bool.and_false]) _ hlt)
          have CI := contains_any wr _ zs r2 (by omega) n
          rw [hi] at CI
          go_wp2_with fail
          refine CI.mono ?_
          rintro e w5 ⟨rfl, rfl⟩
          go_wp2
          go_ret
          exact ⟨by rw [HE2.out, HS.out, HN.out]; rfl, K4.trans hK⟩
        · have HN : Hid (srcK c f (k + 1) = true) := Lib.hid (by rw [HB.out, hi, hS.out]; rfl)
          have CI := contains_any wr _ zs r2 (by omega) n
          rw [hi] at CI
          go_wp2_with fail
          refine CI.mono ?_
          rintro e w5 ⟨rfl, rfl⟩
          go_wp2
          go_roundw
          case rel => exact ⟨k + 1, by omega, by go_num, HN, hK⟩
          case measure => simp [intOf]; omega
      · obtain rfl : k = f.length := by omega
        go_wp2
        go_ret
        exact ⟨by rw [HE2.out, HS.out, hS.out]; rfl, K4.trans hK⟩
  · have hlb : ((f.length : Int) != (c.length : Int)) = true := by simp; omega
    have HS : Hid (srcB c f = false) := Lib.hid (by unfold srcB; simp [hl])
    clear hl
    go_wp2
    go_ret
    exact ⟨by rw [HE2.out, HS.out]; rfl, K4⟩
end Go.Proofs.YtkbkdlaknmgjpaaGreat

/- Contract of the program's FromWeb. -/
namespace Go.Proofs.YtkbkdlaknmgjpaaGreat
open Go.ChangeShapes Go.WideShapes Go.ChangeAt Go.RowKit

theorem workB_useI {dss : List (List Dd)} {f : List Int} (h : sourceB dss f = true) : workB dss = true ∧ srcB (chcL (eventsB dss)) f = true := by
  rw [sourceB, Bool.and_eq_true] at h
  exact h
set_option maxRecDepth 100000 in
set_option maxHeartbeats 2000000 in
theorem implFromWeb_any (w : World) (v vf : Value) (dss : List (List Dd)) (f : List Int) (h : RdW w v dss) (hf : Rd w vf f) (hx : dss.length ≤ 1048576) (hm : ∀ i, i < dss.length → (dss.getD i []).length ≤ 1048576) (hfl : f.length ≤ 1048576) :
    Calls Tryz.prog 47 #[v, vf] w fun e w' => ∃ v', e = .returned v' ∧ Row w' w.heap.size v' (fwB dss f) ∧ Keep w w' := by
  cases hs : sourceB dss f
  · have HE : Hid (fwB dss f = []) := Lib.hid (by rw [fwB, hs]; rfl)
    have C := implSourceOk_any w v vf dss f h hf hx hm hfl
    rw [hs] at C
    go_enter Tryz.func47, Tryz.ntmps47
    go_wp2_with fail
    refine C.mono ?_
    rintro e w1 ⟨rfl, k1⟩
    have s1 := k1.size
    go_wp2
    go_ret
    exact ⟨_, rfl, by rw [HE.out]; exact (row_empty w1 _).base_le s1, k1.alloc _⟩
  · obtain ⟨hb, hs2⟩ := workB_useI hs
    have HE : Hid (fwB dss f = fwL (eventsB dss) f) := Lib.hid (by rw [fwB, if_pos hs])
    have h12 : (eventsB dss).length ≤ 12 := by have := eventsB_len9 dss; omega
    obtain ⟨sl, su⟩ := src_use h12 hs2
    have C := implSourceOk_any w v vf dss f h hf hx hm hfl
    rw [hs] at C
    have rl : (idxB rdE (eventsB dss)).length ≤ 12 := by
      unfold idxB
      rw [if_pos h12]
      have := idxK_len rdE (eventsB dss) (eventsB dss).length
      omega
    have rin : ∀ i, i < (idxB rdE (eventsB dss)).length → 0 ≤ (idxB rdE (eventsB dss)).getD i 0 ∧ (idxB rdE (eventsB dss)).getD i 0 < ((eventsB dss).length : Int) := by
      intro i hi
      have hm : (idxB rdE (eventsB dss)).getD i 0 ∈ idxB rdE (eventsB dss) := by
        rw [List.getD_eq_getElem?_getD, List.getElem?_eq_getElem hi]
        exact List.getElem_mem hi
      refine idxK_lt rdE (eventsB dss) _ _ ?_
      unfold idxB at hm ⊢
      rw [if_pos h12] at hm ⊢
      exact hm
    have fin : ∀ i, i < (idxB rdE (eventsB dss)).length → 0 ≤ f.getD i 0 ∧ f.getD i 0 < ((eventsB dss).length : Int) := fun i hi => (su i hi).1
    have HL : Hid (fwL (eventsB dss) f = fwK (eventsB dss).length (idxB rdE (eventsB dss)) f (idxB rdE (eventsB dss)).length) := Lib.hid rfl
    clear su
    go_enter Tryz.func47, Tryz.ntmps47
    go_wp2_with fail
    refine C.mono ?_
    rintro e w1 ⟨rfl, k1⟩
    have s1 := k1.size
    go_wp2_with fail
    refine (implEventsOf_any _ _ _ (h.keep k1) hx hm).mono ?_
    rintro e w2 ⟨v2, rfl, a2, k2⟩
    have s2 := k2.size
    have re := a2.rd
    generalize eventsB dss = es at *
    obtain ⟨ae, ce, rfl, -⟩ := id re
    go_wp2_with fail
    refine (blank_any _ _ h12).mono ?_
    rintro e w3 ⟨rfl, rb, k3⟩
    have s3 := k3.size
    go_wp2_with fail
    refine (implReadsOf_any _ _ _ (re.keep k3) (by omega)).mono ?_
    rintro e w4 ⟨vr, rfl, or4, k4⟩
    have s4 := k4.size
    have hr3 := rb.lt
    generalize idxB rdE es = rs at *
    have hF4 := hf.keep (((k1.trans k2).trans k3).trans k4)
    have hK4 : Keep w w4 := ((k1.trans k2).trans k3).trans k4
    have N2 : vr.ownBlock = none ∨ vr.ownBlock ≠ some w2.heap.size := by
      cases hu : vr.ownBlock with
      | none => exact .inl rfl
      | some k => exact .inr (fun e => by have := or4.ge k hu; have := Option.some.inj e; omega)
    have hFB : 0 < f.length → (vf.ownBlock = none ∨ vf.ownBlock ≠ some w2.heap.size) := by
      intro hpos
      obtain ⟨a, c, rfl, hv⟩ := hf
      rcases hv with hv | ⟨b, o, rfl, hb, _⟩
      · rw [hv] at hpos; simp at hpos
      · exact .inr (by simp [Value.ownBlock]; omega)
    have HFB := Lib.hid hFB
    clear hFB
    have R4 := or4.rd
    have rb4 : RowAt w4 w2.heap.size (fwK es.length rs f 0) := rb.keep k4
    have hb2 : w.heap.size ≤ w2.heap.size := by omega
    obtain ⟨ar, cr, rfl, -⟩ := id R4
    obtain ⟨af, cf, rfl, -⟩ := id hf
    have RIN := Lib.hid rin
    have FIN := Lib.hid fin
    have l1 : rs.length ≤ f.length := by omega
    clear rin fin sl a2 re k1 k2 k3 k4 C h hx hm rb or4 hs hs2 hb hr3 s1 s2 s3 s4 hf
    go_wp2
    go_loopw [22] (fun i wr => ∃ k : Nat, k ≤ rs.length ∧ i = .int .i64 k ∧ RowAt wr w2.heap.size (fwK es.length rs f k) ∧ Rd wr (.slice ar rs.length cr) rs ∧ Keep w wr ∧ Rd wr (.slice af f.length cf) f) (fun i _ => rs.length - (intOf i).toNat)
    case atStart => exact ⟨0, Nat.zero_le _, rfl, rb4, R4, hK4, hF4⟩
    case round =>
      obtain ⟨k, hk, rfl, hr, hR, hK, hF⟩ := hrel
      clear rb4 R4 hK4 hF4
      by_cases hlt : k < rs.length
      · obtain ⟨r, hr0⟩ := Int.eq_ofNat_of_zero_le (RIN.out k hlt).1
        obtain ⟨t, ht0⟩ := Int.eq_ofNat_of_zero_le (FIN.out k hlt).1
        have hte : t < es.length := by have := (FIN.out k hlt).2; omega
        have hW := (fw_line (n := es.length) (rs := rs) (f := f) h12 k (fun i hi => RIN.out i (by omega)) (fun i hi => FIN.out i (by omega))).1
        have hBl : (fwK es.length rs f k).length = es.length := hW.2.1
        have HC : Hid (fwK es.length rs f (k + 1) = (fwK es.length rs f k).set t (gAdd ((fwK es.length rs f k).getD t 0) (r : Int))) := Lib.hid (by
          rw [fwK, ht0, hr0, Int.toNat_natCast])
        obtain ⟨a', c', he', hR'⟩ := id hR
        simp only [Value.slice.injEq, true_and] at he'
        obtain ⟨rfl, rfl⟩ := he'
        rcases hR' with h0 | ⟨br, orr, rfl, hbr, hcr⟩
        · exfalso; rw [h0] at hlt; simp at hlt
        have d3 := hcr k hlt
        rw [hr0] at d3
        obtain ⟨a2, c2, he2, hF'⟩ := id hF
        simp only [Value.slice.injEq, true_and] at he2
        obtain ⟨rfl, rfl⟩ := he2
        rcases hF' with h0 | ⟨bf, off, rfl, hbf, hcf⟩
        · exfalso; rw [h0] at l1; simp only [List.length_nil] at l1; omega
        have d4 := hcf k (by omega)
        rw [ht0] at d4
        clear hcr hcf hr0 ht0 hW
        have i1 : (0 : Int) ≤ (k : Int) := Int.natCast_nonneg _
        have i2 : (k : Int) < (rs.length : Int) := by omega
        have i3 : (k : Int) < (f.length : Int) := by omega
        have CL := line_any wr w2.heap.size es.length es.length (fwK es.length rs f k) t (r : Int) hr hBl hte
        rw [← HC.out] at CL
        clear hBl
        go_wp2_with fail
        refine CL.mono ?_
        rintro e w5 ⟨rfl, hr5, hg5⟩
        have hR5 := hR.keptR hg5 N2
        have hF5 := hF.keptR hg5 (HFB.out (by omega))
        have hK5 : Keep w w5 := hK.grown hg5 (by simp; omega)
        clear CL hR hF hK hr
        go_wp2
        go_roundw
        case rel => exact ⟨k + 1, by omega, by go_num, hr5, hR5, hK5, hF5⟩
        case measure => simp [intOf]; omega
      · obtain rfl : k = rs.length := by omega
        go_wp2
        go_ret
        refine ⟨_, rfl, ?_, hK⟩
        rw [HE.out, HL.out]
        have hW := (fw_line (n := es.length) (rs := rs) (f := f) h12 rs.length (fun i hi => RIN.out i (by omega)) (fun i hi => FIN.out i (by omega))).1
        exact .inr ⟨w2.heap.size, es.length, by rw [hW.2.1]; rfl, hb2, hr⟩
end Go.Proofs.YtkbkdlaknmgjpaaGreat

/- Contract of the program's FromOthers. -/
namespace Go.Proofs.YtkbkdlaknmgjpaaGreat
open Go.ChangeShapes Go.WideShapes Go.ChangeAt Go.RowKit

theorem fw_web (dss : List (List Dd)) (f : List Int) : Web (fwB dss f).length (fwB dss f) ∧ (fwB dss f).length ≤ (eventsB dss).length := by
  cases h : sourceB dss f with
  | false => rw [(fo_none h).1]; exact ⟨⟨Nat.zero_le _, rfl, fun i hi => absurd hi (Nat.not_lt_zero i)⟩, Nat.zero_le _⟩
  | true =>
    have hbs := h
    rw [sourceB, Bool.and_eq_true] at hbs
    have hx := eventsB_12 dss
    obtain ⟨sl, su⟩ := src_use hx hbs.2
    have wf := fw_line (f := f) hx (idxB rdE (eventsB dss)).length (fun i hi => rd_in hx hi) (fun i hi => (su i hi).1)
    have ef : fwB dss f = fwL (eventsB dss) f := by rw [fwB, if_pos h]
    have e1 : (fwL (eventsB dss) f).length = (eventsB dss).length := wf.1.2.1
    rw [ef, e1]
    exact ⟨wf.1, Nat.le_refl _⟩
theorem fo_all (dss : List (List Dd)) (f : List Int) : drwK (fwB dss f).length (othL (eventsB dss) (fwB dss f)) (othL (eventsB dss) (fwB dss f)).length = owB dss f := by
  cases h : sourceB dss f with
  | false => rw [(fo_none h).1, (fo_none h).2]; rfl
  | true => rw [(ow_cell h).2.1]; exact fo_same h
theorem drwK_hit (n : Nat) (l : List (Int × Int)) (k i j : Nat) (hk : k < l.length) (h : l.getD k (0, 0) = ((i : Int), (j : Int))) : drwK n l (k + 1) = (drwK n l k).set i (gAdd ((drwK n l k).getD i 0) (j : Int)) := by
  have e := pr_get l k hk
  rw [List.getD_eq_getElem?_getD, List.getElem?_eq_getElem hk] at h
  rw [show l[k] = ((i : Int), (j : Int)) from h] at e
  have e1 := congrArg Prod.fst e
  have e2 := congrArg Prod.snd e
  simp only at e1 e2
  unfold drwK
  rw [fwK, e1, e2, Int.toNat_natCast]
set_option maxRecDepth 100000 in
set_option maxHeartbeats 2000000 in
theorem implFromOthers_any (w : World) (v vf : Value) (dss : List (List Dd)) (f : List Int) (h : RdW w v dss) (hf : Rd w vf f) (hx : dss.length ≤ 1048576) (hm : ∀ i, i < dss.length → (dss.getD i []).length ≤ 1048576) (hfl : f.length ≤ 1048576) :
    Calls Tryz.prog 11 #[v, vf] w fun e w' => ∃ v', e = .returned v' ∧ Row w' w.heap.size v' (owB dss f) ∧ Keep w w' := by
  have C1 := implFromWeb_any w v vf dss f h hf hx hm hfl
  have C2 := fun (W : World) (k : Keep w W) => implEventsOf_any W v dss (h.keep k) hx hm
  have HE := Lib.hid (fo_all dss f)
  obtain ⟨HW0, hle⟩ := fw_web dss f
  have HW := Lib.hid HW0
  have h12 := HW0.1
  have e12 := eventsB_12 dss
  have HIN : Hid (∀ x ∈ linL (fwB dss f), ∃ i j : Nat, x = ((i : Int), (j : Int)) ∧ i < (fwB dss f).length ∧ j < (fwB dss f).length) := Lib.hid (fun x hx => by
    obtain ⟨a, j, e, ha, hj, -⟩ := lin_in HW0 hx
    exact ⟨a, j, e, ha, hj⟩)
  clear HW0 h hx hm hfl
  obtain ⟨af, cf, rfl, -⟩ := hf
  generalize owB dss f = OW at *
  generalize fwB dss f = zs at *
  generalize eventsB dss = es at *
  go_enter Tryz.func11, Tryz.ntmps11
  go_wp2_with fail
  refine C1.mono ?_
  rintro e w1 ⟨v1, rfl, o1, k1⟩
  have s1 := k1.size
  clear C1
  go_wp2_with fail
  refine (C2 _ k1).mono ?_
  rintro e w2 ⟨v2, rfl, a2, k2⟩
  have s2 := k2.size
  clear C2
  have re := a2.rd
  have rz := o1.rd.keep k2
  have K2 := k1.trans k2
  clear a2 o1 k1 k2
  obtain ⟨a1, c1, rfl, -⟩ := id rz
  obtain ⟨ae, ce, rfl, -⟩ := id re
  have k3 : Keep w2 (w2.alloc (.cells #[.slice ae es.length (es.length + ce)] 36)) := (Keep.refl w2).alloc _
  have b3 : (w2.alloc (.cells #[.slice ae es.length (es.length + ce)] 36)).cell? ⟨w2.heap.size, 0, none⟩ = some (.slice ae es.length (es.length + ce)) := box_cell (Keep.refl _) 0
  have K3 := K2.trans k3
  have re3 := re.keep k3
  have rz3 := rz.keep k3
  clear re rz K2
  go_wp2_with fail
  refine (linesIn_any _ _ _ rz3 h12).mono ?_
  rintro e w4 ⟨v4, rfl, o4, k4⟩
  have b4 := (k4.cell (by simp)).trans b3
  have z4 := box_size k4
  have s4 := k4.size
  have K4 := K3.trans k4
  have hl4 : (linL zs).length ≤ 144 := by
    have := lin_len zs zs.length
    unfold linL
    omega
  have HO : Hid (othL es zs = (linL zs).filter (othP es)) := Lib.hid rfl
  have re4 := re3.keep k4
  have rz4 := rz3.keep k4
  have rl4 := AppLn.rd o4
  clear k3 k4 b3 K3 re3 rz3 o4
  obtain ⟨a4, c4, rfl, -⟩ := id rl4
  have C5 := only_any w4 _ _ _ _ rl4 hl4 re4 w2.heap.size b4 z4 (fun x hx => by
    obtain ⟨i, j, e, hi, hj⟩ := HIN.out x hx
    exact ⟨i, j, e, by omega, by omega⟩)
  go_wp2_with fail
  refine C5.mono ?_
  rintro e w5 ⟨v5, rfl, o5, k5⟩
  rw [← HO.out] at o5
  have HSUB : Hid (∀ x ∈ othL es zs, ∃ i j : Nat, x = ((i : Int), (j : Int)) ∧ i < zs.length ∧ j < zs.length) := Lib.hid (fun x hx => HIN.out x (oth_sub es zs x hx))
  have HD : Hid (∀ k, k ≤ (othL es zs).length → (drwK zs.length (othL es zs) k).length = zs.length) := Lib.hid (fun k hk => (drw_web HW.out (oth_sub es zs) k hk).1.2.1)
  have hl5 : (othL es zs).length ≤ 144 := by
    have := List.length_filter_le (othP es) (linL zs)
    rw [HO.out]
    omega
  have K5 := K4.trans k5
  have s5 := k5.size
  have b5 : w.heap.size ≤ w5.heap.size := K5.size
  have rl5 := AppLn.rd o5
  clear C5 HO HIN HW re4 rz4 rl4 b4 k5 o5 K4 z4
  generalize othL es zs = L at *
  obtain ⟨a5, c5, rfl, -⟩ := id rl5
  go_wp2_with fail
  refine (blank_any _ _ h12).mono ?_
  rintro e w6 ⟨rfl, rb, k6⟩
  have K6 := K5.trans k6
  have rl6 := rl5.keep k6
  have s6 := k6.size
  have hbw := rb.lt
  have hb := b5
  have rb6 : RowAt w6 w5.heap.size (drwK zs.length L 0) := rb
  have HB : Hid (∀ b off, a5 = some ⟨b, off, none⟩ → L = [] ∨ b < w5.heap.size) := Lib.hid (fun b off e => by
    obtain ⟨a', c', he', hR'⟩ := id rl5
    simp only [Value.slice.injEq] at he'
    obtain ⟨rfl, -, -⟩ := he'
    rcases hR' with h0 | ⟨b', o', e2, hb', -⟩
    · exact .inl h0
    · rw [e] at e2
      simp only [Option.some.injEq, Addr.mk.injEq, and_true] at e2
      obtain ⟨rfl, rfl⟩ := e2
      exact .inr hb')
  clear rb K5 rl5 k6
  go_wp2
  go_loopw [25] (fun i wr => ∃ k : Nat, k ≤ L.length ∧ i = .int .i64 k ∧ RowAt wr w5.heap.size (drwK zs.length L k) ∧ RdLn wr (.slice a5 L.length (L.length + c5)) L ∧ Keep w wr) (fun i _ => L.length - (intOf i).toNat)
  case atStart => exact ⟨0, Nat.zero_le _, rfl, rb6, rl6, K6⟩
  case round =>
    obtain ⟨k, hk, rfl, hr, hR, hK⟩ := hrel
    clear rb6 rl6 K6 hbw
    by_cases hlt : k < L.length
    · obtain ⟨a', c', he', hR'⟩ := id hR
      simp only [Value.slice.injEq, true_and] at he'
      obtain ⟨rfl, hc'⟩ := he'
      obtain rfl : c5 = c' := by omega
      rcases hR' with h0 | ⟨b, off, rfl, hb', hc⟩
      · exfalso; rw [h0] at hlt; simp at hlt
      have hmem : L.getD k (0, 0) ∈ L := by
        rw [List.getD_eq_getElem?_getD, List.getElem?_eq_getElem hlt]
        exact List.getElem_mem hlt
      obtain ⟨i, j, ex, hi, hj⟩ := HSUB.out _ hmem
      have HK : Hid (drwK zs.length L (k + 1) = (drwK zs.length L k).set i (gAdd ((drwK zs.length L k).getD i 0) (j : Int))) := Lib.hid (drwK_hit zs.length L k i j hlt ex)
      have AT := hc k _ (ln_get hlt)
      rw [ex] at AT
      obtain ⟨d1, d2⟩ := atLn AT
      have hbl : b < w5.heap.size := by
        rcases HB.out b off rfl with h0 | h0
        · exfalso; rw [h0] at hlt; simp at hlt
        · exact h0
      have hdl := HD.out k hk
      clear AT hc ex hmem
      have i1 : (0 : Int) ≤ (k : Int) := Int.natCast_nonneg _
      have i2 : (k : Int) < (L.length : Int) := by omega
      have K7 : Keep wr (wr.alloc (lnO i j)) := (Keep.refl wr).alloc _
      have CL := line_any (wr.alloc (lnO i j)) w5.heap.size zs.length zs.length (drwK zs.length L k) i (j : Int) (hr.keep K7) hdl hi
      rw [← HK.out] at CL
      have hR7 := hR.keep K7
      have hK7 := hK.trans K7
      clear hdl hK hR hr
      go_wp2_with fail
      refine CL.mono ?_
      rintro e w8 ⟨rfl, hr8, hg8⟩
      have hR8 : RdLn w8 (.slice (some ⟨b, off, none⟩) L.length (L.length + c5)) L := by
        obtain ⟨a', c', he', hR'⟩ := hR7
        simp only [Value.slice.injEq, true_and] at he'
        obtain ⟨rfl, hc'⟩ := he'
        refine ⟨_, c5, rfl, ?_⟩
        rcases hR' with h0 | ⟨b', o', e2, hb2, hc2⟩
        · exact .inl h0
        · simp only [Option.some.injEq, Addr.mk.injEq, and_true] at e2
          obtain ⟨rfl, rfl⟩ := e2
          exact .inr ⟨b, off, rfl, Nat.lt_of_lt_of_le hb2 hg8.size, fun q x hq => (hc2 q x hq).same (hg8.block b hb2 (fun e => by have := Option.some.inj e; omega))⟩
      have hK8 : Keep w w8 := hK7.grown hg8 (by simp; omega)
      clear CL hR7 hK7 K7 hg8 d1 d2
      go_wp2
      go_roundw
      case rel => exact ⟨k + 1, by omega, by go_num, hr8, hR8, hK8⟩
      case measure => simp [intOf]; omega
    · obtain rfl : k = L.length := by omega
      have hdl := HD.out L.length (Nat.le_refl _)
      go_wp2
      go_ret
      refine ⟨_, rfl, ?_, hK⟩
      rw [← HE.out]
      exact .inr ⟨w5.heap.size, zs.length, by rw [hdl]; rfl, hb, hr⟩
end Go.Proofs.YtkbkdlaknmgjpaaGreat

/- Plain mathematics of rows as the program makes them: for each seat the writes that may have it; a walk that gives seat after seat to the least one that is left. -/
namespace Go.Proofs.YtkbkdlaknmgjpaaGreat

/-- Who may have the i-th seat of a place. -/
def seatAt (l : List Int) (i : Nat) : List Int := if i = 0 then l.take 1 else l.drop 1
def seatK (l : List Int) (i : Nat) : List (List Int) := (List.range i).map (seatAt l)
theorem seatK_more (l : List Int) (i : Nat) : seatK l (i + 1) = seatK l i ++ [seatAt l i] := by
  unfold seatK
  rw [List.range_succ, List.map_append]
  rfl
def seatP (l : List Int) : List (List Int) := seatK l l.length
theorem seatP_cons (x : Int) (r : List Int) : seatP (x :: r) = [x] :: List.replicate r.length r := by
  unfold seatP seatK
  rw [List.length_cons, List.range_succ_eq_map, List.map_cons, List.map_map]
  congr 1
  refine List.ext_getElem (by simp) (fun i h1 h2 => ?_)
  simp [seatAt]
theorem seatP_len (l : List Int) : (seatP l).length = l.length := by simp [seatP, seatK]
def seatsL (es : List Ev) : List (List Int) := seatP (plcW es 0) ++ seatP (plcW es 1) ++ seatP (plcW es 2)
/-- Who may have a seat, is past the one that had it last, and has none ahead. -/
def nextL (s ahead : List Int) (last : Int) : List Int := s.filter (fun x => decide (last < x) && !isB ahead x)
def nextB (s ahead : List Int) (last : Int) : Int := (nextL s ahead last).headD (-1)
theorem next_step {s ahead t : List Int} {last x : Int} (hs : s.Pairwise (· < ·)) (h : nextL s ahead last = x :: t) : nextL s ahead x = t ∧ last < x ∧ isB ahead x = false := by
  have hx : x ∈ nextL s ahead last := by rw [h]; simp
  unfold nextL at hx
  rw [List.mem_filter] at hx
  simp only [Bool.and_eq_true, decide_eq_true_eq, Bool.not_eq_true'] at hx
  refine ⟨?_, hx.2.1, hx.2.2⟩
  have h1 : nextL s ahead x = (nextL s ahead last).filter (fun y => decide (x < y)) := by
    unfold nextL
    rw [List.filter_filter]
    refine List.filter_congr (fun y _ => ?_)
    by_cases hy : x < y
    · have : last < y := by omega
      simp [hy, this]
    · simp [hy]
  have hp : (x :: t).Pairwise (· < ·) := by
    rw [← h]
    exact hs.filter _
  rw [List.pairwise_cons] at hp
  rw [h1, h, List.filter_cons, if_neg (by simp), List.filter_eq_self]
  intro y hy
  simpa using hp.1 y hy
/-- What the walk does from a seat on: a step is 'none', what it finds is told. -/
def allT : List (List Int) → List Int → List (Option (List Int))
  | [], a => [some a]
  | s :: ss, a => (nextL s a (-1)).flatMap (fun x => none :: allT ss (a ++ [x])) ++ [none]
def hereT (ss : List (List Int)) (rows : List Int) (last : Int) : List (Option (List Int)) :=
  match ss.drop rows.length with
  | [] => [some rows]
  | s :: r => (nextL s rows last).flatMap (fun x => none :: allT r (rows ++ [x])) ++ [none]
theorem here_all (ss : List (List Int)) (rows : List Int) : hereT ss rows (-1) = allT (ss.drop rows.length) rows := by
  unfold hereT
  cases ss.drop rows.length <;> rfl
def backT (ss : List (List Int)) (rows : List Int) : Nat → List (Option (List Int))
  | 0 => []
  | k + 1 => hereT ss (rows.take k) (rows.getD k 0) ++ backT ss rows k
theorem back_more (ss : List (List Int)) (rows : List Int) (x : Int) : ∀ k : Nat, k ≤ rows.length → backT ss (rows ++ [x]) k = backT ss rows k
  | 0, _ => rfl
  | k + 1, h => by
    rw [backT, backT, back_more ss rows x k (by omega), List.take_append_of_le_length (by omega)]
    congr 2
    rw [List.getD_eq_getElem?_getD, List.getElem?_append_left (by omega), ← List.getD_eq_getElem?_getD]
def comeT (ss : List (List Int)) (rows : List Int) (last : Int) : List (Option (List Int)) := hereT ss rows last ++ backT ss rows rows.length
theorem back_snoc (ss : List (List Int)) (rows : List Int) (x : Int) : backT ss (rows ++ [x]) (rows ++ [x]).length = comeT ss rows x := by
  rw [List.length_append, List.length_singleton, backT, back_more ss rows x _ (Nat.le_refl _), comeT]
  congr 2
  · rw [List.take_append_of_le_length (Nat.le_refl _), List.take_length]
  · rw [List.getD_eq_getElem?_getD, List.getElem?_append_right (Nat.le_refl _), Nat.sub_self]; rfl
/-- A seat is given. -/
theorem come_give {ss : List (List Int)} {rows t : List Int} {last x : Int} (hlt : rows.length < ss.length) (hs : (ss.getD rows.length []).Pairwise (· < ·)) (h : nextL (ss.getD rows.length []) rows last = x :: t) :
    comeT ss rows last = none :: comeT ss (rows ++ [x]) (-1) := by
  have hd : ss.drop rows.length = ss.getD rows.length [] :: ss.drop (rows.length + 1) := by
    rw [List.getD_eq_getElem?_getD, List.getElem?_eq_getElem hlt]
    exact List.drop_eq_getElem_cons hlt
  have hn := (next_step hs h).1
  conv => rhs; rw [comeT, back_snoc, here_all, List.length_append, List.length_singleton, comeT]
  rw [comeT, hereT, hereT, hd]
  simp only [h, hn, List.flatMap_cons, List.cons_append, List.append_assoc]
/-- Nobody may have it: one seat back. -/
theorem come_none {ss : List (List Int)} {rows : List Int} {last : Int} (hlt : rows.length < ss.length) (h : nextL (ss.getD rows.length []) rows last = []) :
    comeT ss rows last = none :: backT ss rows rows.length := by
  have hd : ss.drop rows.length = ss.getD rows.length [] :: ss.drop (rows.length + 1) := by
    rw [List.getD_eq_getElem?_getD, List.getElem?_eq_getElem hlt]
    exact List.drop_eq_getElem_cons hlt
  rw [comeT, hereT, hd]
  simp only [h, List.flatMap_nil, List.nil_append, List.cons_append]
/-- All seats are given. -/
theorem come_full {ss : List (List Int)} {rows : List Int} {last : Int} (hl : rows.length = ss.length) : comeT ss rows last = some rows :: backT ss rows rows.length := by
  rw [comeT, hereT, List.drop_of_length_le (by omega)]
  rfl
/-- All that is found. -/
def allS : List (List Int) → List Int → List (List Int)
  | [], a => [a]
  | s :: ss, a => (nextL s a (-1)).flatMap (fun x => allS ss (a ++ [x]))
theorem all_found : ∀ (ss : List (List Int)) (a : List Int), (allT ss a).filterMap id = allS ss a
  | [], a => rfl
  | s :: ss, a => by
    rw [allT, allS, List.filterMap_append]
    simp only [List.filterMap_cons, List.filterMap_nil, id, List.append_nil]
    rw [List.filterMap_flatMap]
    congr 1
    funext x
    rw [List.filterMap_cons]
    exact all_found ss _
end Go.Proofs.YtkbkdlaknmgjpaaGreat

/- Contract of the program's seatsOf. -/
namespace Go.Proofs.YtkbkdlaknmgjpaaGreat
open Go.ChangeShapes Go.WideShapes Go.ChangeAt Go.RowKit

theorem cell_lone {w : World} {b : Nat} {v : Value} (h : w.cell? ⟨b, 0, none⟩ = some v) : ∀ j u, ([v] : List Value)[j]? = some u → w.cell? ((⟨b, 0, none⟩ : Addr).add j) = some u := by
  intro j u hj
  match j, hj with
  | 0, hj =>
    simp at hj
    subst hj
    exact h
  | k + 1, hj => simp at hj
theorem Beside.first {w : World} {x : Value} {b o n c : Nat} {l : List Int} (h : Beside w x (.slice (some ⟨b, o, none⟩) n c) l) (hl : 0 < l.length) : Beside w x (.slice (some ⟨b, o, none⟩) 1 c) (l.take 1) := by
  have hlen : (l.take 1).length = 1 := by rw [List.length_take]; omega
  have hcap : l.length ≤ c := h.cap
  refine ⟨?_, h.ne, h.lt, by rw [hlen]; show 1 ≤ c; omega⟩
  obtain ⟨a, cap, he, hr⟩ := h.rd
  simp only [Value.slice.injEq] at he
  obtain ⟨rfl, rfl, rfl⟩ := he
  refine ⟨_, _, by rw [hlen], ?_⟩
  rcases hr with hr | ⟨b', o', he, hb, hc⟩
  · rw [hr] at hl; simp at hl
  · simp only [Option.some.injEq, Addr.mk.injEq, and_true] at he
    obtain ⟨rfl, rfl⟩ := he
    refine .inr ⟨b, o, rfl, hb, fun i hi => ?_⟩
    rw [hc i (by omega), List.getD_eq_getElem?_getD, List.getD_eq_getElem?_getD, List.getElem?_take, if_pos (by omega)]
theorem Beside.rest {w : World} {x : Value} {b o n c : Nat} {l : List Int} (h : Beside w x (.slice (some ⟨b, o, none⟩) n c) l) (hl : 0 < l.length) : Beside w x (.slice (some ⟨b, o + 1, none⟩) (n - 1) (c - 1)) (l.drop 1) := by
  have hlen : (l.drop 1).length = l.length - 1 := by rw [List.length_drop]
  have hcap : l.length ≤ c := h.cap
  refine ⟨?_, h.ne, h.lt, by rw [hlen]; show l.length - 1 ≤ c - 1; omega⟩
  obtain ⟨a, cap, he, hr⟩ := h.rd
  simp only [Value.slice.injEq] at he
  obtain ⟨rfl, rfl, rfl⟩ := he
  refine ⟨_, _, by rw [hlen], ?_⟩
  rcases hr with hr | ⟨b', o', he, hb, hc⟩
  · rw [hr] at hl; simp at hl
  · simp only [Option.some.injEq, Addr.mk.injEq, and_true] at he
    obtain ⟨rfl, rfl⟩ := he
    refine .inr ⟨b, o + 1, rfl, hb, fun i hi => ?_⟩
    rw [Nat.add_assoc, Nat.add_comm 1 i, hc (i + 1) (by omega), List.getD_eq_getElem?_getD, List.getD_eq_getElem?_getD, List.getElem?_drop, Nat.add_comm 1 i]
def seatN (es : List Ev) : Nat → List (List Int)
  | 0 => []
  | p + 1 => seatN es p ++ seatP (plcW es p)
theorem seatN_three (es : List Ev) : seatN es 3 = seatsL es := by
  simp only [seatN, seatsL, List.nil_append]
theorem seatK_len (l : List Int) (k : Nat) : (seatK l k).length = k := by simp [seatK]
theorem seatN_len {es : List Ev} (hx : es.length ≤ 12) : ∀ p : Nat, (seatN es p).length ≤ 12 * p
  | 0 => by simp [seatN]
  | p + 1 => by
    have := seatN_len hx p
    have := plcW_len hx p
    rw [seatN, List.length_append, seatP_len]
    omega
set_option maxRecDepth 100000 in
set_option maxHeartbeats 2000000 in
theorem seatsOf_any (w : World) (v : Value) (es : List Ev) (h : RdE w v es) (hx : es.length ≤ 12) :
    Calls Tryz.prog 141 #[v] w fun e w' => ∃ v', e = .returned v' ∧ RdL w' v' (seatsL es) ∧ Keep w w' := by
  obtain ⟨i0, hi, hz0, hz1, hz2⟩ := info_parts Tryz.infoL
  have A0 := appL_empty w
  have K0 : Keep w (w.alloc (.cells #[] 25)) := (Keep.refl w).alloc _
  have HS : Hid (seatsL es = seatN es 3) := Lib.hid (seatN_three es).symm
  have HL : Hid (∀ p, (seatN es p).length ≤ 12 * p) := Lib.hid (seatN_len hx)
  go_enter Tryz.func141, Tryz.ntmps141
  go_wp2
  go_loopw [3, 8] (fun x i wr => ∃ p : Nat, ∃ vs : List Value, p ≤ 3 ∧ i = .int .i64 p ∧ AppL wr w.heap.size x vs (seatN es p) ∧ Keep w wr) (fun _ i _ => 3 - (intOf i).toNat)
  case atStart => exact ⟨0, [], by omega, rfl, A0, K0⟩
  case round =>
    obtain ⟨p, vs, hp, rfl, hA, hK⟩ := hrel
    clear A0 K0
    by_cases hlt : p < 3
    · have hpl := plcW_len hx p
      have HN : Hid (seatN es (p + 1) = seatN es p ++ seatK (plcW es p) (plcW es p).length) := Lib.hid rfl
      have hsl : (seatN es p).length ≤ 36 := by have := HL.out p; omega
      have i2 : (p : Int) < 3 := by omega
      go_wp2_with fail
      refine (implWritesTo_any _ _ _ (h.keep hK) (by omega) _).mono ?_
      rintro e w2 ⟨v2, rfl, o2, k2⟩
      have HI : Hid (plcW es p = idxB (toE (p : Int)) es) := Lib.hid rfl
      rw [HI.out] at hpl HN
      clear HI
      generalize idxB (toE (p : Int)) es = l at o2 hpl HN
      generalize seatN es p = S at hA HN hsl
      have A1 : AppL w2 w.heap.size u3 vs (S ++ seatK l 0) := by
        have : S ++ seatK l 0 = S := by simp [seatK]
        rw [this]
        exact hA.keep k2
      have B1 : Beside w2 u3 v2 l := o2.beside (fun k hk => (hA.lt k hk).2)
      have K1 := hK.trans k2
      obtain ⟨a2, c2, rfl, -⟩ := o2.rd
      clear hA hK o2 k2
      obtain ⟨wo, rfl⟩ : ∃ wo : World, wo = w2 := ⟨_, rfl⟩
      go_wp2
      go_loopw [3, 16] (fun x i wr => ∃ k : Nat, ∃ vs : List Value, k ≤ l.length ∧ i = .int .i64 k ∧ AppL wr w.heap.size x vs (S ++ seatK l k) ∧ Beside wr x (.slice a2 l.length c2) l ∧ Keep w wr) (fun _ i _ => l.length - (intOf i).toNat)
      case atStart => exact ⟨0, vs, Nat.zero_le _, rfl, A1, B1, K1⟩
      case round =>
        obtain ⟨k, vs, hk, rfl, hA, hB, hK⟩ := hrel
        clear A1 B1 K1
        by_cases hkl : k < l.length
        · have HC : Hid (S ++ seatK l (k + 1) = S ++ seatK l k ++ [seatAt l k]) := Lib.hid (by rw [seatK_more, List.append_assoc])
          have hcl : (S ++ seatK l k).length = S.length + k := by rw [List.length_append, seatK_len]
          have hcap : l.length ≤ c2 := hB.cap
          have hRd := hB.rd
          obtain ⟨a', c', he', hRd⟩ := hRd
          simp only [Value.slice.injEq, true_and] at he'
          obtain ⟨rfl, rfl⟩ := he'
          rcases hRd with h0 | ⟨br, or', rfl, hbr, -⟩
          · exfalso; rw [h0] at hkl; simp at hkl
          have hF := hB.first (by omega)
          have hT := hB.rest (by omega)
          have i1 : (0 : Int) ≤ (k : Int) := Int.natCast_nonneg _
          have i2 : (k : Int) < (l.length : Int) := by omega
          have hsz := hK.size
          generalize S ++ seatK l k = D at hA HC hcl
          by_cases hk0 : k = 0
          · have HZ : Hid (seatAt l k = l.take 1) := Lib.hid (by unfold seatAt; rw [if_pos hk0])
            rw [HZ.out] at HC
            have hkb : ((k : Int) == 0) = true := by simp [hk0]
            have hA2 := hA.keep ((Keep.refl wr).alloc (.cells #[.slice (some ⟨br, or', none⟩) 1 c2] 25))
            have hB2 := hB.keep ((Keep.refl wr).alloc (.cells #[.slice (some ⟨br, or', none⟩) 1 c2] 25))
            have hU := hF.keep ((Keep.refl wr).alloc (.cells #[.slice (some ⟨br, or', none⟩) 1 c2] 25))
            have c1 : (1 : Int) ≤ (c2 : Int) := by omega
            clear hF hT hk0 HZ hA hB
            go_wp2_with (at_builtin; refine wpList_append_own_at _ rfl _ _ 57 rfl w.heap.size 25 i0 (.slice none 0 0) 1 24 Tryz.underlying57 hi hz0 hz1 hz2 rfl (by decide) _ _ _ rfl hA2.row ⟨_, 0, none⟩ 1 1 [.slice (some ⟨br, or', none⟩) 1 c2] rfl rfl ?c1 ?c2 ?c3 ?c4 ?c5 ?_)
            case c1 => exact cell_lone (Boxed.new _ _ _).cell
            case c2 => intro u hu; simp at hu; subst hu; rfl
            case c3 => unfold maxLen; omega
            case c4 => omega
            case c5 => first | omega | (simp; omega)
            intro v' w3 hown' hgrow _ hblk
            have hblk' : v'.ownBlock = u3.ownBlock ∨ v'.ownBlock = some (wr.alloc (.cells #[.slice (some ⟨br, or', none⟩) 1 c2] 25)).heap.size := by rw [heap_size]; exact hblk
            have hA3 := hA2.push hU (by rw [hcl]; exact hown') hgrow hblk'
            have hB3 := hB2.grow hgrow hblk'
            have hK3 : Keep w w3 := (hK.alloc _).grown hgrow (fun k hk => (hA2.lt k hk).1)
            clear hown' hgrow hblk hblk' hA2 hB2 hU hK
            go_wp2
            go_roundw
            case rel => exact ⟨k + 1, _, by omega, by go_num, by rw [HC.out]; exact hA3, hB3, hK3⟩
            case measure => simp [intOf]; omega
          · have HZ : Hid (seatAt l k = l.drop 1) := Lib.hid (by unfold seatAt; rw [if_neg hk0])
            rw [HZ.out] at HC
            have hkb : ((k : Int) == 0) = false := by simp; omega
            have hA2 := hA.keep ((Keep.refl wr).alloc (.cells #[.slice (some ⟨br, or' + 1, none⟩) (l.length - 1) (c2 - 1)] 25))
            have hB2 := hB.keep ((Keep.refl wr).alloc (.cells #[.slice (some ⟨br, or' + 1, none⟩) (l.length - 1) (c2 - 1)] 25))
            have hU := hT.keep ((Keep.refl wr).alloc (.cells #[.slice (some ⟨br, or' + 1, none⟩) (l.length - 1) (c2 - 1)] 25))
            have c1 : (1 : Int) ≤ (l.length : Int) := by omega
            have c2' : 1 < c2 := by omega
            have c3 : (l.length : Int) ≤ (c2 : Int) := by omega
            clear hF hT hk0 HZ hA hB
            go_wp2_with (at_builtin; refine wpList_append_own_at _ rfl _ _ 57 rfl w.heap.size 25 i0 (.slice none 0 0) 1 24 Tryz.underlying57 hi hz0 hz1 hz2 rfl (by decide) _ _ _ rfl hA2.row ⟨_, 0, none⟩ 1 1 [.slice (some ⟨br, or' + 1, none⟩) (l.length - 1) (c2 - 1)] rfl rfl ?c1 ?c2 ?c3 ?c4 ?c5 ?_)
            case c1 => exact cell_lone (Boxed.new _ _ _).cell
            case c2 => intro u hu; simp at hu; subst hu; rfl
            case c3 => unfold maxLen; omega
            case c4 => omega
            case c5 => first | omega | (simp; omega)
            intro v' w3 hown' hgrow _ hblk
            have hblk' : v'.ownBlock = u3.ownBlock ∨ v'.ownBlock = some (wr.alloc (.cells #[.slice (some ⟨br, or' + 1, none⟩) (l.length - 1) (c2 - 1)] 25)).heap.size := by rw [heap_size]; exact hblk
            have hA3 := hA2.push hU (by rw [hcl]; exact hown') hgrow hblk'
            have hB3 := hB2.grow hgrow hblk'
            have hK3 : Keep w w3 := (hK.alloc _).grown hgrow (fun k hk => (hA2.lt k hk).1)
            clear hown' hgrow hblk hblk' hA2 hB2 hU hK
            go_wp2
            go_roundw
            case rel => exact ⟨k + 1, _, by omega, by go_num, by rw [HC.out]; exact hA3, hB3, hK3⟩
            case measure => simp [intOf]; omega
        · obtain rfl : k = l.length := by omega
          have hN : AppL wr w.heap.size u3 vs (seatN es (p + 1)) := by rw [HN.out]; exact hA
          clear hA hB
          go_wp2
          go_roundw
          case rel => exact ⟨p + 1, vs, by omega, by go_num, hN, hK⟩
          case measure => simp [intOf]; omega
    · obtain rfl : p = 3 := by omega
      have HR := Lib.hid hA.rd
      go_wp2
      go_ret
      exact ⟨_, rfl, by rw [HS.out]; exact HR.out, hK⟩
end Go.Proofs.YtkbkdlaknmgjpaaGreat

/- What the walk over the seats finds is just all rows, in their order; whoever has a seat that he may have, and no other, has right rows. -/
namespace Go.Proofs.YtkbkdlaknmgjpaaGreat

theorem all_app : ∀ (s1 s2 : List (List Int)) (a : List Int), allS (s1 ++ s2) a = (allS s1 a).flatMap (allS s2)
  | [], s2, a => by simp [allS]
  | s :: r, s2, a => by
    rw [List.cons_append, allS, allS, List.flatMap_assoc]
    congr 1
    funext x
    exact all_app r s2 _
theorem flat_congr {α β : Type} {l : List α} {f g : α → List β} (h : ∀ x ∈ l, f x = g x) : l.flatMap f = l.flatMap g := by
  induction l with
  | nil => rfl
  | cons x r ih => rw [List.flatMap_cons, List.flatMap_cons, h x (by simp), ih (fun y hy => h y (by simp [hy]))]
theorem range_flat {β : Type} (b : Nat) (hb : 0 < b) (g : Nat → Nat → β) : ∀ a : Nat, (List.range a).flatMap (fun i => (List.range b).map (g i)) = (List.range (a * b)).map (fun n => g (n / b) (n % b))
  | 0 => by simp
  | a + 1 => by
    rw [List.range_succ, List.flatMap_append, range_flat b hb g a, Nat.succ_mul, List.range_add, List.map_append, List.map_map]
    congr 1
    simp only [List.flatMap_cons, List.flatMap_nil, List.append_nil]
    refine List.map_congr_left (fun j hj => ?_)
    rw [List.mem_range] at hj
    have h1 : (a * b + j) / b = a := by rw [Nat.mul_comm, Nat.mul_add_div hb, Nat.div_eq_of_lt hj]; omega
    have h2 : (a * b + j) % b = j := by rw [Nat.mul_comm, Nat.mul_add_mod, Nat.mod_eq_of_lt hj]
    simp only [Function.comp, h1, h2]
def facN (m : Nat) : Nat := (fac m).toNat
theorem facN_cast (m : Nat) : ((facN m : Nat) : Int) = fac m := by
  have := fac_pos m
  unfold facN
  omega
theorem facN_pos (m : Nat) : 0 < facN m := by
  have := fac_pos m
  unfold facN
  omega
theorem facN_more (m : Nat) : facN (m + 1) = (m + 1) * facN m := by
  have h := facN_cast (m + 1)
  rw [fac, ← facN_cast m] at h
  have : ((facN m : Nat) : Int) * ((m : Int) + 1) = (((m + 1) * facN m : Nat) : Int) := by
    rw [Int.natCast_mul, Int.mul_comm]; rfl
  rw [this] at h
  exact Int.ofNat.inj h
theorem filter_erase : ∀ (l : List Int) (k : Nat), l.Nodup → k < l.length → l.filter (fun y => !(l.getD k 0 == y)) = l.eraseIdx k
  | [], k, _, h => by simp at h
  | x :: r, 0, hn, _ => by
    rw [List.nodup_cons] at hn
    rw [List.getD_cons_zero, List.eraseIdx_cons_zero, List.filter_cons, if_neg (by simp), List.filter_eq_self]
    intro y hy
    have : x ≠ y := fun e => hn.1 (by rw [e]; exact hy)
    simpa using this
  | x :: r, k + 1, hn, h => by
    rw [List.nodup_cons] at hn
    have hk : k < r.length := by simpa using h
    have hm : r.getD k 0 ∈ r := by
      rw [List.getD_eq_getElem?_getD, List.getElem?_eq_getElem hk]
      exact List.getElem_mem hk
    have hne : r.getD k 0 ≠ x := fun e => hn.1 (by rw [← e]; exact hm)
    rw [List.getD_cons_succ, List.eraseIdx_cons_succ, List.filter_cons, if_pos (by simpa using hne), filter_erase r k hn.2 hk]
theorem isB_snoc (a : List Int) (x y : Int) : isB (a ++ [x]) y = (isB a y || (x == y)) := by
  unfold isB
  rw [List.any_append]
  simp
theorem next_snoc (l a : List Int) (x : Int) : nextL l (a ++ [x]) (-1) = (nextL l a (-1)).filter (fun y => !(x == y)) := by
  unfold nextL
  rw [List.filter_filter]
  refine List.filter_congr (fun y _ => ?_)
  rw [isB_snoc]
  cases isB a y <;> cases (x == y) <;> simp
theorem list_range (l : List Int) : l = (List.range l.length).map (fun k => l.getD k 0) := by
  refine List.ext_getElem (by simp) (fun i h1 h2 => ?_)
  simp [List.getElem?_eq_getElem h1]
/-- All orders of those that are left. -/
theorem ord_all : ∀ (m : Nat) (l a : List Int), (nextL l a (-1)).Nodup → (nextL l a (-1)).length = m → allS (List.replicate m l) a = (List.range (facN m)).map (fun n : Nat => a ++ ordL m (nextL l a (-1)) (n : Int))
  | 0, l, a, _, _ => by
    have : facN 0 = 1 := by decide
    rw [this]
    simp [allS, ordL]
  | m + 1, l, a, hn, hl => by
    rw [List.replicate_succ, allS]
    have e1 : (nextL l a (-1)).flatMap (fun x => allS (List.replicate m l) (a ++ [x])) = (List.range (m + 1)).flatMap (fun k => (List.range (facN m)).map (fun n : Nat => a ++ [(nextL l a (-1)).getD k 0] ++ ordL m ((nextL l a (-1)).eraseIdx k) (n : Int))) := by
      have e0 := list_range (nextL l a (-1))
      rw [hl] at e0
      conv => lhs; rw [e0, List.flatMap_map]
      refine flat_congr (fun k hk => ?_)
      rw [List.mem_range] at hk
      have hx := next_snoc l a ((nextL l a (-1)).getD k 0)
      rw [filter_erase _ k hn (by omega)] at hx
      have ih := ord_all m l (a ++ [(nextL l a (-1)).getD k 0]) (by rw [hx]; exact erase_nodup hn k) (by rw [hx]; exact erase_len hl hk)
      rw [hx] at ih
      exact ih
    rw [e1, range_flat _ (facN_pos m) (fun k n => a ++ [(nextL l a (-1)).getD k 0] ++ ordL m ((nextL l a (-1)).eraseIdx k) (n : Int)), facN_more]
    refine List.map_congr_left (fun n _ => ?_)
    rw [ordL, ← facN_cast m, ← Int.natCast_ediv, ← Int.natCast_emod, Int.toNat_natCast, List.append_assoc]
    rfl
theorem next_all {l a : List Int} (h0 : ∀ x ∈ l, 0 ≤ x) (hd : ∀ x ∈ l, isB a x = false) : nextL l a (-1) = l := by
  unfold nextL
  rw [List.filter_eq_self]
  intro x hx
  have := h0 x hx
  rw [hd x hx]
  simp
  omega
theorem isB_false {l : List Int} {x : Int} : isB l x = false ↔ x ∉ l := by
  constructor
  · intro h hm
    rw [mem_isB hm] at h
    cases h
  · intro h
    cases hb : isB l x
    · rfl
    · exact absurd (isB_mem hb) h
/-- All orders of the writes at one place. -/
theorem place_all {l a : List Int} (hl : 0 < l.length) (hn : l.Nodup) (h0 : ∀ x ∈ l, 0 ≤ x) (hd : ∀ x ∈ l, x ∉ a) : allS (seatP l) a = (List.range (facN (l.length - 1))).map (fun n : Nat => a ++ partL l (n : Int)) := by
  match l, hl with
  | x :: r, _ =>
    rw [List.nodup_cons] at hn
    have e1 : nextL [x] a (-1) = [x] := next_all (fun y hy => h0 y (by simp at hy; simp [hy])) (fun y hy => isB_false.2 (hd y (by simp at hy; simp [hy])))
    have e2 : nextL r (a ++ [x]) (-1) = r := next_all (fun y hy => h0 y (by simp [hy])) (fun y hy => isB_false.2 (by
      rw [List.mem_append]
      rintro (h | h)
      · exact hd y (by simp [hy]) h
      · rw [List.mem_singleton] at h
        exact hn.1 (by rw [← h]; exact hy)))
    have e3 := ord_all r.length r (a ++ [x]) (by rw [e2]; exact hn.2) (by rw [e2])
    rw [e2] at e3
    rw [seatP_cons, allS, e1, List.flatMap_cons, List.flatMap_nil, List.append_nil, e3]
    simp only [List.length_cons, Nat.add_sub_cancel]
    refine List.map_congr_left (fun n _ => ?_)
    rw [partL, List.append_assoc]
    simp
theorem part_mem {l : List Int} {n : Nat} (hl : 0 < l.length) (h : n < facN (l.length - 1)) {x : Int} : x ∈ partL l (n : Int) ↔ x ∈ l := by
  have hc := facN_cast (l.length - 1)
  exact (part_perm hl (Int.natCast_nonneg _) (by omega)).mem_iff
theorem rcnt_nat (es : List Ev) : ((facN ((plcW es 0).length - 1) * facN ((plcW es 1).length - 1) * facN ((plcW es 2).length - 1) : Nat) : Int) = rcntL es := by
  unfold rcntL
  rw [Int.natCast_mul, Int.natCast_mul, facN_cast, facN_cast, facN_cast]
/-- All rows. -/
theorem all_rows {dss : List (List Dd)} (hb : workB dss = true) : allS (seatsL (eventsB dss)) [] = (List.range (rcntL (eventsB dss)).toNat).map (fun n : Nat => ratL (eventsB dss) (n : Int)) := by
  obtain ⟨p0, -⟩ := plcW_first hb 0 (by decide)
  obtain ⟨p1, -⟩ := plcW_first hb 1 (by decide)
  obtain ⟨p2, -⟩ := plcW_first hb 2 (by decide)
  have h12 := eventsB_12 dss
  generalize eventsB dss = es at *
  have dis : ∀ {p q : Nat}, p ≠ q → ∀ a ∈ plcW es p, a ∉ plcW es q := fun {p q} hpq a ha hb => by
    have h1 := (plcW_mem h12 ha).2
    have h2 := (plcW_mem h12 hb).2
    rw [h2] at h1
    omega
  have e0 := place_all (a := []) p0 (plcW_nodup h12 0) (fun x hx => (plcW_mem h12 hx).1.1) (fun x _ => by simp)
  unfold seatsL
  rw [all_app, all_app, e0]
  have e1 : ((List.range (facN ((plcW es 0).length - 1))).map (fun n : Nat => [] ++ partL (plcW es 0) (n : Int))).flatMap (allS (seatP (plcW es 1))) = (List.range (facN ((plcW es 0).length - 1) * facN ((plcW es 1).length - 1))).map (fun n : Nat => partL (plcW es 0) ((n / facN ((plcW es 1).length - 1) : Nat) : Int) ++ partL (plcW es 1) ((n % facN ((plcW es 1).length - 1) : Nat) : Int)) := by
    rw [List.flatMap_map, ← range_flat _ (facN_pos _) (fun i j => partL (plcW es 0) ((i : Nat) : Int) ++ partL (plcW es 1) ((j : Nat) : Int))]
    refine flat_congr (fun n hn => ?_)
    rw [List.mem_range] at hn
    rw [List.nil_append]
    exact place_all p1 (plcW_nodup h12 1) (fun x hx => (plcW_mem h12 hx).1.1) (fun x hx h => dis (by decide) x hx ((part_mem p0 hn).1 h))
  rw [e1, List.flatMap_map]
  have e2 : (List.range (facN ((plcW es 0).length - 1) * facN ((plcW es 1).length - 1))).flatMap (fun n : Nat => allS (seatP (plcW es 2)) (partL (plcW es 0) ((n / facN ((plcW es 1).length - 1) : Nat) : Int) ++ partL (plcW es 1) ((n % facN ((plcW es 1).length - 1) : Nat) : Int))) =
      (List.range (facN ((plcW es 0).length - 1) * facN ((plcW es 1).length - 1))).flatMap (fun n : Nat => (List.range (facN ((plcW es 2).length - 1))).map (fun m : Nat => partL (plcW es 0) ((n / facN ((plcW es 1).length - 1) : Nat) : Int) ++ partL (plcW es 1) ((n % facN ((plcW es 1).length - 1) : Nat) : Int) ++ partL (plcW es 2) (m : Int))) := by
    refine flat_congr (fun n hn => ?_)
    rw [List.mem_range] at hn
    refine place_all p2 (plcW_nodup h12 2) (fun x hx => (plcW_mem h12 hx).1.1) (fun x hx h => ?_)
    rcases List.mem_append.1 h with h | h
    · exact dis (by decide) x hx ((part_mem p0 (Nat.div_lt_of_lt_mul (by rw [Nat.mul_comm]; exact hn))).1 h)
    · exact dis (by decide) x hx ((part_mem p1 (Nat.mod_lt _ (facN_pos _))).1 h)
  rw [e2, range_flat _ (facN_pos _) (fun n m => partL (plcW es 0) ((n / facN ((plcW es 1).length - 1) : Nat) : Int) ++ partL (plcW es 1) ((n % facN ((plcW es 1).length - 1) : Nat) : Int) ++ partL (plcW es 2) ((m : Nat) : Int))]
  rw [← rcnt_nat, Int.toNat_natCast]
  refine List.map_congr_left (fun n hn => ?_)
  rw [List.mem_range] at hn
  have hr := rat_parts (es := es) (n := (n : Int)) (Int.natCast_nonneg _) (by rw [← rcnt_nat]; exact Int.ofNat_lt.2 hn)
  unfold ratL
  rw [Int.emod_eq_of_lt hr.2.2.1 hr.2.2.2, ← facN_cast, ← facN_cast, ← Int.natCast_ediv, ← Int.natCast_ediv, ← Int.natCast_emod, ← Int.natCast_emod]
theorem rcnt_pos (es : List Ev) : 0 < rcntL es := Int.mul_pos (Int.mul_pos (fac_pos _) (fac_pos _)) (fac_pos _)
theorem fac_mono9 {m : Nat} (h : m ≤ 9) : fac m ≤ 362880 := by
  have : ∀ j : Nat, j ≤ 9 → fac j ≤ 362880 := by decide +kernel
  exact this m h
theorem plcW_9 {es : List Ev} (hx : es.length ≤ 9) (p : Nat) : (plcW es p).length ≤ 9 := by
  unfold plcW idxB
  rw [if_pos (by omega)]
  have := idxK_len (toE (p : Int)) es es.length
  omega
/-- What there is: as a list, and how many. -/
theorem all_none {dss : List (List Dd)} (hb : workB dss = false) : allS (seatsL (eventsB dss)) [] = [[]] := by
  have : eventsB dss = [] := by rw [eventsB, hb]; rfl
  rw [this]
  rfl
end Go.Proofs.YtkbkdlaknmgjpaaGreat

/- Rows as the program asks for them (each seat by itself), and the lines of rows in the program's order: the same as the specification's. -/
namespace Go.Proofs.YtkbkdlaknmgjpaaGreat
open Go.RowKit

/-- Have the first k of the list seats that they may have, none of them twice? -/
def sitK (ss : List (List Int)) (rows : List Int) : Nat → Bool
  | 0 => true
  | k + 1 => sitK ss rows k && (isB (ss.getD k []) (rows.getD k 0) && !isB (rows.take k) (rows.getD k 0))
theorem sitK_false {ss : List (List Int)} {rows : List Int} {k : Nat} (h : sitK ss rows k = false) : ∀ m : Nat, k ≤ m → sitK ss rows m = false
  | 0, hm => by obtain rfl : k = 0 := by omega
                exact h
  | m + 1, hm => by
    by_cases e : k = m + 1
    · subst e; exact h
    · rw [sitK, sitK_false h m (by omega)]; rfl
theorem sitK_iff {ss : List (List Int)} {rows : List Int} : ∀ k : Nat, sitK ss rows k = true ↔ ∀ i, i < k → rows.getD i 0 ∈ ss.getD i [] ∧ rows.getD i 0 ∉ rows.take i
  | 0 => by simp [sitK]
  | k + 1 => by
    rw [sitK, Bool.and_eq_true, sitK_iff k, Bool.and_eq_true, Bool.not_eq_true', isB_false]
    constructor
    · rintro ⟨h1, h2, h3⟩ i hi
      by_cases e : i = k
      · subst e; exact ⟨isB_mem h2, h3⟩
      · exact h1 i (by omega)
    · intro h
      exact ⟨fun i hi => h i (by omega), mem_isB (h k (by omega)).1, (h k (by omega)).2⟩
theorem getD_at {l : List Int} {i : Nat} (h : i < l.length) : l.getD i 0 = l[i] := by
  rw [List.getD_eq_getElem?_getD, List.getElem?_eq_getElem h]; rfl
theorem getD_in {l : List Int} {i : Nat} (h : i < l.length) : l.getD i 0 ∈ l := by
  rw [getD_at h]; exact List.getElem_mem h
theorem nodup_of_take {rows : List Int} (h : ∀ i, i < rows.length → rows.getD i 0 ∉ rows.take i) : rows.Nodup := by
  rw [List.nodup_iff_pairwise_ne, List.pairwise_iff_getElem]
  intro i j hi hj hij e
  refine h j hj ?_
  rw [getD_at hj, ← e]
  exact List.mem_take_iff_getElem.2 ⟨i, by omega, rfl⟩
theorem take_of_nodup {rows : List Int} (h : rows.Nodup) {i : Nat} (hi : i < rows.length) : rows.getD i 0 ∉ rows.take i := by
  intro hm
  obtain ⟨j, hj, e⟩ := List.mem_take_iff_getElem.1 hm
  rw [getD_at hi] at e
  have := (List.getElem_inj h).1 e
  omega
/-- One place. -/
theorem part_sits {rows l : List Int} {at0 p : Nat} (hn : rows.Nodup) (hl : l.Nodup) (h0 : 0 < l.length) (hf : l.getD 0 0 = (p : Int)) (hle : at0 + l.length ≤ rows.length) :
    okP rows at0 l p = true ↔ ∀ j, j < l.length → rows.getD (at0 + j) 0 ∈ seatAt l j := by
  have hpl : ((rows.drop at0).take l.length).length = l.length := by rw [List.length_take, List.length_drop]; omega
  have hpart : ∀ j, j < l.length → rows.getD (at0 + j) 0 ∈ (rows.drop at0).take l.length := fun j hj => by
    refine List.mem_take_iff_getElem.2 ⟨j, by rw [List.length_drop]; omega, ?_⟩
    rw [List.getElem_drop, getD_at (by omega)]
  have hpn : ((rows.drop at0).take l.length).Nodup := (hn.sublist (List.drop_sublist at0 rows)).sublist (List.take_sublist _ _)
  have htk : l.take 1 = [l.getD 0 0] := by
    match l, h0 with
    | x :: r, _ => simp
  have hcons : l = l.getD 0 0 :: l.drop 1 := by
    match l, h0 with
    | x :: r, _ => simp
  constructor
  · intro h j hj
    have hperm := (okP_perm hl h).2
    have hm := hperm.mem_iff.2 (hpart j hj)
    unfold okP at h
    simp only [Bool.and_eq_true, decide_eq_true_eq, beq_iff_eq] at h
    unfold seatAt
    by_cases e : j = 0
    · subst e
      rw [if_pos rfl, htk, hf, Nat.add_zero, h.1.2]
      simp
    · rw [if_neg e]
      rw [hcons] at hm
      rcases List.mem_cons.1 hm with hm | hm
      · exfalso
        rw [hf, ← h.1.2, getD_at (by omega), getD_at (by omega)] at hm
        have := (List.getElem_inj hn).1 hm
        omega
      · exact hm
  · intro h
    have hin : ∀ x ∈ (rows.drop at0).take l.length, x ∈ l := fun x hx => by
      obtain ⟨j, hj, e⟩ := List.mem_take_iff_getElem.1 hx
      have hj2 : j < l.length := by omega
      have hs := h j hj2
      rw [List.getElem_drop] at e
      rw [getD_at (by rw [List.length_drop] at hj; omega), e] at hs
      unfold seatAt at hs
      split at hs
      · exact List.mem_of_mem_take hs
      · exact List.mem_of_mem_drop hs
    have hperm := perm_of hpn hin (by omega)
    have hfirst : rows.getD at0 0 = (p : Int) := by
      have := h 0 h0
      rw [Nat.add_zero] at this
      unfold seatAt at this
      rw [if_pos rfl, htk, List.mem_singleton, hf] at this
      exact this
    unfold okP
    simp only [Bool.and_eq_true, decide_eq_true_eq, beq_iff_eq, List.all_eq_true]
    exact ⟨⟨hle, hfirst⟩, fun x hx => mem_isB (hperm.mem_iff.2 hx)⟩
theorem seatP_get {l : List Int} {j : Nat} (h : j < l.length) : (seatP l).getD j [] = seatAt l j := by
  unfold seatP seatK
  rw [List.getD_eq_getElem?_getD, List.getElem?_map, List.getElem?_range h]
  rfl
theorem seat_left {a b : List (List Int)} {i : Nat} (h : i < a.length) : (a ++ b).getD i [] = a.getD i [] := by
  rw [List.getD_eq_getElem?_getD, List.getElem?_append_left h, ← List.getD_eq_getElem?_getD]
theorem seat_right {a b : List (List Int)} {i n : Nat} (h : n = a.length) : (a ++ b).getD (n + i) [] = b.getD i [] := by
  subst h
  rw [List.getD_eq_getElem?_getD, List.getElem?_append_right (by omega), ← List.getD_eq_getElem?_getD]
  congr 1
  omega
theorem seats_len (es : List Ev) : (seatsL es).length = (plcW es 0).length + (plcW es 1).length + (plcW es 2).length := by
  unfold seatsL
  rw [List.length_append, List.length_append, seatP_len, seatP_len, seatP_len]
theorem seats_0 {es : List Ev} {j : Nat} (h : j < (plcW es 0).length) : (seatsL es).getD (0 + j) [] = seatAt (plcW es 0) j := by
  unfold seatsL
  rw [Nat.zero_add, seat_left (by rw [List.length_append, seatP_len]; omega), seat_left (by rw [seatP_len]; omega), seatP_get h]
theorem seats_1 {es : List Ev} {j : Nat} (h : j < (plcW es 1).length) : (seatsL es).getD ((plcW es 0).length + j) [] = seatAt (plcW es 1) j := by
  unfold seatsL
  rw [seat_left (by rw [List.length_append, seatP_len, seatP_len]; omega), seat_right (by rw [seatP_len]), seatP_get h]
theorem seats_2 {es : List Ev} {j : Nat} (h : j < (plcW es 2).length) : (seatsL es).getD ((plcW es 0).length + (plcW es 1).length + j) [] = seatAt (plcW es 2) j := by
  unfold seatsL
  rw [seat_right (by rw [List.length_append, seatP_len, seatP_len]), seatP_get h]
/-- Each seat by itself: the same. -/
theorem sit_same {dss : List (List Dd)} (hb : workB dss = true) (rows : List Int) : (decide (rows.length = (seatsL (eventsB dss)).length) && sitK (seatsL (eventsB dss)) rows rows.length) = rowsL (eventsB dss) rows := by
  obtain ⟨p0, f0⟩ := plcW_first hb 0 (by decide)
  obtain ⟨p1, f1⟩ := plcW_first hb 1 (by decide)
  obtain ⟨p2, f2⟩ := plcW_first hb 2 (by decide)
  have h12 := eventsB_12 dss
  generalize eventsB dss = es at *
  rw [Bool.eq_iff_iff, Bool.and_eq_true, decide_eq_true_eq, sitK_iff, seats_len]
  constructor
  · rintro ⟨hl, hs⟩
    have hn := nodup_of_take (fun i hi => (hs i hi).2)
    have o0 := (part_sits (at0 := 0) hn (plcW_nodup h12 0) p0 f0 (by omega)).2 (fun j hj => by rw [← seats_0 hj]; exact (hs _ (by omega)).1)
    have o1 := (part_sits (at0 := (plcW es 0).length) hn (plcW_nodup h12 1) p1 f1 (by omega)).2 (fun j hj => by rw [← seats_1 hj]; exact (hs _ (by omega)).1)
    have o2 := (part_sits (at0 := (plcW es 0).length + (plcW es 1).length) hn (plcW_nodup h12 2) p2 f2 (by omega)).2 (fun j hj => by rw [← seats_2 hj]; exact (hs _ (by omega)).1)
    unfold rowsL
    rw [o0, o1, o2]
    simp only [Bool.true_and, decide_eq_true_eq]
    omega
  · intro h
    have hn := (rows_use h12 h).1
    unfold rowsL at h
    simp only [Bool.and_eq_true, decide_eq_true_eq] at h
    obtain ⟨⟨⟨o0, o1⟩, o2⟩, hl⟩ := h
    refine ⟨by omega, fun i hi => ⟨?_, take_of_nodup hn hi⟩⟩
    have q0 := (part_sits (at0 := 0) hn (plcW_nodup h12 0) p0 f0 (by omega)).1 o0
    have q1 := (part_sits (at0 := (plcW es 0).length) hn (plcW_nodup h12 1) p1 f1 (by omega)).1 o1
    have q2 := (part_sits (at0 := (plcW es 0).length + (plcW es 1).length) hn (plcW_nodup h12 2) p2 f2 (by omega)).1 o2
    by_cases c0 : i < (plcW es 0).length
    · have := q0 i c0
      rw [← seats_0 c0, Nat.zero_add] at this
      exact this
    · by_cases c1 : i < (plcW es 0).length + (plcW es 1).length
      · obtain ⟨j, rfl⟩ : ∃ j, i = (plcW es 0).length + j := ⟨i - (plcW es 0).length, by omega⟩
        have hj : j < (plcW es 1).length := by omega
        have := q1 j hj
        rw [← seats_1 hj] at this
        exact this
      · obtain ⟨j, rfl⟩ : ∃ j, i = (plcW es 0).length + (plcW es 1).length + j := ⟨i - ((plcW es 0).length + (plcW es 1).length), by omega⟩
        have hj : j < (plcW es 2).length := by omega
        have := q2 j hj
        rw [← seats_2 hj] at this
        exact this
/-- The lines of rows as the program draws them: to each from all ahead of it. -/
def pwIn (es : List Ev) (rows : List Int) (i : Nat) (st : List Int) : Nat → List Int
  | 0 => st
  | k + 1 => if (plE es (rows.getD k 0) == plE es (rows.getD i 0)) = true then (pwIn es rows i st k).set (rows.getD k 0).toNat (gAdd ((pwIn es rows i st k).getD (rows.getD k 0).toNat 0) (rows.getD i 0)) else pwIn es rows i st k
def pwAll (es : List Ev) (rows : List Int) : Nat → List Int
  | 0 => List.replicate es.length 0
  | i + 1 => pwIn es rows i (pwAll es rows i) i
theorem web_pwIn {es : List Ev} {rows : List Int} {n i : Nat} {st : List Int} (hr : ∀ j, j < rows.length → 0 ≤ rows.getD j 0 ∧ rows.getD j 0 < (n : Int)) (hi : i < rows.length) (hst : Web n st) : ∀ m : Nat, m ≤ i →
    Web n (pwIn es rows i st m) ∧ ∀ a b : Nat, a < n → (line (pwIn es rows i st m) a b = true ↔ line st a b = true ∨ ∃ q, q < m ∧ plE es (rows.getD q 0) = plE es (rows.getD i 0) ∧ rows.getD q 0 = (a : Int) ∧ rows.getD i 0 = (b : Int))
  | 0, _ => ⟨hst, fun a b _ => by simp [pwIn]⟩
  | m + 1, hm => by
    obtain ⟨h1, h2⟩ := web_pwIn (es := es) hr hi hst m (by omega)
    by_cases hp : plE es (rows.getD m 0) = plE es (rows.getD i 0)
    · obtain ⟨a0, ha0⟩ := Int.eq_ofNat_of_zero_le (hr m (by omega)).1
      obtain ⟨b0, hb0⟩ := Int.eq_ofNat_of_zero_le (hr i hi).1
      have ha : a0 < n := by have := (hr m (by omega)).2; omega
      have hb : b0 < n := by have := (hr i hi).2; omega
      have e0 : pwIn es rows i st (m + 1) = (pwIn es rows i st m).set a0 (gAdd ((pwIn es rows i st m).getD a0 0) (b0 : Int)) := by rw [pwIn, if_pos (by simpa using hp), ha0, hb0, Int.toNat_natCast]
      rw [e0]
      have hadd := ok_add (h1.2.2 a0 ha) hb
      refine ⟨h1.set hadd.1, fun a b haa => ?_⟩
      have e1 := h2 a b haa
      unfold line at e1 ⊢
      rw [getD_set _ _ _ _ (by rw [h1.2.1]; exact ha)]
      by_cases e : a0 = a
      · subst e
        simp only [if_true]
        rw [hadd.2 b, Bool.or_eq_true, e1, decide_eq_true_eq]
        constructor
        · rintro ((h | ⟨q, hq, r1, r2, r3⟩) | h)
          · exact .inl h
          · exact .inr ⟨q, by omega, r1, r2, r3⟩
          · exact .inr ⟨m, by omega, hp, ha0, by rw [hb0, h]⟩
        · rintro (h | ⟨q, hq, r1, r2, r3⟩)
          · exact .inl (.inl h)
          · right
            rw [hb0] at r3
            omega
      · simp only [e, if_false]
        rw [e1]
        constructor
        · rintro (h | ⟨q, hq, r1, r2, r3⟩)
          · exact .inl h
          · exact .inr ⟨q, by omega, r1, r2, r3⟩
        · rintro (h | ⟨q, hq, r1, r2, r3⟩)
          · exact .inl h
          · by_cases eq : q = m
            · exfalso; subst eq; rw [ha0] at r2; omega
            · exact .inr ⟨q, by omega, r1, r2, r3⟩
    · have e0 : pwIn es rows i st (m + 1) = pwIn es rows i st m := by rw [pwIn, if_neg (by simpa using hp)]
      rw [e0]
      refine ⟨h1, fun a b ha => ?_⟩
      rw [h2 a b ha]
      constructor
      · rintro (h | ⟨q, hq, r⟩)
        · exact .inl h
        · exact .inr ⟨q, by omega, r⟩
      · rintro (h | ⟨q, hq, r⟩)
        · exact .inl h
        · by_cases e : q = m
          · subst e; exact absurd r.1 hp
          · exact .inr ⟨q, by omega, r⟩
theorem web_pwAll {es : List Ev} {rows : List Int} (hx : es.length ≤ 12) (hr : ∀ j, j < rows.length → 0 ≤ rows.getD j 0 ∧ rows.getD j 0 < (es.length : Int)) : ∀ m : Nat, m ≤ rows.length →
    Web es.length (pwAll es rows m) ∧ ∀ a b : Nat, a < es.length → (line (pwAll es rows m) a b = true ↔ ∃ i q, i < m ∧ q < i ∧ plE es (rows.getD q 0) = plE es (rows.getD i 0) ∧ rows.getD q 0 = (a : Int) ∧ rows.getD i 0 = (b : Int))
  | 0, _ => ⟨Web.zero hx, fun a b _ => by unfold pwAll; rw [line_zero]; simp⟩
  | m + 1, hm => by
    obtain ⟨h1, h2⟩ := web_pwAll hx hr m (by omega)
    obtain ⟨g1, g2⟩ := web_pwIn (es := es) hr (show m < rows.length by omega) h1 m (Nat.le_refl _)
    refine ⟨g1, fun a b ha => ?_⟩
    show line (pwIn es rows m (pwAll es rows m) m) a b = true ↔ _
    rw [g2 a b ha, h2 a b ha]
    constructor
    · rintro (⟨i, q, hi, r⟩ | ⟨q, hq, r⟩)
      · exact ⟨i, q, by omega, r⟩
      · exact ⟨m, q, by omega, hq, r⟩
    · rintro ⟨i, q, hi, hq, r⟩
      by_cases e : i = m
      · subst e; exact .inr ⟨q, hq, r⟩
      · exact .inl ⟨i, q, by omega, hq, r⟩
theorem pw_same {es : List Ev} {rows : List Int} (hx : es.length ≤ 12) (hr : ∀ j, j < rows.length → 0 ≤ rows.getD j 0 ∧ rows.getD j 0 < (es.length : Int)) : pwAll es rows rows.length = rwL es rows := by
  obtain ⟨a1, a2⟩ := web_pwAll hx hr rows.length (Nat.le_refl _)
  obtain ⟨b1, b2⟩ := web_rwAll hx hr rows.length (Nat.le_refl _)
  unfold rwL
  refine Web.ext a1 b1 (fun a b ha _ => ?_)
  rw [Bool.eq_iff_iff, a2 a b ha, b2 a b ha]
  unfold rwP
  constructor
  · rintro ⟨i, q, hi, hq, h1, h2, h3⟩
    exact ⟨q, i, by omega, hi, by rw [decide_eq_true hq, h1]; simp, h2, h3⟩
  · rintro ⟨i, q, hi, hq, h1, h2, h3⟩
    rw [Bool.and_eq_true, decide_eq_true_eq, beq_iff_eq] at h1
    exact ⟨q, i, hq, h1.1, h1.2, h2, h3⟩
/-- Seats are few, and rise. -/
theorem seat_rises {es : List Ev} (hx : es.length ≤ 12) {i : Nat} (hi : i < (seatsL es).length) : ((seatsL es).getD i []).Pairwise (· < ·) ∧ ((seatsL es).getD i []).length ≤ 12 := by
  have at1 : ∀ (p j : Nat), (seatAt (plcW es p) j).Pairwise (· < ·) ∧ (seatAt (plcW es p) j).length ≤ 12 := fun p j => by
    have h1 : (plcW es p).Pairwise (· < ·) := by
      unfold plcW idxB
      rw [if_pos hx]
      exact idxK_rises _ _ _
    have h2 := plcW_len hx p
    unfold seatAt
    split
    · exact ⟨h1.sublist (List.take_sublist _ _), by rw [List.length_take]; omega⟩
    · exact ⟨h1.sublist (List.drop_sublist _ _), by rw [List.length_drop]; omega⟩
  rw [seats_len] at hi
  by_cases c0 : i < (plcW es 0).length
  · have := seats_0 c0
    rw [Nat.zero_add] at this
    rw [this]
    exact at1 0 i
  · by_cases c1 : i < (plcW es 0).length + (plcW es 1).length
    · obtain ⟨j, rfl⟩ : ∃ j, i = (plcW es 0).length + j := ⟨i - (plcW es 0).length, by omega⟩
      rw [seats_1 (by omega)]
      exact at1 1 j
    · obtain ⟨j, rfl⟩ : ∃ j, i = (plcW es 0).length + (plcW es 1).length + j := ⟨i - ((plcW es 0).length + (plcW es 1).length), by omega⟩
      rw [seats_2 (by omega)]
      exact at1 2 j
theorem seats_36 {es : List Ev} (hx : es.length ≤ 12) : (seatsL es).length ≤ 36 := by
  rw [seats_len]
  have := plcW_len hx 0
  have := plcW_len hx 1
  have := plcW_len hx 2
  omega
end Go.Proofs.YtkbkdlaknmgjpaaGreat

/- Contract of the program's RowsOk. -/
namespace Go.Proofs.YtkbkdlaknmgjpaaGreat
open Go.ChangeShapes Go.WideShapes Go.ChangeAt Go.RowKit

theorem Rd.upto {w : World} {a : Option Addr} {n c : Nat} {zs : List Int} (h : Rd w (.slice a n c) zs) {k : Nat} (hk : k ≤ zs.length) : Rd w (.slice a k c) (zs.take k) := by
  obtain ⟨a', c', he, hr⟩ := h
  simp only [Value.slice.injEq] at he
  obtain ⟨rfl, rfl, rfl⟩ := he
  have hl : (zs.take k).length = k := by rw [List.length_take]; omega
  refine ⟨_, _, by rw [hl], ?_⟩
  rcases hr with hr | ⟨b, off, rfl, hb, hc⟩
  · exact .inl (by rw [hr]; simp)
  · refine .inr ⟨b, off, rfl, hb, fun i hi => ?_⟩
    rw [hc i (by omega), List.getD_eq_getElem?_getD, List.getD_eq_getElem?_getD, List.getElem?_take, if_pos (by omega)]
set_option maxRecDepth 100000 in
set_option maxHeartbeats 2000000 in
theorem implRowsOk_any (w : World) (v vf : Value) (dss : List (List Dd)) (f : List Int) (h : RdW w v dss) (hf : Rd w vf f) (hcap : f.length ≤ capZ vf) (hx : dss.length ≤ 1048576) (hm : ∀ i, i < dss.length → (dss.getD i []).length ≤ 1048576) (hfl : f.length ≤ 1048576) :
    Calls Tryz.prog 90 #[v, vf] w fun e w' => e = .returned (.bool (rowsB dss f)) ∧ Keep w w' := by
  have h12 : (eventsB dss).length ≤ 12 := by have := eventsB_len9 dss; omega
  have sl := seats_36 h12
  have HS := Lib.hid (fun i hi => (seat_rises h12 (i := i) hi).2)
  go_enter Tryz.func90, Tryz.ntmps90
  go_wp2_with fail
  refine (implEventsOf_any _ _ _ h hx hm).mono ?_
  rintro e w2 ⟨v2, rfl, a2, k2⟩
  go_wp2_with fail
  refine (seatsOf_any _ _ _ a2.rd h12).mono ?_
  rintro e w3 ⟨v3, rfl, rc, k3⟩
  have K3 := k2.trans k3
  have hf3 := hf.keep K3
  have HE : Hid (workB dss = true → rowsB dss f = (decide (f.length = (seatsL (eventsB dss)).length) && sitK (seatsL (eventsB dss)) f f.length)) := Lib.hid (fun hb => by rw [sit_same hb, rowsB, hb]; rfl)
  generalize seatsL (eventsB dss) = c at rc HE HS sl
  obtain ⟨ac, cc, rfl, -⟩ := id rc
  obtain ⟨af, cf, rfl, -⟩ := id hf3
  have hcf : f.length ≤ cf := hcap
  go_wp2_with fail
  refine (implWorkOk_any _ _ _ (h.keep K3) hx hm).mono ?_
  rintro e w4 ⟨rfl, k4⟩
  have K4 := K3.trans k4
  have hf4 := hf3.keep k4
  have rc4 := rc.keep k4
  clear h a2 k2 k3 rc hf hf3 K3 k4 hx hm h12 hcap
  cases hb : workB dss
  · have HN : Hid (rowsB dss f = false) := Lib.hid (by rw [rowsB, hb]; rfl)
    go_wp2
    go_ret
    exact ⟨by rw [HN.out]; rfl, K4⟩
  have HE2 : Hid (rowsB dss f = (decide (f.length = c.length) && sitK c f f.length)) := Lib.hid (HE.out hb)
  clear HE
  by_cases hl : f.length = c.length
  · have hlb : ((f.length : Int) != (c.length : Int)) = false := by simp [hl]
    have l1 : f.length ≤ c.length := by omega
    have HR : Hid (rowsB dss f = sitK c f f.length) := Lib.hid (by rw [HE2.out, decide_eq_true hl]; rfl)
    clear hl HE2
    go_wp2
    go_loopw [23] (fun i wr => ∃ k : Nat, k ≤ f.length ∧ i = .int .i64 k ∧ Hid (sitK c f k = true) ∧ Keep w4 wr) (fun i _ => f.length - (intOf i).toNat)
    case atStart => exact ⟨0, Nat.zero_le _, rfl, Lib.hid rfl, Keep.refl _⟩
    case round =>
      obtain ⟨k, hk, rfl, hS, hK⟩ := hrel
      by_cases hlt : k < f.length
      · have rck := rc4.keep hK
        have hfk := hf4.keep hK
        have hft := hfk.upto (k := k) hk
        obtain ⟨a', c', he', rck⟩ := rck
        simp only [Value.slice.injEq, true_and] at he'
        obtain ⟨rfl, rfl⟩ := he'
        rcases rck with h | ⟨b, o, rfl, hbb, hc⟩
        · exfalso; rw [h] at l1; simp only [List.length_nil] at l1; omega
        obtain ⟨a', c', he', hfk⟩ := hfk
        simp only [Value.slice.injEq, true_and] at he'
        obtain ⟨rfl, rfl⟩ := he'
        rcases hfk with h | ⟨b2, o2, rfl, hb2, hc2⟩
        · exfalso; rw [h] at hlt; simp at hlt
        obtain ⟨vi, d1, r2⟩ := hc k (by omega)
        have d2 := hc2 k hlt
        have ck := HS.out k (by omega)
        have tk : (f.take k).length ≤ 1048576 := by rw [List.length_take]; omega
        clear hc hc2
        have HB : Hid (sitK c f (k + 1) = (sitK c f k && (isB (c.getD k []) (f.getD k 0) && !isB (f.take k) (f.getD k 0)))) := Lib.hid rfl
        generalize f.getD k 0 = n at d2 HB
        generalize c.getD k [] = zs at r2 ck HB
        generalize f.take k = ft at hft tk HB
        obtain ⟨az, cz, rfl, -⟩ := id r2
        have i1 : (0 : Int) ≤ (k : Int) := Int.natCast_nonneg _
        have i2 : (k : Int) < (c.length : Int) := by omega
        have i3 : (k : Int) < (f.length : Int) := by omega
        have i4 : (k : Int) ≤ (cf : Int) := by omega
        have CI := contains_any wr _ zs r2 (by omega) n
        have CJ := contains_any wr _ ft hft (by omega) n
        cases hi : isB zs n
        · have HN : Hid (sitK c f f.length = false) := Lib.hid (sitK_false (k := k + 1) (by rw [HB.out, hi]; simp) _ hlt)
          rw [hi] at CI
          clear CJ
          go_wp2_with fail
          refine CI.mono ?_
          rintro e w5 ⟨rfl, rfl⟩
          go_wp2
          go_ret
          exact ⟨by rw [HR.out, HN.out]; rfl, K4.trans hK⟩
        · rw [hi] at CI
          cases hj : isB ft n
          · have HN : Hid (sitK c f (k + 1) = true) := Lib.hid (by rw [HB.out, hi, hj, hS.out]; rfl)
            rw [hj] at CJ
            go_wp2_with fail
            refine CI.mono ?_
            rintro e w5 ⟨rfl, rfl⟩
            go_wp2_with fail
            refine CJ.mono ?_
            rintro e w6 ⟨rfl, rfl⟩
            go_wp2
            go_roundw
            case rel => exact ⟨k + 1, by omega, by go_num, HN, hK⟩
            case measure => simp [intOf]; omega
          · have HN : Hid (sitK c f f.length = false) := Lib.hid (sitK_false (k := k + 1) (by rw [HB.out, hi, hj]; simp) _ hlt)
            rw [hj] at CJ
            go_wp2_with fail
            refine CI.mono ?_
            rintro e w5 ⟨rfl, rfl⟩
            go_wp2_with fail
            refine CJ.mono ?_
            rintro e w6 ⟨rfl, rfl⟩
            go_wp2
            go_ret
            exact ⟨by rw [HR.out, HN.out]; rfl, K4.trans hK⟩
      · obtain rfl : k = f.length := by omega
        go_wp2
        go_ret
        exact ⟨by rw [HR.out, hS.out]; rfl, K4.trans hK⟩
  · have hlb : ((f.length : Int) != (c.length : Int)) = true := by simp; omega
    have HR : Hid (rowsB dss f = false) := Lib.hid (by rw [HE2.out, decide_eq_false hl]; rfl)
    clear hl HE2
    go_wp2
    go_ret
    exact ⟨by rw [HR.out]; rfl, K4⟩
end Go.Proofs.YtkbkdlaknmgjpaaGreat

/- Contract of the program's RowWeb. -/
namespace Go.Proofs.YtkbkdlaknmgjpaaGreat
open Go.ChangeShapes Go.WideShapes Go.ChangeAt Go.RowKit

set_option maxRecDepth 100000 in
set_option maxHeartbeats 4000000 in
theorem implRowWeb_any (w : World) (v vf : Value) (dss : List (List Dd)) (f : List Int) (h : RdW w v dss) (hf : Rd w vf f) (hcap : f.length ≤ capZ vf) (hx : dss.length ≤ 1048576) (hm : ∀ i, i < dss.length → (dss.getD i []).length ≤ 1048576) (hfl : f.length ≤ 1048576) :
    Calls Tryz.prog 42 #[v, vf] w fun e w' => ∃ v', e = .returned v' ∧ Row w' w.heap.size v' (rwB dss f) ∧ Keep w w' := by
  have C := implRowsOk_any w v vf dss f h hf hcap hx hm hfl
  cases hs : rowsB dss f
  · have HE : Hid (rwB dss f = []) := Lib.hid (by rw [rwB, hs]; rfl)
    rw [hs] at C
    go_enter Tryz.func42, Tryz.ntmps42
    go_wp2_with fail
    refine C.mono ?_
    rintro e w1 ⟨rfl, k1⟩
    have s1 := k1.size
    go_wp2
    go_ret
    exact ⟨_, rfl, by rw [HE.out]; exact (row_empty w1 _).base_le s1, k1.alloc _⟩
  · have h12 : (eventsB dss).length ≤ 12 := by have := eventsB_len9 dss; omega
    have hrl : rowsL (eventsB dss) f = true := by rw [rowsB, Bool.and_eq_true] at hs; exact hs.2
    obtain ⟨-, -, fin⟩ := rows_use h12 hrl
    have HE : Hid (rwB dss f = pwAll (eventsB dss) f f.length) := Lib.hid (by rw [pw_same h12 fin, rwB, if_pos hs])
    have HW := Lib.hid (web_pwAll h12 fin)
    have HX := Lib.hid (fun (i : Nat) (st : List Int) hi hst => web_pwIn (es := eventsB dss) (n := (eventsB dss).length) (i := i) (st := st) fin hi hst)
    have FIN := Lib.hid fin
    rw [hs] at C
    clear fin hrl hs
    go_enter Tryz.func42, Tryz.ntmps42
    go_wp2_with fail
    refine C.mono ?_
    rintro e w1 ⟨rfl, k1⟩
    have s1 := k1.size
    go_wp2_with fail
    refine (implEventsOf_any _ _ _ (h.keep k1) hx hm).mono ?_
    rintro e w2 ⟨v2, rfl, a2, k2⟩
    have s2 := k2.size
    have re := a2.rd
    generalize eventsB dss = es at *
    obtain ⟨ae, ce, rfl, re⟩ := re
    go_wp2_with fail
    refine (blank_any _ _ h12).mono ?_
    rintro e w3 ⟨rfl, rb, k3⟩
    have K2 := k1.trans k2
    have hf2 := hf.keep K2
    obtain ⟨af, cf, rfl, -⟩ := id hf
    have hcf : f.length ≤ cf := hcap
    have sw : w.heap.size ≤ w2.heap.size := by omega
    clear C h hx hm a2 k1 k2 hf s1 s2 hcap
    go_wp2
    go_loopw [23] (fun i wr => ∃ k : Nat, k ≤ f.length ∧ i = .int .i64 k ∧ RowAt wr w2.heap.size (pwAll es f k) ∧ Keep w2 wr) (fun i _ => f.length - (intOf i).toNat)
    case atStart => exact ⟨0, Nat.zero_le _, rfl, rb, k3⟩
    case round =>
      obtain ⟨k, hk, rfl, hr, hK⟩ := hrel
      clear rb k3
      by_cases hlt : k < f.length
      · have hfk := hf2.keep hK
        obtain ⟨a', c', he', hfk⟩ := hfk
        simp only [Value.slice.injEq, true_and] at he'
        obtain ⟨rfl, rfl⟩ := he'
        rcases hfk with h0 | ⟨bf, off, rfl, hbf, hcf'⟩
        · exfalso; rw [h0] at hlt; simp at hlt
        obtain ⟨rb, hrb⟩ := Int.eq_ofNat_of_zero_le (FIN.out k hlt).1
        have hrbl : rb < es.length := by have := (FIN.out k hlt).2; omega
        have d1 := hcf' k hlt
        rw [hrb] at d1
        have HN : Hid (pwAll es f (k + 1) = pwIn es f k (pwAll es f k) k) := Lib.hid rfl
        have HWI := Lib.hid (HX.out k (pwAll es f k) hlt (HW.out k hk).1)
        generalize pwAll es f k = S0 at hr HN HWI
        have i1 : (0 : Int) ≤ (k : Int) := Int.natCast_nonneg _
        have i2 : (k : Int) < (f.length : Int) := by omega
        have i3 : (k : Int) ≤ (cf : Int) := by omega
        clear hcf'
        go_wp2
        clear d1
        obtain ⟨wo, rfl⟩ : ∃ wo : World, wo = wr := ⟨_, rfl⟩
        go_loopw [32] (fun i wr => ∃ q : Nat, q ≤ k ∧ i = .int .i64 q ∧ RowAt wr w2.heap.size (pwIn es f k S0 q) ∧ Keep w2 wr) (fun i _ => k - (intOf i).toNat)
        case atStart => exact ⟨0, Nat.zero_le _, rfl, hr, hK⟩
        case round =>
          clear hr hK
          obtain ⟨q, hq, rfl, hr, hK⟩ := hrel
          by_cases hqk : q < k
          · have hfk := hf2.keep hK
            obtain ⟨a', c', he', hfk⟩ := hfk
            simp only [Value.slice.injEq, true_and] at he'
            obtain ⟨rfl, rfl⟩ := he'
            rcases hfk with h0 | ⟨bf', off', he, hbf', hcf'⟩
            · exfalso; rw [h0] at hlt; simp at hlt
            simp only [Option.some.injEq, Addr.mk.injEq, and_true] at he
            obtain ⟨rfl, rfl⟩ := he
            obtain ⟨ra, hra⟩ := Int.eq_ofNat_of_zero_le (FIN.out q (by omega)).1
            have hral : ra < es.length := by have := (FIN.out q (by omega)).2; omega
            have d2 := hcf' q (by omega)
            rw [hra] at d2
            clear hcf'
            rcases re with h0 | ⟨be, oe, rfl, hbe, hce⟩
            · exfalso; rw [h0] at hral; simp at hral
            have AX := (hce ra _ (evs_get hral)).keep hbe hK
            have AY := (hce rb _ (evs_get hrbl)).keep hbe hK
            have HH : Hid (((es.getD ra zE).2.2.2.1 == (es.getD rb zE).2.2.2.1) = true → pwIn es f k S0 (q + 1) = (pwIn es f k S0 q).set ra (gAdd ((pwIn es f k S0 q).getD ra 0) (rb : Int))) := Lib.hid (fun e => by
              rw [pwIn, hra, hrb]
              unfold plE
              rw [Int.toNat_natCast, Int.toNat_natCast, if_pos e])
            have HM : Hid (((es.getD ra zE).2.2.2.1 == (es.getD rb zE).2.2.2.1) = false → pwIn es f k S0 (q + 1) = pwIn es f k S0 q) := Lib.hid (fun e => by
              rw [pwIn, hra, hrb]
              unfold plE
              rw [Int.toNat_natCast, Int.toNat_natCast, if_neg (by rw [e]; simp)])
            have hBl := (HWI.out q hq).1.2.1
            clear hce hra
            generalize es.getD ra zE = ex at AX HH HM
            generalize es.getD rb zE = ey at AY HH HM
            obtain ⟨x0, x1, x2, x3, x4, x5⟩ := ex
            obtain ⟨y0, y1, y2, y3, y4, y5⟩ := ey
            obtain ⟨A0, A1, A2, A3, A4, A5⟩ := atE AX
            obtain ⟨B0, B1, B2, B3, B4, B5⟩ := atE AY
            clear AX AY
            simp only at HH HM
            generalize pwIn es f k S0 q = S at hr HH HM hBl
            have n1 : (0 : Int) ≤ (q : Int) := Int.natCast_nonneg _
            have n2 : (q : Int) < (k : Int) := by omega
            have n3 : (0 : Int) ≤ (ra : Int) := Int.natCast_nonneg _
            have n4 : (ra : Int) < (es.length : Int) := by omega
            have n5 : (0 : Int) ≤ (rb : Int) := Int.natCast_nonneg _
            have n6 : (rb : Int) < (es.length : Int) := by omega
            have z1 : be < wr.drew.heap.size := Nat.lt_of_lt_of_le hbe hK.size
            have CA := fun u => areAt_any u x0 x1 x2 x3 x4 x5 y0 y1 y2 y3 y4 y5
            have HO : Hid (onpE (x0, x1, x2, x3, x4, x5) (y0, y1, y2, y3, y4, y5) = (x3 == y3)) := Lib.hid rfl
            rw [HO.out] at CA
            clear HO
            cases ht : (x3 == y3)
            · have HE1 : Hid (pwIn es f k S0 (q + 1) = S) := Lib.hid (HM.out ht)
              rw [ht] at CA
              clear HH HM ht
              go_wp2
              go_region_held3 (fun w' => w'.cell? ⟨be, oe + ra * 6, none⟩ = some (.int .i64 x0) ∧ w'.cell? ⟨be, oe + ra * 6 + 1, none⟩ = some (.int .i64 x1) ∧ w'.cell? ⟨be, oe + ra * 6 + 2, none⟩ = some (.bool x2) ∧ w'.cell? ⟨be, oe + ra * 6 + 3, none⟩ = some (.int .i64 x3) ∧ w'.cell? ⟨be, oe + ra * 6 + 4, none⟩ = some (.int .i64 x4) ∧ w'.cell? ⟨be, oe + ra * 6 + 5, none⟩ = some (.int .i64 x5) ∧ w'.cell? ⟨be, oe + rb * 6, none⟩ = some (.int .i64 y0) ∧ w'.cell? ⟨be, oe + rb * 6 + 1, none⟩ = some (.int .i64 y1) ∧ w'.cell? ⟨be, oe + rb * 6 + 2, none⟩ = some (.bool y2) ∧ w'.cell? ⟨be, oe + rb * 6 + 3, none⟩ = some (.int .i64 y3) ∧ w'.cell? ⟨be, oe + rb * 6 + 4, none⟩ = some (.int .i64 y4) ∧ w'.cell? ⟨be, oe + rb * 6 + 5, none⟩ = some (.int .i64 y5))
                (first | go_keep | (go_split_ands; refine ⟨?_, ?_, ?_, ?_, ?_, ?_, ?_, ?_, ?_, ?_, ?_, ?_⟩ <;> (rw [kk.cell (by assumption)]; assumption)))
                ((go_at_call 91; refine (CA _).mono ?_; rintro e wz ⟨rfl, kk⟩))
              all_goals
                clear A0 A1 A2 A3 A4 A5 B0 B1 B2 B3 B4 B5
                go_wp2
                go_roundw
                case rel => exact ⟨q + 1, by omega, by go_num, by rw [HE1.out]; exact hr.drew.keep kk, hK.drew.trans kk⟩
                case measure => simp [intOf]; omega
            · have HE1 : Hid (pwIn es f k S0 (q + 1) = S.set ra (gAdd (S.getD ra 0) (rb : Int))) := Lib.hid (HH.out ht)
              rw [ht] at CA
              clear HH HM ht
              go_wp2
              go_region_held3 (fun w' => w'.cell? ⟨be, oe + ra * 6, none⟩ = some (.int .i64 x0) ∧ w'.cell? ⟨be, oe + ra * 6 + 1, none⟩ = some (.int .i64 x1) ∧ w'.cell? ⟨be, oe + ra * 6 + 2, none⟩ = some (.bool x2) ∧ w'.cell? ⟨be, oe + ra * 6 + 3, none⟩ = some (.int .i64 x3) ∧ w'.cell? ⟨be, oe + ra * 6 + 4, none⟩ = some (.int .i64 x4) ∧ w'.cell? ⟨be, oe + ra * 6 + 5, none⟩ = some (.int .i64 x5) ∧ w'.cell? ⟨be, oe + rb * 6, none⟩ = some (.int .i64 y0) ∧ w'.cell? ⟨be, oe + rb * 6 + 1, none⟩ = some (.int .i64 y1) ∧ w'.cell? ⟨be, oe + rb * 6 + 2, none⟩ = some (.bool y2) ∧ w'.cell? ⟨be, oe + rb * 6 + 3, none⟩ = some (.int .i64 y3) ∧ w'.cell? ⟨be, oe + rb * 6 + 4, none⟩ = some (.int .i64 y4) ∧ w'.cell? ⟨be, oe + rb * 6 + 5, none⟩ = some (.int .i64 y5))
                (first | go_keep | (go_split_ands; refine ⟨?_, ?_, ?_, ?_, ?_, ?_, ?_, ?_, ?_, ?_, ?_, ?_⟩ <;> (rw [kk.cell (by assumption)]; assumption)))
                ((go_at_call 91; refine (CA _).mono ?_; rintro e wz ⟨rfl, kk⟩))
              all_goals
                clear A0 A1 A2 A3 A4 A5 B0 B1 B2 B3 B4 B5
                have hr5 := hr.drew.keep kk
                have hK5 := hK.drew.trans kk
                go_wp2_with fail
                refine (line_any _ w2.heap.size es.length es.length S ra (rb : Int) hr5 hBl hral).mono ?_
                rintro e w7 ⟨rfl, R7, g7⟩
                have hK7 : Keep w2 w7 := hK5.grown g7 (by simp)
                go_wp2
                go_roundw
                case rel => exact ⟨q + 1, by omega, by go_num, by rw [HE1.out]; exact R7, hK7⟩
                case measure => simp [intOf]; omega
          · obtain rfl : q = k := by omega
            go_wp2
            go_roundw
            case rel => exact ⟨q + 1, by omega, by go_num, by rw [HN.out]; exact hr, hK⟩
            case measure => simp [intOf]; omega
      · obtain rfl : k = f.length := by omega
        have hl := (HW.out f.length (Nat.le_refl _)).1.2.1
        go_wp2
        go_ret
        exact ⟨_, rfl, by rw [HE.out]; exact .inr ⟨w2.heap.size, es.length, by rw [hl]; rfl, sw, hr⟩, K2.trans hK⟩
end Go.Proofs.YtkbkdlaknmgjpaaGreat

/- Plain mathematics of pages: a tale as the program holds it, a seat of its rows for each event. -/
namespace Go.Proofs.YtkbkdlaknmgjpaaGreat
open Go.RowKit

def sitS (rows : List Int) : Nat → List Int
  | 0 => List.replicate 12 0
  | k + 1 => (sitS rows k).set (rows.getD k 0).toNat (k : Int)
def pgK (rs f s : List Int) : Nat → List Int
  | 0 => s
  | k + 1 => (pgK rs f s k).set (rs.getD k 0).toNat ((pgK rs f s k).getD (f.getD k 0).toNat 0)
def pageL (es : List Ev) (f rows : List Int) : List Int := pgK (idxB rdE es) f (sitS rows rows.length) (idxB rdE es).length
def pageB (dss : List (List Dd)) (f rows : List Int) : List Int := if taleB dss f rows = true then pageL (eventsB dss) f rows else List.replicate 12 0
theorem sitS_len (rows : List Int) : ∀ k : Nat, (sitS rows k).length = 12
  | 0 => by simp [sitS]
  | k + 1 => by rw [sitS, List.length_set, sitS_len rows k]
theorem pgK_len (rs f s : List Int) : ∀ k : Nat, (pgK rs f s k).length = s.length
  | 0 => rfl
  | k + 1 => by rw [pgK, List.length_set, pgK_len rs f s k]
theorem pageL_len (es : List Ev) (f rows : List Int) : (pageL es f rows).length = 12 := by rw [pageL, pgK_len, sitS_len]
theorem pageB_len (dss : List (List Dd)) (f rows : List Int) : (pageB dss f rows).length = 12 := by
  unfold pageB
  split
  · exact pageL_len _ _ _
  · simp
theorem seat_get {rows : List Int} (hn : rows.Nodup) (hr : ∀ i, i < rows.length → 0 ≤ rows.getD i 0 ∧ rows.getD i 0 < 12) : ∀ (k i : Nat), k ≤ rows.length → i < k → (sitS rows k).getD (rows.getD i 0).toNat 0 = (i : Int)
  | 0, i, _, h => by omega
  | k + 1, i, hk, h => by
    have r1 := hr k (by omega)
    have r2 := hr i (by omega)
    rw [sitS, getD_set _ _ _ _ (by rw [sitS_len]; omega)]
    by_cases e : i = k
    · subst e; rw [if_pos rfl]
    · rw [if_neg (fun e2 => e (nodup_get hn (by omega) (by omega) (by omega)))]
      exact seat_get hn hr k i (by omega) (by omega)
theorem pg_other {rs f s : List Int} {a : Nat} (hs : s.length = 12) : ∀ k : Nat, (∀ i, i < k → (rs.getD i 0).toNat < 12 ∧ (rs.getD i 0).toNat ≠ a) → (pgK rs f s k).getD a 0 = s.getD a 0
  | 0, _ => rfl
  | k + 1, h => by
    rw [pgK, getD_set _ _ _ _ (by rw [pgK_len, hs]; exact (h k (by omega)).1), if_neg (h k (by omega)).2]
    exact pg_other hs k (fun i hi => h i (by omega))
theorem pg_read {rs f s : List Int} (hs : s.length = 12) (hn : rs.Nodup) (hr : ∀ i, i < rs.length → 0 ≤ rs.getD i 0 ∧ rs.getD i 0 < 12) (hf : ∀ i j, i < rs.length → j < rs.length → (rs.getD i 0).toNat ≠ (f.getD j 0).toNat) : ∀ (k i : Nat), k ≤ rs.length → i < k → (pgK rs f s k).getD (rs.getD i 0).toNat 0 = s.getD (f.getD i 0).toNat 0
  | 0, i, _, h => by omega
  | k + 1, i, hk, h => by
    have r1 := hr k (by omega)
    have r2 := hr i (by omega)
    rw [pgK, getD_set _ _ _ _ (by rw [pgK_len, hs]; omega)]
    by_cases e : i = k
    · subst e
      rw [if_pos rfl]
      exact pg_other hs i (fun j hj => ⟨by have := hr j (by omega); omega, hf j i (by omega) (by omega)⟩)
    · rw [if_neg (fun e2 => e (nodup_get hn (by omega) (by omega) (by omega)))]
      exact pg_read hs hn hr hf k i (by omega) (by omega)
theorem idx_all {es : List Ev} (hx : es.length ≤ 12) {t : Ev → Bool} {x : Int} (h : x ∈ idxB t es) : (0 ≤ x ∧ x < (es.length : Int)) ∧ t (es.getD x.toNat zE) = true := by
  unfold idxB at h
  rw [if_pos hx] at h
  exact ⟨idxK_lt _ _ _ _ h, idxK_mem _ _ _ _ h⟩
theorem idx_nodup {es : List Ev} (hx : es.length ≤ 12) (t : Ev → Bool) : (idxB t es).Nodup := by
  unfold idxB
  rw [if_pos hx]
  exact rises_nodup _ (idxK_rises t _ _)
theorem idx_has {es : List Ev} (hx : es.length ≤ 12) {t : Ev → Bool} {i : Nat} (hi : i < es.length) (h : t (es.getD i zE) = true) : (i : Int) ∈ idxB t es := by
  unfold idxB
  rw [if_pos hx]
  exact idxK_has _ _ h _ hi
theorem get_mem {l : List Int} {i : Nat} (h : i < l.length) : l.getD i 0 ∈ l := by
  rw [List.getD_eq_getElem?_getD, List.getElem?_eq_getElem h]
  exact List.getElem_mem h
theorem mem_get {l : List Int} {x : Int} (h : x ∈ l) : ∃ i, i < l.length ∧ l.getD i 0 = x := by
  obtain ⟨k, hk, ek⟩ := List.getElem_of_mem h
  exact ⟨k, hk, by rw [List.getD_eq_getElem?_getD, List.getElem?_eq_getElem hk]; exact ek⟩
/-- What a right tale's writes and reads are. -/
theorem page_use {dss : List (List Dd)} {f rows : List Int} (h : taleB dss f rows = true) : (eventsB dss).length ≤ 12 ∧ (idxB rdE (eventsB dss)).length = f.length ∧ f.length ≤ 12 ∧ rows.length ≤ 36 ∧
    (∀ i, i < rows.length → (pageL (eventsB dss) f rows).getD (rows.getD i 0).toNat 0 = (i : Int)) ∧
    (∀ i, i < f.length → ∃ q, q < rows.length ∧ rows.getD q 0 = f.getD i 0 ∧ (pageL (eventsB dss) f rows).getD ((idxB rdE (eventsB dss)).getD i 0).toNat 0 = (q : Int)) ∧
    (∀ i, i < rows.length → 0 ≤ rows.getD i 0 ∧ rows.getD i 0 < ((eventsB dss).length : Int)) ∧
    (∀ i, i < f.length → (0 ≤ f.getD i 0 ∧ f.getD i 0 < ((eventsB dss).length : Int)) ∧ (0 ≤ (idxB rdE (eventsB dss)).getD i 0 ∧ (idxB rdE (eventsB dss)).getD i 0 < ((eventsB dss).length : Int)) ∧ plE (eventsB dss) (f.getD i 0) = plE (eventsB dss) ((idxB rdE (eventsB dss)).getD i 0)) ∧
    (∀ i, i < (eventsB dss).length → ((eventsB dss).getD i zE).2.2.1 = false → ∃ q, q < rows.length ∧ rows.getD q 0 = (i : Int)) := by
  obtain ⟨hb, hs, hr⟩ := tale_use h
  have hx := eventsB_12 dss
  have hall : ∀ i, i < (eventsB dss).length → ((eventsB dss).getD i zE).2.2.1 = false → ∃ q, q < rows.length ∧ rows.getD q 0 = (i : Int) := fun i hi hrd => by
    have plin : 0 ≤ ((eventsB dss).getD i zE).2.2.2.1 ∧ ((eventsB dss).getD i zE).2.2.2.1 ≤ 2 := by
      have := place_in hb i (by rw [eventsB, if_pos hb] at hi; exact hi)
      rw [eventsB, if_pos hb]
      exact this
    obtain ⟨p, hp⟩ := Int.eq_ofNat_of_zero_le plin.1
    have hmem : (i : Int) ∈ plcW (eventsB dss) p := idx_has hx hi (by unfold toE; rw [hrd, hp]; simp)
    refine mem_get ((rows_perm hx hr).mem_iff.1 ?_)
    unfold allW
    have : p = 0 ∨ p = 1 ∨ p = 2 := by omega
    rcases this with rfl | rfl | rfl
    · exact List.mem_append.2 (.inl (List.mem_append.2 (.inl hmem)))
    · exact List.mem_append.2 (.inl (List.mem_append.2 (.inr hmem)))
    · exact List.mem_append.2 (.inr hmem)
  obtain ⟨rn, r36, ru⟩ := rows_use hx hr
  have hwr : ∀ i, i < rows.length → ((eventsB dss).getD (rows.getD i 0).toNat zE).2.2.1 = false := fun i hi => by
    have hm := (rows_perm hx hr).mem_iff.2 (get_mem hi)
    have fin : ∀ p, rows.getD i 0 ∈ plcW (eventsB dss) p → ((eventsB dss).getD (rows.getD i 0).toNat zE).2.2.1 = false := fun p hp => by
      have := (idx_all hx hp).2
      unfold toE at this
      simp only [Bool.and_eq_true, Bool.not_eq_true'] at this
      exact this.1
    unfold allW at hm
    rcases List.mem_append.1 hm with hm | hm
    · rcases List.mem_append.1 hm with hm | hm
      · exact fin _ hm
      · exact fin _ hm
    · exact fin _ hm
  obtain ⟨sl, su⟩ := src_use hx hs
  have hf12 : f.length ≤ 12 := by
    rw [← sl]
    unfold idxB
    rw [if_pos hx]
    have := idxK_len rdE (eventsB dss) (eventsB dss).length
    omega
  have fw : ∀ i, i < f.length → ((eventsB dss).getD (f.getD i 0).toNat zE).2.2.1 = false := fun i hi => by
    have hs2 := hs
    unfold srcB at hs2
    rw [Bool.and_eq_true, decide_eq_true_eq] at hs2
    have hc : (chcL (eventsB dss)).length = (idxB rdE (eventsB dss)).length := chcK_len _ _ _
    have h3 := (srcK_iff (chcL (eventsB dss)).length).1 hs2.2 i (by omega)
    unfold chcL at h3
    rw [chcK_get _ _ _ _ (by omega)] at h3
    have := (idx_all hx (isB_mem h3)).2
    unfold toE at this
    simp only [Bool.and_eq_true, Bool.not_eq_true'] at this
    exact this.1
  have rd : ∀ i, i < f.length → (0 ≤ (idxB rdE (eventsB dss)).getD i 0 ∧ (idxB rdE (eventsB dss)).getD i 0 < ((eventsB dss).length : Int)) ∧ ((eventsB dss).getD ((idxB rdE (eventsB dss)).getD i 0).toNat zE).2.2.1 = true := fun i hi => idx_all hx (get_mem (by omega))
  have r12 : ∀ i, i < rows.length → 0 ≤ rows.getD i 0 ∧ rows.getD i 0 < 12 := fun i hi => by have := ru i hi; omega
  refine ⟨hx, sl, hf12, ?_, fun i hi => ?_, fun i hi => ?_, ru, fun i hi => ⟨(su i (by omega)).1, (rd i hi).1, (su i (by omega)).2⟩, hall⟩
  · exact r36
  · unfold pageL
    rw [pg_other (sitS_len _ _) _ (fun j hj => ⟨by have := (rd j (by omega)).1; omega, fun e => by have a := (rd j (by omega)).2; have b := hwr i hi; rw [e, b] at a; cases a⟩)]
    exact seat_get rn r12 _ i (Nat.le_refl _) hi
  · obtain ⟨q, hq, eq⟩ := hall (f.getD i 0).toNat (by have := (su i (by omega)).1; omega) (fw i hi)
    have eq' : rows.getD q 0 = f.getD i 0 := by have := (su i (by omega)).1; omega
    refine ⟨q, hq, eq', ?_⟩
    unfold pageL
    rw [pg_read (sitS_len _ _) (idx_nodup hx _) (fun j hj => by have := (rd j (by omega)).1; omega) (fun a b ha hb e => by have x := (rd a (by omega)).2; have y := fw b (by omega); rw [e, y] at x; cases x) _ i (Nat.le_refl _) (by omega), ← eq']
    exact seat_get rn r12 _ q (Nat.le_refl _) hq
/-- The page of a tale is never blank: at most one of the first two has seat 0. -/
theorem page_some {dss : List (List Dd)} {f rows : List Int} (h : taleB dss f rows = true) : pageL (eventsB dss) f rows ≠ List.replicate 12 0 := fun e => by
  obtain ⟨hb, hs, hr⟩ := tale_use h
  obtain ⟨hx, -, -, -, pw, -, -, -, -⟩ := page_use h
  have z : ∀ p : Nat, p < 3 → ∃ q, q < rows.length ∧ rows.getD q 0 = (p : Int) := fun p hp => by
    obtain ⟨f1, f2⟩ := plcW_first hb p hp
    have hm : (p : Int) ∈ plcW (eventsB dss) p := by rw [← f2]; exact get_mem f1
    refine mem_get ((rows_perm hx hr).mem_iff.1 ?_)
    unfold allW
    have : p = 0 ∨ p = 1 ∨ p = 2 := by omega
    rcases this with rfl | rfl | rfl
    · exact List.mem_append.2 (.inl (List.mem_append.2 (.inl hm)))
    · exact List.mem_append.2 (.inl (List.mem_append.2 (.inr hm)))
    · exact List.mem_append.2 (.inr hm)
  have zero : ∀ a : Nat, (List.replicate 12 (0 : Int)).getD a 0 = 0 := fun a => by
    rw [List.getD_eq_getElem?_getD, List.getElem?_replicate]
    split <;> rfl
  obtain ⟨a, ha, ea⟩ := z 0 (by omega)
  obtain ⟨b, hb2, eb⟩ := z 1 (by omega)
  have pa := pw a ha
  have pb := pw b hb2
  rw [e, zero] at pa pb
  have : a = b := by omega
  subst this
  omega
def blankB (p : List Int) : Bool := decide (p = List.replicate 12 0)
theorem page_blank (dss : List (List Dd)) (f rows : List Int) : blankB (pageB dss f rows) = !taleB dss f rows := by
  unfold blankB pageB
  cases h : taleB dss f rows with
  | false => simp
  | true => rw [if_pos rfl, decide_eq_false (page_some h)]; rfl
/-- AgainstWeb's lines as the program draws them. -/
def agI (p : List Int) (r : Nat) (ws st : List Int) : Nat → List Int
  | 0 => st
  | j + 1 => if decide (p.getD r 0 < p.getD (ws.getD j 0).toNat 0) = true then (agI p r ws st j).set r (gAdd ((agI p r ws st j).getD r 0) (ws.getD j 0)) else agI p r ws st j
def agO (es : List Ev) (p rs : List Int) : Nat → List Int
  | 0 => List.replicate es.length 0
  | k + 1 => agI p (rs.getD k 0).toNat (idxB (toE (plE es (rs.getD k 0))) es) (agO es p rs k) (idxB (toE (plE es (rs.getD k 0))) es).length
theorem web_agI {p ws st : List Int} {n r : Nat} (hw : ∀ j, j < ws.length → 0 ≤ ws.getD j 0 ∧ ws.getD j 0 < (n : Int)) (hr : r < n) (hst : Web n st) : ∀ m : Nat, m ≤ ws.length →
    Web n (agI p r ws st m) ∧ ∀ a b : Nat, a < n → (line (agI p r ws st m) a b = true ↔ line st a b = true ∨ (a = r ∧ ∃ q, q < m ∧ p.getD r 0 < p.getD b 0 ∧ ws.getD q 0 = (b : Int)))
  | 0, _ => ⟨hst, fun a b _ => by simp [agI]⟩
  | m + 1, hm => by
    obtain ⟨h1, h2⟩ := web_agI (p := p) hw hr hst m (by omega)
    obtain ⟨b0, hb0⟩ := Int.eq_ofNat_of_zero_le (hw m (by omega)).1
    have hb : b0 < n := by have := (hw m (by omega)).2; omega
    by_cases hp : p.getD r 0 < p.getD b0 0
    · have e0 : agI p r ws st (m + 1) = (agI p r ws st m).set r (gAdd ((agI p r ws st m).getD r 0) (b0 : Int)) := by rw [agI, hb0, Int.toNat_natCast, if_pos (decide_eq_true hp)]
      rw [e0]
      have hadd := ok_add (h1.2.2 r hr) hb
      refine ⟨h1.set hadd.1, fun a b haa => ?_⟩
      have e1 := h2 a b haa
      unfold line at e1 ⊢
      rw [getD_set _ _ _ _ (by rw [h1.2.1]; exact hr)]
      by_cases e : r = a
      · subst e
        simp only [if_true]
        rw [hadd.2 b, Bool.or_eq_true, e1, decide_eq_true_eq]
        constructor
        · rintro ((h | ⟨-, q, hq, r1, r2⟩) | h)
          · exact .inl h
          · exact .inr ⟨trivial, q, by omega, r1, r2⟩
          · subst h; exact .inr ⟨trivial, m, by omega, hp, hb0⟩
        · rintro (h | ⟨-, q, hq, r1, r2⟩)
          · exact .inl (.inl h)
          · by_cases eq : q = m
            · subst eq
              right
              rw [hb0] at r2
              omega
            · exact .inl (.inr ⟨rfl, q, by omega, r1, r2⟩)
      · simp only [e, if_false]
        rw [e1]
        constructor
        · rintro (h | ⟨h, _⟩)
          · exact .inl h
          · exact absurd h.symm e
        · rintro (h | ⟨h, _⟩)
          · exact .inl h
          · exact absurd h.symm e
    · have e0 : agI p r ws st (m + 1) = agI p r ws st m := by rw [agI, hb0, Int.toNat_natCast, if_neg (by simpa using hp)]
      rw [e0]
      refine ⟨h1, fun a b ha => ?_⟩
      rw [h2 a b ha]
      constructor
      · rintro (h | ⟨h, q, hq, r⟩)
        · exact .inl h
        · exact .inr ⟨h, q, by omega, r⟩
      · rintro (h | ⟨h, q, hq, r1, r2⟩)
        · exact .inl h
        · by_cases e : q = m
          · subst e
            rw [hb0] at r2
            exfalso
            obtain rfl : b0 = b := by omega
            exact hp r1
          · exact .inr ⟨h, q, by omega, r1, r2⟩
theorem web_agO {es : List Ev} {p rs : List Int} (hx : es.length ≤ 12) (hr : ∀ j, j < rs.length → 0 ≤ rs.getD j 0 ∧ rs.getD j 0 < (es.length : Int)) : ∀ m : Nat, m ≤ rs.length →
    Web es.length (agO es p rs m) ∧ ∀ a b : Nat, a < es.length → (line (agO es p rs m) a b = true ↔ ∃ i, i < m ∧ rs.getD i 0 = (a : Int) ∧ p.getD a 0 < p.getD b 0 ∧ (b : Int) ∈ idxB (toE (plE es (a : Int))) es)
  | 0, _ => ⟨Web.zero hx, fun a b _ => by unfold agO; rw [line_zero]; simp⟩
  | m + 1, hm => by
    obtain ⟨h1, h2⟩ := web_agO (p := p) hx hr m (by omega)
    obtain ⟨a0, ha0⟩ := Int.eq_ofNat_of_zero_le (hr m (by omega)).1
    have hal : a0 < es.length := by have := (hr m (by omega)).2; omega
    obtain ⟨g1, g2⟩ := web_agI (p := p) (ws := idxB (toE (plE es (a0 : Int))) es) (n := es.length) (r := a0) (fun j hj => (idx_all hx (get_mem hj)).1) hal h1 _ (Nat.le_refl _)
    rw [agO, ha0, Int.toNat_natCast]
    refine ⟨g1, fun a b ha => ?_⟩
    rw [g2 a b ha, h2 a b ha]
    constructor
    · rintro (⟨i, hi, r⟩ | ⟨rfl, q, hq, r1, r2⟩)
      · exact ⟨i, by omega, r⟩
      · exact ⟨m, by omega, ha0, r1, by rw [← r2]; exact get_mem hq⟩
    · rintro ⟨i, hi, e1, r1, r2⟩
      by_cases e : i = m
      · subst e
        have : a0 = a := by omega
        subst this
        obtain ⟨q, hq, eq⟩ := mem_get r2
        exact .inr ⟨rfl, q, hq, r1, eq⟩
      · exact .inl ⟨i, by omega, e1, r1, r2⟩
theorem ag_same {dss : List (List Dd)} {f rows : List Int} (h : taleB dss f rows = true) : agO (eventsB dss) (pageL (eventsB dss) f rows) (idxB rdE (eventsB dss)) (idxB rdE (eventsB dss)).length = agB dss f rows := by
  obtain ⟨hb, hs, hr⟩ := tale_use h
  obtain ⟨hx, sl, hf12, hr12, pw, pr, ru, fu, hall⟩ := page_use h
  have rr : ∀ i, i < (idxB rdE (eventsB dss)).length → 0 ≤ (idxB rdE (eventsB dss)).getD i 0 ∧ (idxB rdE (eventsB dss)).getD i 0 < ((eventsB dss).length : Int) := fun i hi => (fu i (by omega)).2.1
  have e3 : agB dss f rows = agK (eventsB dss).length (idxB rdE (eventsB dss)) f (rwL (eventsB dss) rows) (idxB rdE (eventsB dss)).length := by rw [agB, if_pos h]; rfl
  have wr := web_rwAll hx ru rows.length (Nat.le_refl _)
  have wa := web_ag hx (idx_nodup hx _) wr.1 (idxB rdE (eventsB dss)).length (Nat.le_refl _) rr (fun i hi => (fu i (by omega)).1)
  have wo := web_agO (p := pageL (eventsB dss) f rows) hx rr _ (Nat.le_refl _)
  rw [e3]
  refine Web.ext wo.1 wa.1 (fun a j ha hj => ?_)
  rw [Bool.eq_iff_iff, wo.2 a j ha]
  have e4 := wa.2 a j ha
  rw [show rwL (eventsB dss) rows = rwAll (eventsB dss) rows rows.length from rfl, e4]
  constructor
  · rintro ⟨i, hi, r1, r2, r3⟩
    refine ⟨i, hi, r1, ?_⟩
    obtain ⟨q, hq, eq, pq⟩ := pr i (by omega)
    have fa := fu i (by omega)
    rw [r1, Int.toNat_natCast] at pq
    have t := (idx_all hx r3).2
    rw [Int.toNat_natCast] at t
    unfold toE at t
    simp only [Bool.and_eq_true, Bool.not_eq_true', beq_iff_eq] at t
    obtain ⟨k, hk, ek⟩ := hall j hj t.1
    have pk := pw k hk
    rw [ek, Int.toNat_natCast] at pk
    rw [wr.2 _ _ (by omega)]
    refine ⟨q, k, hq, hk, ?_, by omega, ek⟩
    unfold rwP
    rw [pq, pk] at r2
    rw [decide_eq_true (show q < k by omega), eq, fa.2.2, r1, ek]
    show (true && _) = true
    rw [Bool.true_and, beq_iff_eq, ← t.2]
    unfold plE
    rw [Int.toNat_natCast]
  · rintro ⟨i, hi, r1, r2⟩
    refine ⟨i, hi, r1, ?_⟩
    have fa := fu i (by omega)
    obtain ⟨q, hq, eq, pq⟩ := pr i (by omega)
    rw [r1, Int.toNat_natCast] at pq
    rw [wr.2 _ _ (by omega)] at r2
    obtain ⟨i', k, hi', hk, r3, r4, r5⟩ := r2
    have pi := pw i' hi'
    have pk := pw k hk
    have pq' := pw q hq
    rw [r5, Int.toNat_natCast] at pk
    have e5 : rows.getD i' 0 = rows.getD q 0 := by omega
    rw [e5, pq'] at pi
    obtain rfl : q = i' := by omega
    unfold rwP at r3
    rw [Bool.and_eq_true, decide_eq_true_eq, beq_iff_eq] at r3
    refine ⟨by rw [pq, pk]; omega, idx_has hx hj ?_⟩
    have hm := (rows_perm hx hr).mem_iff.2 (get_mem hk)
    have fin : ∀ p, rows.getD k 0 ∈ plcW (eventsB dss) p → ((eventsB dss).getD (rows.getD k 0).toNat zE).2.2.1 = false := fun p hp => by
      have := (idx_all hx hp).2
      unfold toE at this
      simp only [Bool.and_eq_true, Bool.not_eq_true'] at this
      exact this.1
    have hw : ((eventsB dss).getD (rows.getD k 0).toNat zE).2.2.1 = false := by
      unfold allW at hm
      rcases List.mem_append.1 hm with hm | hm
      · rcases List.mem_append.1 hm with hm | hm
        · exact fin _ hm
        · exact fin _ hm
      · exact fin _ hm
    rw [r5, Int.toNat_natCast] at hw
    have h3 := r3.2
    rw [eq, fa.2.2, r1, r5] at h3
    unfold toE
    rw [hw, h3]
    unfold plE
    rw [Int.toNat_natCast]
    simp
end Go.Proofs.YtkbkdlaknmgjpaaGreat

/- An array of twelve numbers in a block of its own. -/
namespace Go.Proofs.YtkbkdlaknmgjpaaGreat
open Go.ChangeShapes Go.WideShapes Go.ChangeAt Go.RowKit

abbrev pgC (p : List Int) : Array Value := (p.map (Value.int .i64)).toArray
abbrev pgV (p : List Int) : Value := .agg (pgC p)
def Pg (w : World) (g : Nat) (p : List Int) : Prop := w.heap[g]? = some (.cells (pgC p) 108 (0, 0))
theorem Pg.lt {w : World} {g : Nat} {p : List Int} (h : Pg w g p) : g < w.heap.size := (Array.getElem?_eq_some_iff.1 h).1
theorem Pg.row {w : World} {g : Nat} {p : List Int} (h : Pg w g p) : RowAt w g p := ⟨_, _, h, by show List.take p.length (p.map _) = _; exact List.take_of_length_le (by simp)⟩
theorem Pg.cell {w : World} {g : Nat} {p : List Int} (h : Pg w g p) {j : Nat} (hj : j < p.length) : w.cell? ⟨g, j, none⟩ = some (.int .i64 (p.getD j 0)) := h.row.cell hj
theorem Pg.free {w : World} {g : Nat} {p : List Int} (h : Pg w g p) (j : Nat) : w.frozen? ⟨g, j, none⟩ = false := frozen_of_row w g j _ _ h
theorem Pg.kept {w w' : World} {g : Nat} {p : List Int} {row : Option Nat} (h : Pg w g p) (hg : w.grownBy w' row) (hne : row ≠ some g) : Pg w' g p := by
  unfold Pg
  rw [hg.block g h.lt (fun e => hne e.symm)]
  exact h
theorem Pg.keep {w w' : World} {g : Nat} {p : List Int} (h : Pg w g p) (k : Keep w w') : Pg w' g p := h.kept k.grownBy (by simp)
theorem Pg.set {w : World} {g : Nat} {p : List Int} (h : Pg w g p) (j : Nat) (x : Int) : Pg (w.setCell ⟨g, j, none⟩ (.int .i64 x)) g (p.set j x) := by
  unfold Pg at h ⊢
  rw [heap_setCell_same w g j _ _ _ h]
  congr 2
  apply Array.ext'
  rw [Array.toList_setIfInBounds]
  simp [List.map_set]
theorem Pg.new {w : World} (p : List Int) : Pg (w.alloc (.cells (pgC p) 108 (0, 0))) w.heap.size p := heap_alloc_new w _
theorem pg_size {p : List Int} (h : p.length = 12) : (pgC p).size = 12 := by simp [pgC, h]
theorem pg_one (p : List Int) : (pgC p).all (·.oneCell') = true := by
  rw [Array.all_eq_true_iff_forall_mem]
  intro x hx
  simp only [pgC, List.mem_toArray, List.mem_map] at hx
  obtain ⟨a, _, rfl⟩ := hx
  rfl
theorem heap_setRow_same (w : World) (g : Nat) (t : TypeId) (old cs : Array Value) (hg : w.heap[g]? = some (.cells old t (0, 0))) : (w.setRow g cs).heap[g]? = some (.cells cs t (0, 0)) := by
  unfold World.setRow
  have hl := (Array.getElem?_eq_some_iff.1 hg).1
  rw [Array.getElem?_modify]
  simp [hg]
theorem grown_setRow (w : World) (g : Nat) (cs : Array Value) : w.grownBy (w.setRow g cs) (some g) :=
  ⟨rfl, rfl, rfl, by simp, fun k _ hk => by
    unfold World.setRow
    have hk' : k ≠ g := fun e => hk (by rw [e])
    rw [Array.getElem?_modify]
    simp [hk'.symm]⟩
theorem page_info : (Tryz.prog.info? 108).map (·.size) = some 12 := by kernel_rfl
end Go.Proofs.YtkbkdlaknmgjpaaGreat

/- A tale in a block of the call's own, while it is filled. -/
namespace Go.Proofs.YtkbkdlaknmgjpaaGreat
open Go.ChangeShapes Go.WideShapes Go.ChangeAt Go.RowKit

abbrev nilV : Value := .slice none 0 0
abbrev taleC (x y : Value) : Obj := .cells #[x, y] 27
/-- Block D of the world wr is a tale; all else that was in w1 stands as it stood. -/
def StT (w1 wr : World) (D : Nat) (x y : Value) : Prop := wr.heap[D]? = some (taleC x y) ∧ w1.grownBy wr (some D)
theorem StT.start {w1 : World} (x y : Value) : StT w1 (w1.alloc (taleC x y)) w1.heap.size x y :=
  ⟨heap_alloc_new w1 _, World.grownBy_alloc w1 _ (some w1.heap.size)⟩
theorem StT.size {w1 wr : World} {D : Nat} {x y : Value} (h : StT w1 wr D x y) : D < wr.heap.size := (Array.getElem?_eq_some_iff.1 h.1).1
theorem StT.keep {w1 wr wr' : World} {D : Nat} {x y : Value} (h : StT w1 wr D x y) (hk : Keep wr wr') : StT w1 wr' D x y :=
  ⟨(Below.block hk D h.size).trans h.1, grown_trans h.2 ⟨Below.os hk, Below.tape hk, Below.output hk, Below.size hk, fun i hi _ => Below.block hk i hi⟩⟩
theorem StT.cells {w1 wr : World} {D : Nat} {x y : Value} (h : StT w1 wr D x y) :
    wr.cell? ⟨D, 0, none⟩ = some x ∧ wr.cell? ⟨D, 1, none⟩ = some y :=
  ⟨cell_of_row wr D 0 _ _ (0, 0) h.1, cell_of_row wr D 1 _ _ (0, 0) h.1⟩
theorem StT.free {w1 wr : World} {D : Nat} {x y : Value} (h : StT w1 wr D x y) (i : Nat) : wr.frozen? ⟨D, i, none⟩ = false := frozen_of_row wr D i _ _ h.1
theorem StT.set0 {w1 wr : World} {D : Nat} {x y : Value} (h : StT w1 wr D x y) (z : Value) : StT w1 (wr.setCell ⟨D, 0, none⟩ z) D z y :=
  ⟨by rw [heap_setCell_same wr D 0 _ _ _ h.1]; rfl, grown_trans h.2 ⟨rfl, rfl, rfl, by simp, fun i _ hi => heap_setCell_other wr ⟨D, 0, none⟩ i _ (fun e => hi (by simp [e]))⟩⟩
theorem StT.set1 {w1 wr : World} {D : Nat} {x y : Value} (h : StT w1 wr D x y) (z : Value) : StT w1 (wr.setCell ⟨D, 1, none⟩ z) D x z :=
  ⟨by rw [heap_setCell_same wr D 1 _ _ _ h.1]; rfl, grown_trans h.2 ⟨rfl, rfl, rfl, by simp, fun i _ hi => heap_setCell_other wr ⟨D, 1, none⟩ i _ (fun e => hi (by simp [e]))⟩⟩
/-- What was there ahead of the tale's block stands. -/
theorem StT.keep1 {w1 wr : World} {x y : Value} (h : StT w1 wr w1.heap.size x y) : Keep w1 wr :=
  (Keep.refl w1).grown h.2 (fun k hk => by simp at hk; omega)
theorem grown_setT (w : World) (g j : Nat) (v : Value) : w.grownBy (w.setCell ⟨g, j, none⟩ v) (some g) :=
  ⟨rfl, rfl, rfl, by simp, fun i _ hi => heap_setCell_other w ⟨g, j, none⟩ i _ (fun e => hi (by simp [e]))⟩
/-- A list whose block is another than the tale's stands while the tale is filled. -/
theorem Own.other {wr wr' : World} {base D : Nat} {v : Value} {zs : List Int} (h : Own wr base v zs) (hb : D < base) (hg : wr.grownBy wr' (some D)) : Own wr' base v zs :=
  h.kept hg (by
    cases hu : v.ownBlock with
    | none => exact .inl rfl
    | some k => exact .inr (fun e => by have := h.ge k hu; have := Option.some.inj e; omega))
theorem results_tmp_row {P : Program} {fn : Func} {p u : Tmp} {ty : TypeId} (h : fn.results = #[.tmp u, .cell p ty]) (tmps : Array Value) (w : World) (g : Nat) (t : TypeId) (cs : Array Value) (fr : Nat × Nat) (d : TypeDesc) (v : Value)
    (hp : tmps.getD p undef = .pointer (some ⟨g, 0, none⟩)) (hg : w.heap[g]? = some (.cells cs t fr)) (hv : tmps.getD u undef = v)
    (hu : P.underlying ty = some d) (hd : (match d with | .struct _ | .array _ _ => true | _ => false) = true) (hi : (P.info? ty).map (·.size) = some cs.size) :
    (results fn tmps).run P w = .ok (.tuple #[v, .agg cs]) w := by
  have hp' : tmps[p]?.getD undef = .pointer (some ⟨g, 0, none⟩) := by simpa using hp
  have hv' : tmps[u]?.getD undef = v := by simpa using hv
  simp [results, h, hp', hv', asAddr, run_loadVar_row w g t ty cs fr d hg hu hd hi]
end Go.Proofs.YtkbkdlaknmgjpaaGreat

/- Contract of the program's pageOf: the page of a tale. -/
namespace Go.Proofs.YtkbkdlaknmgjpaaGreat
open Go.ChangeShapes Go.WideShapes Go.ChangeAt Go.RowKit

theorem pg_zero : pgC (List.replicate 12 0) = #[.int .i64 0, .int .i64 0, .int .i64 0, .int .i64 0, .int .i64 0, .int .i64 0, .int .i64 0, .int .i64 0, .int .i64 0, .int .i64 0, .int .i64 0, .int .i64 0] := rfl
set_option maxRecDepth 100000 in
set_option maxHeartbeats 4000000 in
theorem pageOf_any (w : World) (v vF vR : Value) (dss : List (List Dd)) (f rows : List Int) (h : RdW w v dss) (hf : Rd w vF f) (hr : Rd w vR rows) (hcap : rows.length ≤ capZ vR) (hx : dss.length ≤ 1048576) (hm : ∀ i, i < dss.length → (dss.getD i []).length ≤ 1048576) (hfl : f.length ≤ 1048576) (hrl : rows.length ≤ 1048576) :
    Calls Tryz.prog 92 #[v, .agg #[vF, vR]] w fun e w' => e = .returned (pgV (pageB dss f rows)) ∧ Keep w w' := by
  have CS := fun (W : World) (kW : Keep w W) => implSourceOk_any W v vF dss f (h.keep kW) (hf.keep kW) hx hm hfl
  have CR := fun (W : World) (kW : Keep w W) => implRowsOk_any W v vR dss rows (h.keep kW) (hr.keep kW) hcap hx hm hrl
  have HT : Hid (taleB dss f rows = (sourceB dss f && rowsB dss rows)) := Lib.hid rfl
  have C0 : (pgC (List.replicate 12 0)).size = 12 := rfl
  obtain ⟨aF, cF, rfl, -⟩ := id hf
  obtain ⟨aR, cR, rfl, -⟩ := id hr
  obtain ⟨W3, hW3⟩ : ∃ W3, W3 = (((w.alloc (.cells #[.slice aF f.length cF, .slice aR rows.length cR] 27)).alloc (.cells (pgC (List.replicate 12 0)) 108)).alloc (.cells (pgC (List.replicate 12 0)) 108)) := ⟨_, rfl⟩
  have K0 : Keep w W3 := by rw [hW3]; exact (((Keep.refl w).alloc _).alloc _).alloc _
  have z0 : W3.heap.size = w.heap.size + 3 := by rw [hW3]; simp
  have c0 : W3.cell? ⟨w.heap.size, 0, none⟩ = some (.slice aF f.length cF) := by rw [hW3]; exact box_cell (((Keep.refl _).alloc _).alloc _) 0
  have c1 : W3.cell? ⟨w.heap.size, 1, none⟩ = some (.slice aR rows.length cR) := by rw [hW3]; exact box_cell (((Keep.refl _).alloc _).alloc _) 1
  have p1 : Pg W3 (w.heap.size + 1) (List.replicate 12 0) := by
    have := (Pg.new (w := w.alloc (.cells #[.slice aF f.length cF, .slice aR rows.length cR] 27)) (List.replicate 12 0)).keep ((Keep.refl _).alloc (.cells (pgC (List.replicate 12 0)) 108))
    rw [heap_size] at this
    rw [hW3]; exact this
  have p2 : Pg W3 (w.heap.size + 1 + 1) (List.replicate 12 0) := by
    have := (Pg.new (w := (w.alloc (.cells #[.slice aF f.length cF, .slice aR rows.length cR] 27)).alloc (.cells (pgC (List.replicate 12 0)) 108)) (List.replicate 12 0))
    rw [heap_size, heap_size] at this
    rw [hW3]; exact this
  generalize hS : sourceB dss f = S at CS HT
  generalize hR : rowsB dss rows = R at CR HT
  have HW : Hid (W3 = (((w.alloc (.cells #[.slice aF f.length cF, .slice aR rows.length cR] 27)).alloc (.cells (pgC (List.replicate 12 0)) 108)).alloc (.cells (pgC (List.replicate 12 0)) 108))) := Lib.hid hW3
  have HF : (S && R) = false → ∀ (W : World), Keep W3 W → Hid (Keep w (W.setRow (w.heap.size + 1) (pgC (List.replicate 12 0))) ∧ (W.setRow (w.heap.size + 1) (pgC (List.replicate 12 0))).heap[w.heap.size + 1]? = some (.cells (pgC (List.replicate 12 0)) 108 (0, 0)) ∧ pageB dss f rows = List.replicate 12 0) := fun e W kW => Lib.hid ⟨(K0.trans kW).grown (grown_setRow _ _ _) (fun k hk => by have := Option.some.inj hk; omega), heap_setRow_same _ _ _ _ _ (p1.keep kW), by rw [pageB, HT.out, e]; rfl⟩
  have BT : Hid (W3.heap[w.heap.size]? = some (taleC (.slice aF f.length cF) (.slice aR rows.length cR))) := Lib.hid (by rw [hW3]; exact box_heap (((Keep.refl _).alloc _).alloc _))
  clear hW3
  have B0 := Lib.hid c0
  have B1 := Lib.hid c1
  have P1 := Lib.hid p1
  have P2 := Lib.hid p2
  clear c0 c1 p1 p2
  go_enter Tryz.func92, Tryz.ntmps92
  go_wp2_with fail
  rw [← pg_zero, ← HW.out]
  refine (CS _ K0).mono ?_
  rintro e w1 ⟨rfl, k1⟩
  have c0 := (k1.cell (by omega)).trans B0.out
  have c1 := (k1.cell (by omega)).trans B1.out
  cases S
  · have HF := HF rfl _ k1
    clear c0 c1
    have q1 := P1.out.keep k1
    have q2 := P2.out.keep k1
    unfold Pg at q1 q2
    go_wp2_with (first | refine wpList_load_row rfl 108 _ rfl (w.heap.size + 1 + 1) rfl 108 _ (0, 0) _ q2 Tryz.underlying108 rfl (by rw [C0]; exact page_info) ?_ | refine wpList_store_row rfl 108 _ _ rfl (w.heap.size + 1) _ rfl rfl 108 _ q1 (by rw [C0]; exact page_info) rfl (pg_one _) ?_)
    refine bodyPost_ret (results_row (by rfl) _ _ (w.heap.size + 1) 108 _ (0, 0) _ rfl HF.out.2.1 Tryz.underlying108 rfl (by rw [C0]; exact page_info)) rfl ?_
    exact ⟨by rw [HF.out.2.2], HF.out.1⟩
  · go_wp2_with fail
    refine (CR _ (K0.trans k1)).mono ?_
    rintro e w2 ⟨rfl, k2⟩
    have k12 := k1.trans k2
    replace c0 := (k2.cell (by have := k1.size; omega)).trans c0
    replace c1 := (k2.cell (by have := k1.size; omega)).trans c1
    cases R
    · have HF := HF rfl _ k12
      clear c0 c1
      have q1 := P1.out.keep k12
      have q2 := P2.out.keep k12
      unfold Pg at q1 q2
      go_wp2_with (first | refine wpList_load_row rfl 108 _ rfl (w.heap.size + 1 + 1) rfl 108 _ (0, 0) _ q2 Tryz.underlying108 rfl (by rw [C0]; exact page_info) ?_ | refine wpList_store_row rfl 108 _ _ rfl (w.heap.size + 1) _ rfl rfl 108 _ q1 (by rw [C0]; exact page_info) rfl (pg_one _) ?_)
      refine bodyPost_ret (results_row (by rfl) _ _ (w.heap.size + 1) 108 _ (0, 0) _ rfl HF.out.2.1 Tryz.underlying108 rfl (by rw [C0]; exact page_info)) rfl ?_
      exact ⟨by rw [HF.out.2.2], HF.out.1⟩
    · have hT : taleB dss f rows = true := by rw [HT.out]; rfl
      obtain ⟨hx12, sl, f12, r36, -, -, ru, fu, -⟩ := page_use hT
      have HE : Hid (pageB dss f rows = pgK (idxB rdE (eventsB dss)) f (sitS rows rows.length) (idxB rdE (eventsB dss)).length) := Lib.hid (by rw [pageB, if_pos hT]; rfl)
      have RU := Lib.hid ru
      have FU := Lib.hid fu
      have SL := Lib.hid sl
      clear HF hT ru fu sl CS CR HT HW
      have K2 := K0.trans k12
      have q1 := P1.out.keep k12
      have q2 := P2.out.keep k12
      have z2 := k12.size
      have BT : Hid (w2.heap[w.heap.size]? = some (taleC (.slice aF f.length cF) (.slice aR rows.length cR))) := Lib.hid ((Below.block k12 _ (by omega)).trans BT.out)
      have Q1 := Lib.hid q1
      clear P1 P2 q1 k1 k2 k12
      go_wp2
      clear c0 c1
      go_loopw [26] (fun i wr => ∃ k : Nat, k ≤ rows.length ∧ i = .int .i64 k ∧ Pg wr (w.heap.size + 1 + 1) (sitS rows k) ∧ w2.grownBy wr (some (w.heap.size + 1 + 1))) (fun i _ => rows.length - (intOf i).toNat)
      case atStart => exact ⟨0, Nat.zero_le _, rfl, q2, World.grownBy.refl _ _⟩
      case round =>
        obtain ⟨k, hk, rfl, hp, G⟩ := hrel
        clear q2
        have K3 : Keep w wr := K2.grown G (fun j hj => by have := Option.some.inj hj; omega)
        by_cases hlt : k < rows.length
        · have hrk := hr.keep K3
          obtain ⟨a', c', he', hrk⟩ := hrk
          simp only [Value.slice.injEq, true_and] at he'
          obtain ⟨rfl, rfl⟩ := he'
          rcases hrk with h0 | ⟨bf, off, rfl, hbf, hcf'⟩
          · exfalso; rw [h0] at hlt; simp at hlt
          obtain ⟨rb, hrb⟩ := Int.eq_ofNat_of_zero_le (RU.out k hlt).1
          have hrbl : rb < 12 := by have := (RU.out k hlt).2; omega
          have d1 := hcf' k hlt
          rw [hrb] at d1
          have HN : Hid (sitS rows (k + 1) = (sitS rows k).set rb (k : Int)) := Lib.hid (by rw [sitS, hrb, Int.toNat_natCast])
          have hl : (sitS rows k).length = 12 := sitS_len _ _
          have d2 := hp.cell (j := rb) (by omega)
          have d3 := hp.free rb
          generalize sitS rows k = S0 at hp HN hl d2
          have i1 : (0 : Int) ≤ (k : Int) := Int.natCast_nonneg _
          have i2 : (k : Int) < (rows.length : Int) := by omega
          have j1 : (0 : Int) ≤ (rb : Int) := Int.natCast_nonneg _
          have j2 : (rb : Int) < 12 := by omega
          clear hcf' hl hrb
          go_wp2
          go_roundw
          case rel => exact ⟨k + 1, by omega, by go_num, by rw [HN.out]; exact hp.set rb _, grown_trans G (grown_set _ _ _ _)⟩
          case measure => simp [intOf]; omega
        · obtain rfl : k = rows.length := by omega
          go_wp2_with fail
          refine (implEventsOf_any _ _ _ (h.keep K3) hx hm).mono ?_
          rintro e w4 ⟨v4, rfl, a4, k4⟩
          have bt := (G.block w.heap.size (by omega) (fun e => by have := Option.some.inj e; omega)).trans BT.out
          have q1 := Q1.out.kept G (fun e => by have := Option.some.inj e; omega)
          have zr := G.size
          have re := a4.rd
          go_wp2_with fail
          refine (implReadsOf_any _ _ _ re (by omega)).mono ?_
          rintro e w5 ⟨v5, rfl, o5, k5⟩
          have K5 := (K3.trans k4).trans k5
          have k45 := k4.trans k5
          replace bt := (Below.block k45 _ (by omega)).trans bt
          replace q1 := q1.keep k45
          replace hp := hp.keep k45
          have z4 := k4.size
          have hB : w.heap.size + 1 + 1 < w4.heap.size := by omega
          have z5 := k5.size
          clear re a4 k4 k5 k45 G BT Q1 K3 K2 hr hcap
          generalize eventsB dss = es at *
          generalize idxB rdE es = rs at *
          have HS : Hid (∀ k, (pgK rs f (sitS rows rows.length) k).length = 12) := Lib.hid (fun k => by rw [pgK_len, sitS_len])
          obtain ⟨a5, c5, rfl, -⟩ := o5.rd
          have R12 : rs.length ≤ 12 := by rw [SL.out]; exact f12
          go_wp2
          go_loopw [39] (fun i wr => ∃ k : Nat, k ≤ rs.length ∧ i = .int .i64 k ∧ Pg wr (w.heap.size + 1 + 1) (pgK rs f (sitS rows rows.length) k) ∧ w5.grownBy wr (some (w.heap.size + 1 + 1))) (fun i _ => rs.length - (intOf i).toNat)
          case atStart => exact ⟨0, Nat.zero_le _, rfl, hp, World.grownBy.refl _ _⟩
          case round =>
            clear hp
            obtain ⟨k, hk, rfl, hp, G⟩ := hrel
            have K6 : Keep w wr := K5.grown G (fun j hj => by have := Option.some.inj hj; omega)
            by_cases hlt : k < rs.length
            · have hlf : k < f.length := by rw [← SL.out]; exact hlt
              have hrk := (o5.other hB G).rd
              obtain ⟨a', c', he', hrk⟩ := hrk
              simp only [Value.slice.injEq, true_and] at he'
              obtain ⟨rfl, rfl⟩ := he'
              rcases hrk with h0 | ⟨bf, off, rfl, hbf, hcf'⟩
              · exfalso; rw [h0] at hlt; simp at hlt
              have hfk := hf.keep K6
              obtain ⟨a', c', he', hfk⟩ := hfk
              simp only [Value.slice.injEq, true_and] at he'
              obtain ⟨rfl, rfl⟩ := he'
              rcases hfk with h0 | ⟨bg, oft, rfl, hbg, hcg'⟩
              · exfalso; rw [h0] at hlf; simp at hlf
              have bk := (G.block w.heap.size (by omega) (fun e => by have := Option.some.inj e; omega)).trans bt
              have c0 : wr.cell? ⟨w.heap.size, 0, none⟩ = some _ := cell_of_row _ _ 0 _ _ (0, 0) bk
              obtain ⟨⟨f0, f1⟩, ⟨r0, r1⟩, -⟩ := FU.out k hlf
              obtain ⟨rb, hrb⟩ := Int.eq_ofNat_of_zero_le r0
              obtain ⟨fb, hfb⟩ := Int.eq_ofNat_of_zero_le f0
              have hrbl : rb < 12 := by omega
              have hfbl : fb < 12 := by omega
              have d1 := hcf' k hlt
              rw [hrb] at d1
              have e1 := hcg' k hlf
              rw [hfb] at e1
              have HN : Hid (pgK rs f (sitS rows rows.length) (k + 1) = (pgK rs f (sitS rows rows.length) k).set rb ((pgK rs f (sitS rows rows.length) k).getD fb 0)) := Lib.hid (by rw [pgK, hrb, hfb, Int.toNat_natCast, Int.toNat_natCast])
              have hl := HS.out k
              have d2 := hp.cell (j := rb) (by omega)
              have d3 := hp.free rb
              have d4 := hp.cell (j := fb) (by omega)
              generalize pgK rs f (sitS rows rows.length) k = S0 at hp HN hl d2 d4
              have i1 : (0 : Int) ≤ (k : Int) := Int.natCast_nonneg _
              have i2 : (k : Int) < (rs.length : Int) := by omega
              have i3 : (k : Int) < (f.length : Int) := by omega
              have j1 : (0 : Int) ≤ (rb : Int) := Int.natCast_nonneg _
              have j2 : (rb : Int) < 12 := by omega
              have l1 : (0 : Int) ≤ (fb : Int) := Int.natCast_nonneg _
              have l2 : (fb : Int) < 12 := by omega
              clear hcf' hcg' hl hrb hfb f0 f1 r0 r1 bk bt q1
              go_wp2
              go_roundw
              case rel => exact ⟨k + 1, by omega, by go_num, by rw [HN.out]; exact hp.set rb _, grown_trans G (grown_set _ _ _ _)⟩
              case measure => simp [intOf]; omega
            · obtain rfl : k = rs.length := by omega
              have q3 := q1.kept G (fun e => by have := Option.some.inj e; omega)
              have hl := HS.out rs.length
              rw [← HE.out] at hl hp
              have PS := pg_size hl
              have PI : (Tryz.prog.info? 108).map (·.size) = some (pgC (pageB dss f rows)).size := by rw [PS]; exact page_info
              have HF : Hid (Keep w (wr.setRow (w.heap.size + 1) (pgC (pageB dss f rows))) ∧ (wr.setRow (w.heap.size + 1) (pgC (pageB dss f rows))).heap[w.heap.size + 1]? = some (.cells (pgC (pageB dss f rows)) 108 (0, 0))) := Lib.hid ⟨K6.grown (grown_setRow _ _ _) (fun k hk => by have := Option.some.inj hk; omega), heap_setRow_same _ _ _ _ _ q3⟩
              have HO : Hid ((pgC (List.replicate 12 0)).size = (pgC (pageB dss f rows)).size) := Lib.hid (by rw [PS]; rfl)
              have HI := Lib.hid PI
              have HP := Lib.hid (pg_one (pageB dss f rows))
              clear PI PS hl HE HS bt q1
              unfold Pg at hp q3
              obtain ⟨P, hP⟩ : ∃ P, P = pgC (pageB dss f rows) := ⟨_, rfl⟩
              rw [← hP] at hp HI HF HO HP
              have HQ := Lib.hid hP
              clear hP
              go_wp2_with (first | refine wpList_load_row rfl 108 _ rfl (w.heap.size + 1 + 1) rfl 108 _ (0, 0) _ hp Tryz.underlying108 rfl HI.out ?_ | refine wpList_store_row rfl 108 _ _ rfl (w.heap.size + 1) _ rfl rfl 108 _ q3 HI.out HO.out HP.out ?_)
              refine bodyPost_ret (results_row (by rfl) _ _ (w.heap.size + 1) 108 _ (0, 0) _ rfl HF.out.2 Tryz.underlying108 rfl HI.out) rfl ?_
              exact ⟨by rw [HQ.out], HF.out.1⟩
end Go.Proofs.YtkbkdlaknmgjpaaGreat

/- Contract of the program's page.isBlank: arrays that are compared. -/
namespace Go.Proofs.YtkbkdlaknmgjpaaGreat
open Go.ChangeShapes Go.WideShapes Go.ChangeAt Go.RowKit

theorem eqItems_zero (p : List Int) (hp : p.length = 12) (w : World) : ∀ is : List Nat, (∀ i ∈ is, i < 12) → (Op.eqItems 9999 2 (Tryz.prog.cellsOf 2) (pgC p) (pgC (List.replicate 12 0)) is).run Tryz.prog w = .ok (is.all (fun i => p.getD i 0 == 0)) w
  | [], _ => by simp [Op.eqItems]
  | i :: is, h => by
    have hi : i < 12 := h i (by simp)
    have hc : Tryz.prog.cellsOf 2 = 1 := by kernel_rfl
    have he : Tryz.prog.plainKey 2 = true := by kernel_rfl
    have p1 := run_part_plain (P := Tryz.prog) w (e := 2) he (xs := pgC p) (off := i * 1) (v := .int .i64 (p.getD i 0)) (by
      simp only [pgC, Nat.mul_one, List.getElem?_toArray, List.getElem?_map, List.getD_eq_getElem?_getD]
      rw [List.getElem?_eq_getElem (by omega)]
      rfl)
    have p2 := run_part_plain (P := Tryz.prog) w (e := 2) he (xs := pgC (List.replicate 12 0)) (off := i * 1) (v := .int .i64 0) (by
      simp only [pgC, Nat.mul_one, List.getElem?_toArray, List.getElem?_map]
      rw [List.getElem?_replicate, if_pos hi]
      rfl)
    have p3 := run_equalIn_int (P := Tryz.prog) w 9998 2 .i64 .i64 (p.getD i 0) 0 Tryz.underlying2
    have ih := eqItems_zero p hp w is (fun j hj => h j (by simp [hj]))
    rw [hc] at ih ⊢
    simp only [Op.eqItems, Sem.run_bind, p1, p2, p3, Result.andThen_ok, List.all_cons]
    cases hz : (p.getD i 0 == 0) with
    | false => simp
    | true => simpa using ih
theorem all_blank {p : List Int} (hp : p.length = 12) : (List.range 12).all (fun i => p.getD i 0 == 0) = blankB p := by
  unfold blankB
  rw [Bool.eq_iff_iff, List.all_eq_true, decide_eq_true_eq]
  constructor
  · intro h
    refine list_ext (n := 12) hp (by simp) (fun i hi => ?_)
    have := h i (List.mem_range.2 hi)
    rw [beq_iff_eq] at this
    rw [this, List.getD_eq_getElem?_getD, List.getElem?_replicate, if_pos hi]
    rfl
  · intro h i hi
    rw [h, List.getD_eq_getElem?_getD, List.getElem?_replicate, if_pos (List.mem_range.1 hi)]
    rfl
theorem eqPage (p : List Int) (hp : p.length = 12) (w : World) : (Op.equalIn 10000 108 (pgV p) (pgV (List.replicate 12 0))).run Tryz.prog w = .ok (blankB p) w := by
  have hs : (Tryz.prog.info? 2).isSome = true := by kernel_rfl
  obtain ⟨i, hi⟩ := Option.isSome_iff_exists.1 hs
  rw [show (10000 : Nat) = 9999 + 1 from rfl, run_equalIn_array w 9999 _ _ Tryz.underlying108 hi, eqItems_zero p hp w _ (fun i hi => List.mem_range.1 hi), all_blank hp]
set_option maxRecDepth 100000 in
set_option maxHeartbeats 2000000 in
theorem isBlank_any (w : World) (p : List Int) (hp : p.length = 12) :
    Calls Tryz.prog 93 #[pgV p] w fun e w' => e = .returned (.bool (blankB p)) ∧ Keep w w' := by
  have EQ := eqPage p hp
  have EG : Tryz.prog.eqGuardType Tryz.prog.depth 108 = false := by kernel_rfl
  obtain ⟨a0, a1, a2, a3, a4, a5, a6, a7, a8, a9, a10, a11, rfl⟩ : ∃ a0 a1 a2 a3 a4 a5 a6 a7 a8 a9 a10 a11 : Int, p = [a0, a1, a2, a3, a4, a5, a6, a7, a8, a9, a10, a11] := by
    match p, hp with
    | [a0, a1, a2, a3, a4, a5, a6, a7, a8, a9, a10, a11], _ => exact ⟨a0, a1, a2, a3, a4, a5, a6, a7, a8, a9, a10, a11, rfl⟩
  have EQ : ∀ W : World, (Op.equalIn 10000 108 (.agg #[.int .i64 a0, .int .i64 a1, .int .i64 a2, .int .i64 a3, .int .i64 a4, .int .i64 a5, .int .i64 a6, .int .i64 a7, .int .i64 a8, .int .i64 a9, .int .i64 a10, .int .i64 a11]) (.agg #[.int .i64 0, .int .i64 0, .int .i64 0, .int .i64 0, .int .i64 0, .int .i64 0, .int .i64 0, .int .i64 0, .int .i64 0, .int .i64 0, .int .i64 0, .int .i64 0])).run Tryz.prog W = .ok (blankB [a0, a1, a2, a3, a4, a5, a6, a7, a8, a9, a10, a11]) W := EQ
  generalize blankB [a0, a1, a2, a3, a4, a5, a6, a7, a8, a9, a10, a11] = R at *
  clear hp
  show Calls Tryz.prog 93 #[.agg #[.int .i64 a0, .int .i64 a1, .int .i64 a2, .int .i64 a3, .int .i64 a4, .int .i64 a5, .int .i64 a6, .int .i64 a7, .int .i64 a8, .int .i64 a9, .int .i64 a10, .int .i64 a11]] w _
  go_enter Tryz.func93, Tryz.ntmps93
  go_wp2
  go_ret
  exact ⟨rfl, (Keep.refl w).alloc _⟩
end Go.Proofs.YtkbkdlaknmgjpaaGreat
