/- What lies in memory while the program sorts, and what each step turns in it. -/
import Derived.Test.YtgclnfhkjnomaaaHeapD
import Derived.Test.YtgclnfhkjnomaaaBackI
namespace Go.Proofs.Ytgclnfhkjnomaaa
open Go.ChangeShapes Go.WideShapes Go.ChangeAt Go.RowKit

def lenOf : Value → Nat
  | .slice _ n _ => n
  | _ => 0
theorem Own.lenOf {w : World} {base : Nat} {v : Value} {zs : List Int} (h : Own w base v zs) : lenOf v = zs.length := by
  obtain ⟨a, c, rfl, _⟩ := h.rd
  rfl
theorem Row.turn {w w' : World} {base a : Nat} {b : Option Nat} {v : Value} {zs : List Int} (h : Row w base v zs) (t : Turn w w' a b) (ha : v.ownBlock ≠ some a) (hb : v.ownBlock = none ∨ v.ownBlock ≠ b) : Row w' base v zs := by
  rcases h with h | ⟨g, cap, rfl, hg, hr⟩
  · exact .inl h
  · refine .inr ⟨g, cap, rfl, hg, hr.turn t (fun e => ha (by rw [e]; rfl)) ?_⟩
    rcases hb with hb | hb
    · simp [Value.ownBlock] at hb
    · exact hb
/-- What lies in memory while the program sorts: the heap, the lines turned round, the list so far; none in another's block. -/
structure St (w wr : World) (hb : Nat) (va v vl : Value) (zs q l : List Int) : Prop where
  keep : Keep w wr
  heap : Hp wr hb v q
  back : Row wr w.heap.size va (backL zs)
  list : Own wr w.heap.size vl l
  lo : w.heap.size ≤ hb
  ah : ∀ k, va.ownBlock = some k → k < hb
  lh : vl.ownBlock ≠ some hb
  la : ∀ k, va.ownBlock = some k → vl.ownBlock ≠ some k
  lv : ∀ k, v.ownBlock = some k → vl.ownBlock ≠ some k
theorem St.vge {w wr : World} {hb : Nat} {va v vl : Value} {zs q l : List Int} (s : St w wr hb va v vl zs q l) : ∀ k, v.ownBlock = some k → hb < k := fun k hk => s.heap.own.ge k hk
theorem St.keeps {w wr w' : World} {hb : Nat} {va v vl : Value} {zs q l : List Int} (s : St w wr hb va v vl zs q l) (k : Keep wr w') : St w w' hb va v vl zs q l :=
  ⟨s.keep.trans k, s.heap.keep k, s.back.keep k, s.list.keep k, s.lo, s.ah, s.lh, s.la, s.lv⟩
theorem St.turn {w wr w' : World} {hb : Nat} {va v v' vl : Value} {zs q q' l : List Int} (s : St w wr hb va v vl zs q l) (h : Hp w' hb v' q') (e : v'.ownBlock = v.ownBlock ∨ ∀ k, v'.ownBlock = some k → wr.heap.size ≤ k) (t : Turn wr w' hb v.ownBlock) : St w w' hb va v' vl zs q' l := by
  have hlo := s.lo
  refine ⟨t.keep s.keep s.lo (fun i hi => by have := s.vge i hi; omega), h, s.back.turn t ?_ ?_, s.list.turn t s.lh ?_, s.lo, s.ah, s.lh, s.la, ?_⟩
  · intro e; have := s.ah _ e; omega
  · cases hv : va.ownBlock with
    | none => exact .inl rfl
    | some k => exact .inr (fun e => by have := s.ah k hv; have := s.vge k e.symm; omega)
  · cases hv : vl.ownBlock with
    | none => exact .inl rfl
    | some k => exact .inr (fun e => s.lv k e.symm hv)
  · rcases e with e | e
    · rw [e]; exact s.lv
    · intro k hk hl
      have := e k hk
      have := (World.ownsRow.lt s.list k hl).2
      omega
theorem St.append {w wr w' : World} {hb gg n cap : Nat} {va v vl : Value} {zs q l l' : List Int} {o : Obj} (s : St w wr hb va v vl zs q l) (g : (wr.alloc o).grownBy w' vl.ownBlock) (own : Own w' w.heap.size (.slice (some ⟨gg, 0, none⟩) n cap) l') (hat : vl.ownBlock = some gg ∨ gg = wr.heap.size + 1) : St w w' hb va v (.slice (some ⟨gg, 0, none⟩) n cap) zs q l' := by
  have ka : Keep wr (wr.alloc o) := (Keep.refl wr).alloc o
  have hsz : (wr.alloc o).heap.size = wr.heap.size + 1 := by simp
  have hlt := s.heap.lt
  refine ⟨(s.keep.trans ka).grown g s.list.ge, (s.heap.keep ka).grown g s.lh ?_, (s.back.keep ka).kept g ?_, own, s.lo, s.ah, ?_, ?_, ?_⟩
  · cases hv : v.ownBlock with
    | none => exact .inl rfl
    | some k => exact .inr (fun e => s.lv k hv e.symm)
  · cases hv : va.ownBlock with
    | none => exact .inl rfl
    | some k => exact .inr (fun e => s.la k hv e.symm)
  · rcases hat with e | e
    · exact fun e2 => s.lh (by rw [e]; simpa [Value.ownBlock] using e2)
    · intro e2; simp [Value.ownBlock] at e2; omega
  · intro k hk
    rcases hat with e | e
    · intro e2; exact s.la k hk (by rw [e]; simpa [Value.ownBlock] using e2)
    · intro e2; simp [Value.ownBlock] at e2; have := s.ah k hk; omega
  · intro k hk
    rcases hat with e | e
    · intro e2; exact s.lv k hk (by rw [e]; simpa [Value.ownBlock] using e2)
    · intro e2; simp [Value.ownBlock] at e2; have := (World.ownsRow.lt s.heap.own k hk).2; omega
end Go.Proofs.Ytgclnfhkjnomaaa
