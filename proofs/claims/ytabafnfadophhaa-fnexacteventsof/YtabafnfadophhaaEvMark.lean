/- The law's own marks on lists of events. -/
import Derived.Test.YtabafnfadophhaaEvPut
import Derived.Outline
import Derived.RegionTactic
import Derived.Lib.Hide
namespace Go.Proofs.Ytabafnfadophhaa
open Go.ChangeShapes Go.WideShapes Go.ChangeAt Go.RowKit

def mkR (x : Int) : Bool := x % 3 == 0
def mkE (k : Int) (i : Nat) : Ev := (k + 6 * i, k + 6 * i + 1, mkR (k + 6 * i + 1 + 1), k + 6 * i + 1 + 1 + 1, k + 6 * i + 1 + 1 + 1 + 1, k + 6 * i + 1 + 1 + 1 + 1 + 1)
def mksE (k : Int) : Nat → List Ev
  | 0 => []
  | n + 1 => mksE k n ++ [mkE k n]
theorem mksE_len (k : Int) : ∀ n, (mksE k n).length = n
  | 0 => rfl
  | n + 1 => by rw [mksE, List.length_append, mksE_len k n]; rfl
theorem mksE_get (k : Int) : ∀ (n i : Nat), i < n → (mksE k n)[i]? = some (mkE k i)
  | 0, i, h => by omega
  | n + 1, i, h => by
    rw [mksE]
    by_cases hi : i < n
    · rw [List.getElem?_append_left (by rw [mksE_len]; exact hi), mksE_get k n i hi]
    · have : i = n := by omega
      subst this
      rw [List.getElem?_append_right (by rw [mksE_len]; exact Nat.le_refl _), mksE_len]
      simp
set_option maxRecDepth 100000 in
set_option maxHeartbeats 2000000 in
theorem markE_any (w : World) (base : Nat) (v : Value) (k : Int) (es : List Ev) (h : AppE w base v es) (hn : es.length ≤ 1048576) (h0 : 1 ≤ k) (h1 : k ≤ 8388608) :
    Calls Try.prog 31 #[v, .int .i64 k] w fun e w' => e = .returned (.int .i64 (k + 6 * es.length)) ∧ AppE w' base v (mksE k es.length) ∧ w.grownBy w' v.ownBlock := by
  have hsh : v = .slice none 0 0 ∧ es.length = 0 ∨ ∃ g cap, v = .slice (some ⟨g, 0, none⟩) es.length cap := by
    rcases h.2 with h | ⟨g, cap, cur, hv, _⟩
    · exact .inl h
    · exact .inr ⟨g, cap, hv⟩
  rcases hsh with ⟨rfl, hz⟩ | ⟨g, cap, rfl⟩
  · have : es = [] := List.eq_nil_of_length_eq_zero hz
    subst this
    go_enter Try.func31, Try.ntmps31
    go_wp2
    refine wp_loop_rounds 1 ?_
    rw [rounds_succ]
    go_wp2
    go_ret
    exact ⟨by simp, h, World.grownBy.refl _ _⟩
  · have B1 := PutE.start h
    go_enter Try.func31, Try.ntmps31
    go_wp2
    go_loopw [1, 5] (fun q i wr => ∃ j : Nat, j ≤ es.length ∧ i = .int .i64 j ∧ q = .int .i64 (k + 6 * j) ∧ PutE wr base g es.length cap j (mksE k j) ∧ w.grownBy wr (some g)) (fun _ i _ => es.length - (intOf i).toNat)
    case atStart => exact ⟨0, Nat.zero_le _, rfl, by simp, B1, World.grownBy.refl _ _⟩
    case round =>
      obtain ⟨j, hj, rfl, rfl, hR, hg⟩ := hrel
      clear B1 h
      by_cases hlt : j < es.length
      · obtain ⟨u0, c0⟩ := hR.cell (i := j * 6) (by omega)
        obtain ⟨u1, c1⟩ := hR.cell (i := j * 6 + 1) (by omega)
        obtain ⟨u2, c2⟩ := hR.cell (i := j * 6 + 2) (by omega)
        obtain ⟨u3, c3⟩ := hR.cell (i := j * 6 + 3) (by omega)
        obtain ⟨u4, c4⟩ := hR.cell (i := j * 6 + 4) (by omega)
        obtain ⟨u5, c5⟩ := hR.cell (i := j * 6 + 5) (by omega)
        have f0 := hR.free (j * 6)
        have f1 := hR.free (j * 6 + 1)
        have f2 := hR.free (j * 6 + 2)
        have f3 := hR.free (j * 6 + 3)
        have f4 := hR.free (j * 6 + 4)
        have f5 := hR.free (j * 6 + 5)
        have i1 : (0 : Int) ≤ (j : Int) := Int.natCast_nonneg _
        have i2 : (j : Int) < (es.length : Int) := by omega
        have P := hR.put hlt (mkE k j)
        go_wp2
        go_roundw
        case rel => exact ⟨j + 1, by omega, by go_num, by go_num, P.1, grown_trans hg P.2⟩
        case measure => simp [intOf]; omega
      · have : j = es.length := by omega
        subst this
        go_wp2
        go_ret
        refine ⟨rfl, ?_, hg⟩
        have hl := mksE_len k es.length
        have := PutE.app (es := mksE k es.length) (by rw [hl]; exact hR)
        rw [hl] at this
        exact this
end Go.Proofs.Ytabafnfadophhaa
