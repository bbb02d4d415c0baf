/- Gathered texts. -/
import Derived.Test.YtbmghnibngjicaaMB
set_option maxRecDepth 100000
set_option maxHeartbeats 8000000
namespace Go.Proofs.Ytbmghnibngjicaa

def rdgB (dss : List (List Dd)) (b : Bd) (c p : Int) : Int × Int :=
  if boardB dss b = true ∧ 0 ≤ c ∧ c < (dss.length : Int) ∧ 0 ≤ p ∧ p ≤ 2 then rdgM b c.toNat p.toNat else (-1, -1)
def seenK (ns : List Nt) (p : Int) (y : Nt) (k : Nat) : Nt := ((ns.take k).reverse.find? (fun x => x.1 == p)).getD y
theorem seenK_more (ns : List Nt) (p : Int) (y : Nt) (k : Nat) (h : k < ns.length) : seenK ns p y (k + 1) = if (ns.getD k (0, 0, 0)).1 = p then ns.getD k (0, 0, 0) else seenK ns p y k := by
  have e : ns.take (k + 1) = ns.take k ++ [ns.getD k (0, 0, 0)] := by
    rw [List.take_add_one, List.getD_eq_getElem?_getD, List.getElem?_eq_getElem h]; rfl
  unfold seenK
  rw [e, List.reverse_append]
  simp only [List.reverse_cons, List.reverse_nil, List.nil_append, List.cons_append, List.find?_cons]
  by_cases q : (ns.getD k (0, 0, 0)).1 = p
  · rw [if_pos q]
    have : ((ns.getD k (0, 0, 0)).1 == p) = true := by simpa using q
    rw [this]; rfl
  · rw [if_neg q]
    have : ((ns.getD k (0, 0, 0)).1 == p) = false := by simpa using q
    rw [this]
theorem seenK_all (b : Bd) (c p : Nat) : (seenK (b.nts.getD c []) (p : Int) ((p : Int), b.plc.getD p 0, b.lst.getD p 0) (b.nts.getD c []).length).2 = rdgM b c p := by
  unfold seenK rdgM
  rw [List.take_length]
  cases (b.nts.getD c []).reverse.find? (fun x => x.1 == (p : Int)) <;> rfl
end Go.Proofs.Ytbmghnibngjicaa
