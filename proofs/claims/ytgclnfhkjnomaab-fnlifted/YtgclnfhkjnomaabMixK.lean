/- Plain facts on the list that the program mixes of two webs, place by place. -/
import Derived.Test.YtgclnfhkjnomaabWebPlain
namespace Go.Proofs.Ytgclnfhkjnomaab
open Go.ChangeShapes Go.WideShapes Go.ChangeAt Go.RowKit

/-- The first k are mixed. -/
def mixK (f : Int → Int → Int) (a b : List Int) (k : Nat) : List Int := (List.zipWith f a b).take k ++ a.drop k
theorem mixK_len (f : Int → Int → Int) {a b : List Int} (h : a.length = b.length) (k : Nat) : (mixK f a b k).length = a.length := by
  unfold mixK
  rw [List.length_append, List.length_take, List.length_zipWith, List.length_drop]
  omega
theorem mixK_get (f : Int → Int → Int) {a b : List Int} (h : a.length = b.length) {k : Nat} (hk : k < a.length) : (mixK f a b k).getD k 0 = a.getD k 0 := by
  unfold mixK
  have hl : ((List.zipWith f a b).take k).length = k := by rw [List.length_take, List.length_zipWith]; omega
  rw [List.getD_eq_getElem?_getD, List.getElem?_append_right (by omega), hl, Nat.sub_self, List.getElem?_drop, Nat.add_zero, List.getD_eq_getElem?_getD]
theorem mixK_set (f : Int → Int → Int) {a b : List Int} (h : a.length = b.length) {k : Nat} (hk : k < a.length) : (mixK f a b k).set k (f (a.getD k 0) (b.getD k 0)) = mixK f a b (k + 1) := by
  unfold mixK
  have hz : k < (List.zipWith f a b).length := by rw [List.length_zipWith]; omega
  have hl : ((List.zipWith f a b).take k).length = k := by rw [List.length_take]; omega
  rw [List.set_append_right _ _ (by omega), hl, Nat.sub_self, List.drop_eq_getElem_cons hk, List.set_cons_zero, List.take_succ_eq_append_getElem hz, List.append_assoc]
  congr 1
  rw [List.getElem_zipWith, List.getD_eq_getElem?_getD, List.getD_eq_getElem?_getD, List.getElem?_eq_getElem hk, List.getElem?_eq_getElem (show k < b.length by omega)]
  rfl
theorem mixK_end (f : Int → Int → Int) {a b : List Int} (h : a.length = b.length) : mixK f a b a.length = List.zipWith f a b := by
  unfold mixK
  rw [List.drop_length, List.append_nil, List.take_of_length_le (by rw [List.length_zipWith]; omega)]
end Go.Proofs.Ytgclnfhkjnomaab
