/- Plain facts on the lists that the loops of Then, Back and Ways build. -/
import Derived.Test.YtgolhjmbloiakaaGreatMA
namespace Go.Proofs.YtgolhjmbloiakaaGreat
open Go.RowKit

/-- The first k places are done, the others are 0. -/
def thenK (a b : List Int) (k : Nat) : List Int := (a.map (fun x => thenS x b 12)).take k ++ List.replicate (a.length - k) 0
theorem thenK_len (a b : List Int) {k : Nat} (hk : k ≤ a.length) : (thenK a b k).length = a.length := by
  unfold thenK
  rw [List.length_append, List.length_take, List.length_map, List.length_replicate]; omega
theorem thenK_zero (a b : List Int) : thenK a b 0 = List.replicate a.length 0 := by simp [thenK]
theorem thenK_end (a b : List Int) : thenK a b a.length = a.map (fun x => thenS x b 12) := by
  unfold thenK
  rw [Nat.sub_self, List.replicate_zero, List.append_nil, List.take_of_length_le (by simp)]
theorem thenK_set (a b : List Int) {k : Nat} (hk : k < a.length) : (thenK a b k).set k (thenS (a.getD k 0) b 12) = thenK a b (k + 1) := by
  unfold thenK
  have hz : k < (a.map (fun x => thenS x b 12)).length := by simpa using hk
  have hl : ((a.map (fun x => thenS x b 12)).take k).length = k := by rw [List.length_take]; omega
  rw [List.set_append_right _ _ (by omega), hl, Nat.sub_self, show a.length - k = (a.length - (k + 1)) + 1 from by omega, List.replicate_succ, List.set_cons_zero, List.take_succ_eq_append_getElem hz, List.append_assoc, List.getElem_map, List.getD_eq_getElem?_getD, List.getElem?_eq_getElem hk]
  rfl
theorem thenK_same (a b : List Int) {k : Nat} (hk : k < a.length) : (thenK a b k).set k 0 = thenK a b k := by
  unfold thenK
  have hl : ((a.map (fun x => thenS x b 12)).take k).length = k := by rw [List.length_take, List.length_map]; omega
  rw [List.set_append_right _ _ (by omega), hl, Nat.sub_self, show a.length - k = (a.length - (k + 1)) + 1 from by omega, List.replicate_succ, List.set_cons_zero]
/-- The j-th member is one of the set's n. -/
theorem mem_at {n : Nat} {p : Int} (hp : okB n p = true) {j : Nat} (hj : j < (mem p 12).length) : ∃ m : Nat, (mem p 12).getD j 0 = m ∧ m < n := by
  have hm := getD_mem hj
  obtain ⟨m, _, e, hs⟩ := (mem_iff p 12 _).1 hm
  exact ⟨m, e, inSetB_iff hp hs⟩
theorem foldl_snoc {α : Type} (f : α → Int → α) (x : α) (l : List Int) {j : Nat} (hj : j < l.length) : (l.take (j + 1)).foldl f x = f ((l.take j).foldl f x) (l.getD j 0) := by
  rw [take_snoc l j hj, List.foldl_append]; rfl
theorem set_set_same (l : List Int) (k : Nat) (x y : Int) : (l.set k x).set k y = l.set k y := by simp
theorem getD_set_same (l : List Int) {k : Nat} (hk : k < l.length) (x : Int) : (l.set k x).getD k 0 = x := by rw [getD_set l k k x hk, if_pos rfl]
theorem backF_len (i : Nat) (st : List Int) (l : List Int) : (l.foldl (backF i) st).length = st.length := by
  induction l generalizing st with
  | nil => rfl
  | cons x l ih => rw [List.foldl_cons, ih]; simp [backF]
theorem backAll_len (zs : List Int) (m : Nat) : (backAll zs m).length = zs.length := by
  induction m with
  | zero => simp [backAll]
  | succ m ih => unfold backAll; rw [backIn_len, ih]
theorem wayAll_len (zs : List Int) (m : Nat) : (wayAll zs m).length = zs.length := by
  induction m with
  | zero => rfl
  | succ m ih => unfold wayAll; rw [wayIn_len, ih]
end Go.Proofs.YtgolhjmbloiakaaGreat
