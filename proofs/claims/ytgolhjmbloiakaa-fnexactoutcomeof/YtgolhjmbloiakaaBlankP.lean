/- Contract of the program's page.isBlank: arrays that are compared. -/
import Derived.Test.YtgolhjmbloiakaaPagePlain
import Derived.Test.YtgolhjmbloiakaaPgAt
import Derived.ChangeKeysEq
namespace Go.Proofs.Ytgolhjmbloiakaa
open Go.ChangeShapes Go.WideShapes Go.ChangeAt Go.RowKit

theorem eqItems_zero (p : List Int) (hp : p.length = 12) (w : World) : ∀ is : List Nat, (∀ i ∈ is, i < 12) → (Op.eqItems 9999 2 (Try.prog.cellsOf 2) (pgC p) (pgC (List.replicate 12 0)) is).run Try.prog w = .ok (is.all (fun i => p.getD i 0 == 0)) w
  | [], _ => by simp [Op.eqItems]
  | i :: is, h => by
    have hi : i < 12 := h i (by simp)
    have hc : Try.prog.cellsOf 2 = 1 := by kernel_rfl
    have he : Try.prog.plainKey 2 = true := by kernel_rfl
    have p1 := run_part_plain (P := Try.prog) w (e := 2) he (xs := pgC p) (off := i * 1) (v := .int .i64 (p.getD i 0)) (by
      simp only [pgC, Nat.mul_one, List.getElem?_toArray, List.getElem?_map, List.getD_eq_getElem?_getD]
      rw [List.getElem?_eq_getElem (by omega)]
      rfl)
    have p2 := run_part_plain (P := Try.prog) w (e := 2) he (xs := pgC (List.replicate 12 0)) (off := i * 1) (v := .int .i64 0) (by
      simp only [pgC, Nat.mul_one, List.getElem?_toArray, List.getElem?_map]
      rw [List.getElem?_replicate, if_pos hi]
      rfl)
    have p3 := run_equalIn_int (P := Try.prog) w 9998 2 .i64 .i64 (p.getD i 0) 0 Try.underlying2
    have ih := eqItems_zero p hp w is (fun j hj => h j (by simp [hj]))
    rw [hc] at ih ⊢
    simp only [Op.eqItems, Sem.run_bind, p1, p2, p3, Result.andThen_ok, List.all_cons]
    cases hz : (p.getD i 0 == 0) with
    | false => simp
    | true => simpa using ih
theorem all_blank {p : List Int} (hp : p.length = 12) : (List.range 12).all (fun i => p.getD i 0 == 0) = blankB p := by
  unfold blankB
  rw [Bool.eq_iff_iff, List.all_eq_true, decide_eq_true_eq]
  constructor
  · intro h
    refine list_ext (n := 12) hp (by simp) (fun i hi => ?_)
    have := h i (List.mem_range.2 hi)
    rw [beq_iff_eq] at this
    rw [this, List.getD_eq_getElem?_getD, List.getElem?_replicate, if_pos hi]
    rfl
  · intro h i hi
    rw [h, List.getD_eq_getElem?_getD, List.getElem?_replicate, if_pos (List.mem_range.1 hi)]
    rfl
theorem eqPage (p : List Int) (hp : p.length = 12) (w : World) : (Op.equalIn 10000 63 (pgV p) (pgV (List.replicate 12 0))).run Try.prog w = .ok (blankB p) w := by
  have hs : (Try.prog.info? 2).isSome = true := by kernel_rfl
  obtain ⟨i, hi⟩ := Option.isSome_iff_exists.1 hs
  rw [show (10000 : Nat) = 9999 + 1 from rfl, run_equalIn_array w 9999 _ _ Try.underlying63 hi, eqItems_zero p hp w _ (fun i hi => List.mem_range.1 hi), all_blank hp]
set_option maxRecDepth 100000 in
set_option maxHeartbeats 2000000 in
theorem isBlank_any (w : World) (p : List Int) (hp : p.length = 12) :
    Calls Try.prog 53 #[pgV p] w fun e w' => e = .returned (.bool (blankB p)) ∧ Keep w w' := by
  have EQ := eqPage p hp
  have EG : Try.prog.eqGuardType Try.prog.depth 63 = false := by kernel_rfl
  obtain ⟨a0, a1, a2, a3, a4, a5, a6, a7, a8, a9, a10, a11, rfl⟩ : ∃ a0 a1 a2 a3 a4 a5 a6 a7 a8 a9 a10 a11 : Int, p = [a0, a1, a2, a3, a4, a5, a6, a7, a8, a9, a10, a11] := by
    match p, hp with
    | [a0, a1, a2, a3, a4, a5, a6, a7, a8, a9, a10, a11], _ => exact ⟨a0, a1, a2, a3, a4, a5, a6, a7, a8, a9, a10, a11, rfl⟩
  have EQ : ∀ W : World, (Op.equalIn 10000 63 (.agg #[.int .i64 a0, .int .i64 a1, .int .i64 a2, .int .i64 a3, .int .i64 a4, .int .i64 a5, .int .i64 a6, .int .i64 a7, .int .i64 a8, .int .i64 a9, .int .i64 a10, .int .i64 a11]) (.agg #[.int .i64 0, .int .i64 0, .int .i64 0, .int .i64 0, .int .i64 0, .int .i64 0, .int .i64 0, .int .i64 0, .int .i64 0, .int .i64 0, .int .i64 0, .int .i64 0])).run Try.prog W = .ok (blankB [a0, a1, a2, a3, a4, a5, a6, a7, a8, a9, a10, a11]) W := EQ
  generalize blankB [a0, a1, a2, a3, a4, a5, a6, a7, a8, a9, a10, a11] = R at *
  clear hp
  show Calls Try.prog 53 #[.agg #[.int .i64 a0, .int .i64 a1, .int .i64 a2, .int .i64 a3, .int .i64 a4, .int .i64 a5, .int .i64 a6, .int .i64 a7, .int .i64 a8, .int .i64 a9, .int .i64 a10, .int .i64 a11]] w _
  go_enter Try.func53, Try.ntmps53
  go_wp2
  go_ret
  exact ⟨rfl, (Keep.refl w).alloc _⟩
end Go.Proofs.Ytgolhjmbloiakaa
