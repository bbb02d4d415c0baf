/- Several texts in one. -/
import Derived.Test.YtkbkdlaknmgjpaaGreatMB
import Derived.Maps.AppendAt
import Derived.Laws.OwnMore
import Derived.OwnWalk
import Derived.Deep.CutRange
import Derived.Outline
import Derived.Lib.Hide
import Derived.BigRegion
import Derived.RegionTactic
import Derived.Deep.RegionHeld3
import Derived.Deep.QuietTactic
import Derived.BigQuiet
import Derived.Laws.StructEq
/- Contracts of the program's clerks: isRight, clerksOf. -/
namespace Go.Proofs.YtkbkdlaknmgjpaaGreat
open Go.ChangeShapes Go.WideShapes Go.ChangeAt Go.RowKit

abbrev boxC (v : Value) (t : Int) : Obj := .cells #[v, .int .i64 t] 94
theorem right_true {ds : List Dd} {t : Int} (h5 : ds.length ≤ 5) (ha : ds.all okD = true) (ht : togK ds ds.length = true) (h0 : (bits .and .i64 (gC ds) t == 0) = true) : rightB ds t = true := by
  rw [rightB, decide_eq_true h5, ha, ht, h0]; rfl
set_option maxRecDepth 100000 in
set_option maxHeartbeats 8000000 in
theorem isRight_any (w : World) (v : Value) (t : Int) (ds : List Dd) (h : RdD w v ds) (hx : ds.length ≤ 1048576) :
    Calls Tryz.prog 132 #[.agg #[v, .int .i64 t]] w fun e w' => e = .returned (.bool (rightB ds t)) ∧ Keep w w' := by
  have KK : Keep w ((w.alloc (boxC v t)).drew) := ((Keep.refl w).alloc _).drew
  have z1 : w.heap.size < ((w.alloc (boxC v t)).drew).heap.size := by rw [heap_drew, heap_size]; omega
  obtain ⟨a, c, hv, -⟩ := id h
  subst hv
  by_cases h5 : ds.length ≤ 5
  · have e5 : decide (ds.length ≤ 5) = true := decide_eq_true h5
    have e5' : decide ((ds.length : Int) ≤ 5) = true := decide_eq_true (by omega)
    have g5 : (ds.length : Int) ≤ 5 := by omega
    cases ha : ds.all okD
    · have HE : Hid (rightB ds t = false) := Lib.hid (by rw [rightB, ha]; simp)
      go_enter Tryz.func132, Tryz.ntmps132
      go_wp2
      refine wp_region_held_drew (S := (fun w' => w'.cell? ⟨w.heap.size, 0, none⟩ = some (.slice a ds.length (ds.length + c)) ∧ w'.cell? ⟨w.heap.size, 1, none⟩ = some (.int .i64 t))) (by kernel_rfl) ?_ (fun hHeld => ?_)
      · go_keep
      refine takeH 0 3 (v := ?_) rfl rfl (by kernel_rfl) (by kernel_rfl) (by kernel_rfl) (fun _ _ _ h => h) (by rfl) ?_ (by assumption) ?_
      rotate_left
      · intro wx hSw
        try dsimp only at hSw
        go_simp
        with_reducible rfl
      simp only [Act.put, List.setIfInBounds_toArray, List.set_cons_zero, List.set_cons_succ]
      refine takeH 1 4 (v := ?_) rfl rfl (by kernel_rfl) (by kernel_rfl) (by kernel_rfl) (fun _ _ _ h => h) (by rfl) ?_ (by assumption) ?_
      rotate_left
      · intro wx hSw
        try dsimp only at hSw
        go_simp
        with_reducible rfl
      simp only [Act.put, List.setIfInBounds_toArray, List.set_cons_zero, List.set_cons_succ]
      refine wpAnyH_ready (rs := [2]) (by kernel_rfl) (by simp) ?_
      refine AllReadyH.cons rfl (fun K hK => ?_) AllReadyH.nil
      go_simp
      refine (count_any _ _ _ _).mono ?_
      rintro e wz ⟨rfl, rfl⟩
      go_wp2_with fail
      refine hK.out _ _ ?_ (fun hHeld => ?_)
      · exact hHeld
      clear hK K
      refine takeH 3 6 (v := ?_) rfl rfl (by kernel_rfl) (by kernel_rfl) (by kernel_rfl) (fun _ _ _ h => h) (by rfl) ?_ (by assumption) ?_
      rotate_left
      · intro wx hSw
        try dsimp only at hSw
        go_simp
        with_reducible rfl
      simp only [Act.put, List.setIfInBounds_toArray, List.set_cons_zero, List.set_cons_succ]
      refine takeH 4 7 (v := ?_) rfl rfl (by kernel_rfl) (by kernel_rfl) (by kernel_rfl) (fun _ _ _ h => h) (by rfl) ?_ (by assumption) ?_
      rotate_left
      · intro wx hSw
        try dsimp only at hSw
        go_simp
        with_reducible rfl
      simp only [Act.put, List.setIfInBounds_toArray, List.set_cons_zero, List.set_cons_succ]
      refine takeH 5 8 (v := ?_) rfl rfl (by kernel_rfl) (by kernel_rfl) (by kernel_rfl) (fun _ _ _ h => h) (by rfl) ?_ (by assumption) ?_
      rotate_left
      · intro wx hSw
        try dsimp only at hSw
        go_simp
        with_reducible rfl
      simp only [Act.put, List.setIfInBounds_toArray, List.set_cons_zero, List.set_cons_succ]
      refine takeH 6 9 (v := ?_) rfl rfl (by kernel_rfl) (by kernel_rfl) (by kernel_rfl) (fun _ _ _ h => h) (by rfl) ?_ (by assumption) ?_
      rotate_left
      · intro wx hSw
        try dsimp only at hSw
        go_simp
        with_reducible rfl
      simp only [Act.put, List.setIfInBounds_toArray, List.set_cons_zero, List.set_cons_succ]
      refine wpAnyH_ready (rs := [7]) (by kernel_rfl) (by simp) ?_
      refine AllReadyH.cons rfl (fun K hK => ?_) AllReadyH.nil
      go_simp
      refine (areRight_any _ _ _ (h.keep KK) hx).mono ?_
      rw [ha]
      rintro e wz1 ⟨rfl, kk⟩
      have z0 := z1
      have KK := KK.trans kk
      have z1 := Nat.lt_of_lt_of_le z1 kk.size
      go_wp2_with fail
      refine hK.out _ _ ?_ (fun hHeld => ?_)
      · exact ⟨(kk.cell z0).trans hHeld.1, (kk.cell z0).trans hHeld.2⟩
      clear hK K
      refine takeH 8 11 (v := ?_) rfl rfl (by kernel_rfl) (by kernel_rfl) (by kernel_rfl) (fun _ _ _ h => h) (by rfl) ?_ (by assumption) ?_
      rotate_left
      · intro wx hSw
        try dsimp only at hSw
        go_simp
        with_reducible rfl
      simp only [Act.put, List.setIfInBounds_toArray, List.set_cons_zero, List.set_cons_succ]
      refine takeH 9 12 (v := ?_) rfl rfl (by kernel_rfl) (by kernel_rfl) (by kernel_rfl) (fun _ _ _ h => h) (by rfl) ?_ (by assumption) ?_
      rotate_left
      · intro wx hSw
        try dsimp only at hSw
        go_simp
        with_reducible rfl
      simp only [Act.put, List.setIfInBounds_toArray, List.set_cons_zero, List.set_cons_succ]
      refine skipH 10 13 rfl rfl (by kernel_rfl) (by kernel_rfl) (by kernel_rfl) (fun _ _ _ h => h) (by rfl) (by assumption) ?_
      simp only [Act.put, List.setIfInBounds_toArray, List.set_cons_zero, List.set_cons_succ]
      refine skipH 11 14 rfl rfl (by kernel_rfl) (by kernel_rfl) (by kernel_rfl) (fun _ _ _ h => h) (by rfl) (by assumption) ?_
      simp only [Act.put, List.setIfInBounds_toArray, List.set_cons_zero, List.set_cons_succ]
      refine skipH 12 15 rfl rfl (by kernel_rfl) (by kernel_rfl) (by kernel_rfl) (fun _ _ _ h => h) (by rfl) (by assumption) ?_
      simp only [Act.put, List.setIfInBounds_toArray, List.set_cons_zero, List.set_cons_succ]
      refine takeH 13 16 (v := ?_) rfl rfl (by kernel_rfl) (by kernel_rfl) (by kernel_rfl) (fun _ _ _ h => h) (by rfl) ?_ (by assumption) ?_
      rotate_left
      · intro wx hSw
        try dsimp only at hSw
        go_simp
        with_reducible rfl
      simp only [Act.put, List.setIfInBounds_toArray, List.set_cons_zero, List.set_cons_succ]
      refine takeH 14 17 (v := ?_) rfl rfl (by kernel_rfl) (by kernel_rfl) (by kernel_rfl) (fun _ _ _ h => h) (by rfl) ?_ (by assumption) ?_
      rotate_left
      · intro wx hSw
        try dsimp only at hSw
        go_simp
        with_reducible rfl
      simp only [Act.put, List.setIfInBounds_toArray, List.set_cons_zero, List.set_cons_succ]
      refine skipH 15 18 rfl rfl (by kernel_rfl) (by kernel_rfl) (by kernel_rfl) (fun _ _ _ h => h) (by rfl) (by assumption) ?_
      simp only [Act.put, List.setIfInBounds_toArray, List.set_cons_zero, List.set_cons_succ]
      refine skipH 16 19 rfl rfl (by kernel_rfl) (by kernel_rfl) (by kernel_rfl) (fun _ _ _ h => h) (by rfl) (by assumption) ?_
      simp only [Act.put, List.setIfInBounds_toArray, List.set_cons_zero, List.set_cons_succ]
      refine skipH 17 20 rfl rfl (by kernel_rfl) (by kernel_rfl) (by kernel_rfl) (fun _ _ _ h => h) (by rfl) (by assumption) ?_
      simp only [Act.put, List.setIfInBounds_toArray, List.set_cons_zero, List.set_cons_succ]
      refine skipH 18 21 rfl rfl (by kernel_rfl) (by kernel_rfl) (by kernel_rfl) (fun _ _ _ h => h) (by rfl) (by assumption) ?_
      simp only [Act.put, List.setIfInBounds_toArray, List.set_cons_zero, List.set_cons_succ]
      refine skipH 19 22 rfl rfl (by kernel_rfl) (by kernel_rfl) (by kernel_rfl) (fun _ _ _ h => h) (by rfl) (by assumption) ?_
      simp only [Act.put, List.setIfInBounds_toArray, List.set_cons_zero, List.set_cons_succ]
      refine skipH 20 23 rfl rfl (by kernel_rfl) (by kernel_rfl) (by kernel_rfl) (fun _ _ _ h => h) (by rfl) (by assumption) ?_
      simp only [Act.put, List.setIfInBounds_toArray, List.set_cons_zero, List.set_cons_succ]
      refine skipH 21 24 rfl rfl (by kernel_rfl) (by kernel_rfl) (by kernel_rfl) (fun _ _ _ h => h) (by rfl) (by assumption) ?_
      simp only [Act.put, List.setIfInBounds_toArray, List.set_cons_zero, List.set_cons_succ]
      refine takeH 22 25 (v := ?_) rfl rfl (by kernel_rfl) (by kernel_rfl) (by kernel_rfl) (fun _ _ _ h => h) (by rfl) ?_ (by assumption) ?_
      rotate_left
      · intro wx hSw
        try dsimp only at hSw
        go_simp
        with_reducible rfl
      simp only [Act.put, List.setIfInBounds_toArray, List.set_cons_zero, List.set_cons_succ]
      refine takeH 23 2 (v := ?_) rfl rfl (by kernel_rfl) (by kernel_rfl) (by kernel_rfl) (fun _ _ _ h => h) (by rfl) ?_ (by assumption) ?_
      rotate_left
      · intro wx hSw
        try dsimp only at hSw
        go_simp
        with_reducible rfl
      simp only [Act.put, List.setIfInBounds_toArray, List.set_cons_zero, List.set_cons_succ]
      refine wpAnyH_done (by kernel_rfl) ?_ _
      go_wp2
      go_ret
      exact ⟨by rw [HE.out]; rfl, KK⟩
    · cases ht : togK ds ds.length
      · have HE : Hid (rightB ds t = false) := Lib.hid (by rw [rightB, ht]; simp)
        go_enter Tryz.func132, Tryz.ntmps132
        go_wp2
        refine wp_region_held_drew (S := (fun w' => w'.cell? ⟨w.heap.size, 0, none⟩ = some (.slice a ds.length (ds.length + c)) ∧ w'.cell? ⟨w.heap.size, 1, none⟩ = some (.int .i64 t))) (by kernel_rfl) ?_ (fun hHeld => ?_)
        · go_keep
        refine takeH 0 3 (v := ?_) rfl rfl (by kernel_rfl) (by kernel_rfl) (by kernel_rfl) (fun _ _ _ h => h) (by rfl) ?_ (by assumption) ?_
        rotate_left
        · intro wx hSw
          try dsimp only at hSw
          go_simp
          with_reducible rfl
        simp only [Act.put, List.setIfInBounds_toArray, List.set_cons_zero, List.set_cons_succ]
        refine takeH 1 4 (v := ?_) rfl rfl (by kernel_rfl) (by kernel_rfl) (by kernel_rfl) (fun _ _ _ h => h) (by rfl) ?_ (by assumption) ?_
        rotate_left
        · intro wx hSw
          try dsimp only at hSw
          go_simp
          with_reducible rfl
        simp only [Act.put, List.setIfInBounds_toArray, List.set_cons_zero, List.set_cons_succ]
        refine wpAnyH_ready (rs := [2]) (by kernel_rfl) (by simp) ?_
        refine AllReadyH.cons rfl (fun K hK => ?_) AllReadyH.nil
        go_simp
        refine (count_any _ _ _ _).mono ?_
        rintro e wz ⟨rfl, rfl⟩
        go_wp2_with fail
        refine hK.out _ _ ?_ (fun hHeld => ?_)
        · exact hHeld
        clear hK K
        refine takeH 3 6 (v := ?_) rfl rfl (by kernel_rfl) (by kernel_rfl) (by kernel_rfl) (fun _ _ _ h => h) (by rfl) ?_ (by assumption) ?_
        rotate_left
        · intro wx hSw
          try dsimp only at hSw
          go_simp
          with_reducible rfl
        simp only [Act.put, List.setIfInBounds_toArray, List.set_cons_zero, List.set_cons_succ]
        refine takeH 4 7 (v := ?_) rfl rfl (by kernel_rfl) (by kernel_rfl) (by kernel_rfl) (fun _ _ _ h => h) (by rfl) ?_ (by assumption) ?_
        rotate_left
        · intro wx hSw
          try dsimp only at hSw
          go_simp
          with_reducible rfl
        simp only [Act.put, List.setIfInBounds_toArray, List.set_cons_zero, List.set_cons_succ]
        refine takeH 5 8 (v := ?_) rfl rfl (by kernel_rfl) (by kernel_rfl) (by kernel_rfl) (fun _ _ _ h => h) (by rfl) ?_ (by assumption) ?_
        rotate_left
        · intro wx hSw
          try dsimp only at hSw
          go_simp
          with_reducible rfl
        simp only [Act.put, List.setIfInBounds_toArray, List.set_cons_zero, List.set_cons_succ]
        refine takeH 6 9 (v := ?_) rfl rfl (by kernel_rfl) (by kernel_rfl) (by kernel_rfl) (fun _ _ _ h => h) (by rfl) ?_ (by assumption) ?_
        rotate_left
        · intro wx hSw
          try dsimp only at hSw
          go_simp
          with_reducible rfl
        simp only [Act.put, List.setIfInBounds_toArray, List.set_cons_zero, List.set_cons_succ]
        refine wpAnyH_ready (rs := [7]) (by kernel_rfl) (by simp) ?_
        refine AllReadyH.cons rfl (fun K hK => ?_) AllReadyH.nil
        go_simp
        refine (areRight_any _ _ _ (h.keep KK) hx).mono ?_
        rw [ha]
        rintro e wz1 ⟨rfl, kk⟩
        have z0 := z1
        have KK := KK.trans kk
        have z1 := Nat.lt_of_lt_of_le z1 kk.size
        go_wp2_with fail
        refine hK.out _ _ ?_ (fun hHeld => ?_)
        · exact ⟨(kk.cell z0).trans hHeld.1, (kk.cell z0).trans hHeld.2⟩
        clear hK K
        refine takeH 8 11 (v := ?_) rfl rfl (by kernel_rfl) (by kernel_rfl) (by kernel_rfl) (fun _ _ _ h => h) (by rfl) ?_ (by assumption) ?_
        rotate_left
        · intro wx hSw
          try dsimp only at hSw
          go_simp
          with_reducible rfl
        simp only [Act.put, List.setIfInBounds_toArray, List.set_cons_zero, List.set_cons_succ]
        refine takeH 9 12 (v := ?_) rfl rfl (by kernel_rfl) (by kernel_rfl) (by kernel_rfl) (fun _ _ _ h => h) (by rfl) ?_ (by assumption) ?_
        rotate_left
        · intro wx hSw
          try dsimp only at hSw
          go_simp
          with_reducible rfl
        simp only [Act.put, List.setIfInBounds_toArray, List.set_cons_zero, List.set_cons_succ]
        refine takeH 10 13 (v := ?_) rfl rfl (by kernel_rfl) (by kernel_rfl) (by kernel_rfl) (fun _ _ _ h => h) (by rfl) ?_ (by assumption) ?_
        rotate_left
        · intro wx hSw
          try dsimp only at hSw
          go_simp
          with_reducible rfl
        simp only [Act.put, List.setIfInBounds_toArray, List.set_cons_zero, List.set_cons_succ]
        refine takeH 11 14 (v := ?_) rfl rfl (by kernel_rfl) (by kernel_rfl) (by kernel_rfl) (fun _ _ _ h => h) (by rfl) ?_ (by assumption) ?_
        rotate_left
        · intro wx hSw
          try dsimp only at hSw
          go_simp
          with_reducible rfl
        simp only [Act.put, List.setIfInBounds_toArray, List.set_cons_zero, List.set_cons_succ]
        refine wpAnyH_ready (rs := [12]) (by kernel_rfl) (by simp) ?_
        refine AllReadyH.cons rfl (fun K hK => ?_) AllReadyH.nil
        go_simp
        refine (areTogether_any _ _ _ (h.keep KK) hx).mono ?_
        rw [ht]
        rintro e wz2 ⟨rfl, kk⟩
        have z0 := z1
        have KK := KK.trans kk
        have z1 := Nat.lt_of_lt_of_le z1 kk.size
        go_wp2_with fail
        refine hK.out _ _ ?_ (fun hHeld => ?_)
        · exact ⟨(kk.cell z0).trans hHeld.1, (kk.cell z0).trans hHeld.2⟩
        clear hK K
        refine takeH 13 16 (v := ?_) rfl rfl (by kernel_rfl) (by kernel_rfl) (by kernel_rfl) (fun _ _ _ h => h) (by rfl) ?_ (by assumption) ?_
        rotate_left
        · intro wx hSw
          try dsimp only at hSw
          go_simp
          with_reducible rfl
        simp only [Act.put, List.setIfInBounds_toArray, List.set_cons_zero, List.set_cons_succ]
        refine takeH 14 17 (v := ?_) rfl rfl (by kernel_rfl) (by kernel_rfl) (by kernel_rfl) (fun _ _ _ h => h) (by rfl) ?_ (by assumption) ?_
        rotate_left
        · intro wx hSw
          try dsimp only at hSw
          go_simp
          with_reducible rfl
        simp only [Act.put, List.setIfInBounds_toArray, List.set_cons_zero, List.set_cons_succ]
        refine skipH 15 18 rfl rfl (by kernel_rfl) (by kernel_rfl) (by kernel_rfl) (fun _ _ _ h => h) (by rfl) (by assumption) ?_
        simp only [Act.put, List.setIfInBounds_toArray, List.set_cons_zero, List.set_cons_succ]
        refine skipH 16 19 rfl rfl (by kernel_rfl) (by kernel_rfl) (by kernel_rfl) (fun _ _ _ h => h) (by rfl) (by assumption) ?_
        simp only [Act.put, List.setIfInBounds_toArray, List.set_cons_zero, List.set_cons_succ]
        refine skipH 17 20 rfl rfl (by kernel_rfl) (by kernel_rfl) (by kernel_rfl) (fun _ _ _ h => h) (by rfl) (by assumption) ?_
        simp only [Act.put, List.setIfInBounds_toArray, List.set_cons_zero, List.set_cons_succ]
        refine skipH 18 21 rfl rfl (by kernel_rfl) (by kernel_rfl) (by kernel_rfl) (fun _ _ _ h => h) (by rfl) (by assumption) ?_
        simp only [Act.put, List.setIfInBounds_toArray, List.set_cons_zero, List.set_cons_succ]
        refine skipH 19 22 rfl rfl (by kernel_rfl) (by kernel_rfl) (by kernel_rfl) (fun _ _ _ h => h) (by rfl) (by assumption) ?_
        simp only [Act.put, List.setIfInBounds_toArray, List.set_cons_zero, List.set_cons_succ]
        refine skipH 20 23 rfl rfl (by kernel_rfl) (by kernel_rfl) (by kernel_rfl) (fun _ _ _ h => h) (by rfl) (by assumption) ?_
        simp only [Act.put, List.setIfInBounds_toArray, List.set_cons_zero, List.set_cons_succ]
        refine skipH 21 24 rfl rfl (by kernel_rfl) (by kernel_rfl) (by kernel_rfl) (fun _ _ _ h => h) (by rfl) (by assumption) ?_
        simp only [Act.put, List.setIfInBounds_toArray, List.set_cons_zero, List.set_cons_succ]
        refine takeH 22 25 (v := ?_) rfl rfl (by kernel_rfl) (by kernel_rfl) (by kernel_rfl) (fun _ _ _ h => h) (by rfl) ?_ (by assumption) ?_
        rotate_left
        · intro wx hSw
          try dsimp only at hSw
          go_simp
          with_reducible rfl
        simp only [Act.put, List.setIfInBounds_toArray, List.set_cons_zero, List.set_cons_succ]
        refine takeH 23 2 (v := ?_) rfl rfl (by kernel_rfl) (by kernel_rfl) (by kernel_rfl) (fun _ _ _ h => h) (by rfl) ?_ (by assumption) ?_
        rotate_left
        · intro wx hSw
          try dsimp only at hSw
          go_simp
          with_reducible rfl
        simp only [Act.put, List.setIfInBounds_toArray, List.set_cons_zero, List.set_cons_succ]
        refine wpAnyH_done (by kernel_rfl) ?_ _
        go_wp2
        go_ret
        exact ⟨by rw [HE.out]; rfl, KK⟩
      · cases h0 : (bits .and .i64 (gC ds) t == 0)
        · have HE : Hid (rightB ds t = false) := Lib.hid (by rw [rightB, h0]; simp)
          go_enter Tryz.func132, Tryz.ntmps132
          go_wp2
          go_region_held3 (fun w' => w'.cell? ⟨w.heap.size, 0, none⟩ = some (.slice a ds.length (ds.length + c)) ∧ w'.cell? ⟨w.heap.size, 1, none⟩ = some (.int .i64 t))
            (first | go_keep | (go_split_ands; refine ⟨?_, ?_⟩ <;> (rw [kk.cell (by assumption)]; assumption)))
            ((first
              | (go_at_call 133; refine (count_any _ _ _ _).mono ?_; rintro e wz ⟨rfl, rfl⟩)
              | (go_at_call 164; refine (areRight_any _ _ _ (h.keep KK) hx).mono ?_; rintro e wz ⟨rfl, kk⟩; have KK := KK.trans kk; have z1 := Nat.lt_of_lt_of_le z1 kk.size)
              | (go_at_call 165; refine (areTogether_any _ _ _ (h.keep KK) hx).mono ?_; rintro e wz ⟨rfl, kk⟩; have KK := KK.trans kk; have z1 := Nat.lt_of_lt_of_le z1 kk.size)
              | (go_at_call 135; refine (groups_any _ _ _ (h.keep KK) hx).mono ?_; rintro e wz ⟨rfl, kk⟩; have KK := KK.trans kk; have z1 := Nat.lt_of_lt_of_le z1 kk.size)
              | (go_at_call 166; refine (setAnd_bits _ _ _).mono ?_; rintro e wz ⟨rfl, rfl⟩)))
          all_goals
            go_wp2
            go_ret
            exact ⟨by rw [HE.out]; rfl, KK⟩
        · have HE : Hid (rightB ds t = true) := Lib.hid (right_true h5 ha ht h0)
          go_enter Tryz.func132, Tryz.ntmps132
          go_wp2
          go_region_held3 (fun w' => w'.cell? ⟨w.heap.size, 0, none⟩ = some (.slice a ds.length (ds.length + c)) ∧ w'.cell? ⟨w.heap.size, 1, none⟩ = some (.int .i64 t))
            (first | go_keep | (go_split_ands; refine ⟨?_, ?_⟩ <;> (rw [kk.cell (by assumption)]; assumption)))
            ((first
              | (go_at_call 133; refine (count_any _ _ _ _).mono ?_; rintro e wz ⟨rfl, rfl⟩)
              | (go_at_call 164; refine (areRight_any _ _ _ (h.keep KK) hx).mono ?_; rintro e wz ⟨rfl, kk⟩; have KK := KK.trans kk; have z1 := Nat.lt_of_lt_of_le z1 kk.size)
              | (go_at_call 165; refine (areTogether_any _ _ _ (h.keep KK) hx).mono ?_; rintro e wz ⟨rfl, kk⟩; have KK := KK.trans kk; have z1 := Nat.lt_of_lt_of_le z1 kk.size)
              | (go_at_call 135; refine (groups_any _ _ _ (h.keep KK) hx).mono ?_; rintro e wz ⟨rfl, kk⟩; have KK := KK.trans kk; have z1 := Nat.lt_of_lt_of_le z1 kk.size)
              | (go_at_call 166; refine (setAnd_bits _ _ _).mono ?_; rintro e wz ⟨rfl, rfl⟩)))
          all_goals
            go_wp2
            go_ret
            exact ⟨by rw [HE.out]; rfl, KK⟩
  · have e5 : decide (ds.length ≤ 5) = false := decide_eq_false h5
    have e5' : decide ((ds.length : Int) ≤ 5) = false := decide_eq_false (by omega)
    have HE : Hid (rightB ds t = false) := Lib.hid (by rw [rightB, e5]; rfl)
    go_enter Tryz.func132, Tryz.ntmps132
    go_wp2
    go_quiet ((go_at_call 133; exact Calls.quiet_of_same (count_any _ _ _ _)))
    go_wp2
    go_ret
    exact ⟨by rw [HE.out]; rfl, ((Keep.refl w).alloc _).drewN _⟩
end Go.Proofs.YtkbkdlaknmgjpaaGreat

/- Contract of the program's clerksOf: a new list of clerks, each with its deeds and the Groups of those ahead. -/
namespace Go.Proofs.YtkbkdlaknmgjpaaGreat
open Go.ChangeShapes Go.WideShapes Go.ChangeAt Go.RowKit

theorem Tryz.infoC : (Tryz.prog.info? 94).map (fun i => (i.zero, i.size, i.bytes)) = some (some (.agg #[.slice none 0 0, .int .i64 0]), 2, 32) := by kernel_rfl
abbrev boxC2 (v : Value) (t : Int) : Obj := .cells #[v, .int .i64 t] 94
/-- Clerks that can be read. -/
def RdC (w : World) (v : Value) (dss : List (List Dd)) : Prop :=
  ∃ (a : Option Addr) (cap : Nat), v = .slice a dss.length cap ∧
    (dss = [] ∨ ∃ b, a = some ⟨b, 0, none⟩ ∧ b < w.heap.size ∧ ∀ i, i < dss.length → ∃ vi, w.cell? ⟨b, i * 2, none⟩ = some vi ∧ RdD w vi (dss.getD i []) ∧ w.cell? ⟨b, i * 2 + 1, none⟩ = some (.int .i64 (takW dss i)))
theorem RdC.keep {w w' : World} {v : Value} {dss : List (List Dd)} (h : RdC w v dss) (k : Keep w w') : RdC w' v dss := by
  obtain ⟨a, cap, hv, h⟩ := h
  refine ⟨a, cap, hv, ?_⟩
  rcases h with h | ⟨b, ha, hb, hc⟩
  · exact .inl h
  · refine .inr ⟨b, ha, Nat.lt_of_lt_of_le hb k.size, fun i hi => ?_⟩
    obtain ⟨vi, h1, h2, h3⟩ := hc i hi
    exact ⟨vi, (k.cell hb).trans h1, h2.keep k, (k.cell hb).trans h3⟩
def cellC (V : Nat → Value) (dss : List (List Dd)) (k : Nat) : List Value := (List.range k).flatMap fun i => [V i, .int .i64 (takW dss i)]
theorem cellC_more (V : Nat → Value) (dss : List (List Dd)) (k : Nat) : cellC V dss (k + 1) = cellC V dss k ++ [V k, .int .i64 (takW dss k)] := by
  unfold cellC; rw [List.range_succ, List.flatMap_append]; simp
theorem cellC_len (V : Nat → Value) (dss : List (List Dd)) : ∀ k, (cellC V dss k).length = k * 2
  | 0 => rfl
  | k + 1 => by rw [cellC_more, List.length_append, cellC_len V dss k]; simp; omega
theorem cellC_at (V : Nat → Value) (dss : List (List Dd)) : ∀ k i, i < k → (cellC V dss k)[i * 2]? = some (V i) ∧ (cellC V dss k)[i * 2 + 1]? = some (.int .i64 (takW dss i))
  | 0, i, h => by omega
  | k + 1, i, h => by
    rw [cellC_more]
    by_cases e : i < k
    · have ih := cellC_at V dss k i e
      have hl := cellC_len V dss k
      rw [List.getElem?_append_left (by omega), List.getElem?_append_left (by omega)]
      exact ih
    · obtain rfl : i = k := by omega
      have hl := cellC_len V dss i
      rw [List.getElem?_append_right (by omega), List.getElem?_append_right (by omega), hl]
      simp
theorem rdC_of {w0 w : World} {base : Nat} {v : Value} {V : Nat → Value} {dss : List (List Dd)} (h : w.ownsRow base 94 2 v dss.length (cellC V dss dss.length)) (k : Keep w0 w) (hV : ∀ i, i < dss.length → RdD w0 (V i) (dss.getD i [])) : RdC w v dss := by
  have h2 := h
  have hlt := World.ownsRow.lt h
  rcases h.2 with ⟨rfl, hn⟩ | ⟨g, cap, cur, rfl, hb, hg, _, _, hs, _⟩
  · have : dss = [] := List.eq_nil_of_length_eq_zero hn
    subst this
    exact ⟨none, 0, rfl, .inl rfl⟩
  · refine ⟨_, _, rfl, .inr ⟨g, rfl, (hlt g rfl).2, fun i hi => ?_⟩⟩
    have hc := cellC_at V dss dss.length i hi
    have c1 := World.ownsRow.cellAt h2 (i * 2) (by omega)
    have c2 := World.ownsRow.cellAt h2 (i * 2 + 1) (by omega)
    exact ⟨V i, by rw [c1, hc.1], (hV i hi).keep k, by rw [c2, hc.2]⟩
set_option maxRecDepth 100000 in
set_option maxHeartbeats 4000000 in
theorem clerksOf_own (w0 w : World) (kw : Keep w0 w) (v : Value) (dss : List (List Dd)) (h : RdW w0 v dss) (hx : dss.length ≤ 3) (hm : ∀ i, i < dss.length → (dss.getD i []).length ≤ 1048576) :
    Calls Tryz.prog 83 #[v] w fun e w' => ∃ v', e = .returned v' ∧ (∃ V : Nat → Value, w'.ownsRow w.heap.size 94 2 v' dss.length (cellC V dss dss.length) ∧ ∀ i, i < dss.length → RdD w0 (V i) (dss.getD i [])) ∧ Keep w w' := by
  obtain ⟨a, c, rfl, h⟩ := h
  have start : (w.alloc (.cells #[] 94)).ownsRow w.heap.size 94 2 (.slice (some ⟨w.heap.size, 0, none⟩) 0 0) 0 [] := World.ownsRow_lit w #[] 0 (Nat.le_refl _) (by decide) rfl
  obtain ⟨i0, hi, hz0, hz1, hz2⟩ := info_parts Tryz.infoC
  obtain ⟨V, hV⟩ : ∃ V : Nat → Value, ∀ i, i < dss.length → RdD w0 (V i) (dss.getD i []) ∧ ∀ b o, a = some ⟨b, o, none⟩ → b < w0.heap.size ∧ w0.cell? ⟨b, o + i, none⟩ = some (V i) := by
    rcases h with h | ⟨b, o, rfl, hb, hc⟩
    · exact ⟨fun _ => Value.bool false, fun i hi => by rw [h] at hi; simp at hi⟩
    · obtain ⟨V, hV⟩ := Deep.choose_lt hc
      refine ⟨V, fun i hi => ⟨(hV i hi).2, fun b' o' e => ?_⟩⟩
      simp only [Option.some.injEq, Addr.mk.injEq, and_true] at e
      obtain ⟨rfl, rfl⟩ := e
      exact ⟨hb, (hV i hi).1⟩
  have hA : dss.length = 0 ∨ ∃ b o, a = some ⟨b, o, none⟩ := by
    rcases h with h | ⟨b, o, rfl, hb, hc⟩
    · left; rw [h]; rfl
    · exact .inr ⟨b, o, rfl⟩
  clear h
  go_enter Tryz.func83, Tryz.ntmps83
  go_wp2
  go_loopw [3, 4, 11] (fun x t i wr => ∃ k : Nat, k ≤ dss.length ∧ i = .int .i64 k ∧ t = .int .i64 (takW dss k) ∧ wr.ownsRow w.heap.size 94 2 x k (cellC V dss k) ∧ Keep w wr) (fun _ _ i _ => dss.length - (intOf i).toNat)
  case atStart => exact ⟨0, Nat.zero_le _, rfl, rfl, start, (Keep.refl w).alloc _⟩
  case round =>
    obtain ⟨k, hk, rfl, rfl, ho, hK⟩ := hrel
    clear start
    by_cases hlt : k < dss.length
    · obtain ⟨b, o, rfl⟩ : ∃ b o, a = some ⟨b, o, none⟩ := hA.resolve_left (by omega)
      obtain ⟨hR, hC⟩ := hV k hlt
      obtain ⟨hb, hC⟩ := hC b o rfl
      have hmk := hm k hlt
      have HM := Lib.hid (cellC_more V dss k)
      have HT : Hid (takW dss (k + 1) = bits .or .i64 (takW dss k) (gC (dss.getD k []))) := Lib.hid rfl
      have HV := Lib.hid hV
      clear hV hm hA
      obtain ⟨ds, hds⟩ : ∃ ds, ds = dss.getD k [] := ⟨_, rfl⟩
      rw [← hds] at hR hmk HT
      clear hds
      generalize takW dss k = t at HM HT
      have hK0 := kw.trans hK
      have d1 := (hK0.cell hb).trans hC
      have R1 := hR.keep hK0
      obtain ⟨u, hu⟩ : ∃ u, u = V k := ⟨_, rfl⟩
      rw [← hu] at d1 R1 HM
      have R0 := hR
      rw [← hu] at R0
      clear hu hC hR
      obtain ⟨ai, ci, rfl, -⟩ := id R1
      have hbw : b < wr.heap.size := Nat.lt_of_lt_of_le hb hK0.size
      have hsz := hK.size
      have i1 : (0 : Int) ≤ (k : Int) := Int.natCast_nonneg _
      have i2 : (k : Int) < (dss.length : Int) := by omega
      have ho2 := World.ownsRow.kept ho (((Keep.refl wr).alloc (boxC2 (.slice ai ds.length (ds.length + ci)) t)).alloc (.cells #[.slice ai ds.length (ds.length + ci), .int .i64 t] 94)).grownBy (by cases u3.ownBlock <;> simp)
      go_wp2_with (at_builtin; refine wpList_append_own_at _ rfl _ _ 90 rfl w.heap.size 94 i0 (.agg #[.slice none 0 0, .int .i64 0]) 2 32 Tryz.underlying90 hi hz0 hz1 hz2 rfl (by decide) _ _ _ rfl ho2 ⟨_, 0, none⟩ 1 1 [.slice ai ds.length (ds.length + ci), .int .i64 t] rfl rfl ?c1 ?c2 ?c3 ?c4 ?c5 ?_)
      case c1 =>
        intro j u hj
        match j, hj with
        | 0, hj => simp at hj; subst hj; simp [Addr.add]
        | 1, hj => simp at hj; subst hj; simp [Addr.add]
        | n + 2, hj => simp at hj
      case c2 => intro u hu; simp at hu; rcases hu with rfl | rfl <;> rfl
      case c3 => unfold maxLen; first | omega | (simp; omega)
      case c4 => first | omega | (simp; omega)
      case c5 => first | omega | (simp; omega)
      intro v' w2 hown' hgrow _ _
      rw [← HM.out] at hown'
      have hK2 : Keep w w2 := ((hK.alloc _).alloc _).grown hgrow (fun g hg => (World.ownsRow.lt ho g hg).1)
      have hbox : w2.heap[wr.heap.size]? = some (boxC2 (.slice ai ds.length (ds.length + ci)) t) :=
        (hgrow.block wr.heap.size (by rw [heap_size, heap_size]; omega) (fun e => by have := (World.ownsRow.lt ho _ e.symm).2; omega)).trans (by rw [heap_at, if_neg (by rw [heap_size]; omega), heap_at, if_pos rfl])
      have b0 : w2.cell? ⟨wr.heap.size, 0, none⟩ = some (.slice ai ds.length (ds.length + ci)) := by rw [cell_of_row w2 _ 0 _ _ (0, 0) hbox]; rfl
      have R2 := R0.keep (kw.trans hK2)
      clear hgrow hbox
      go_wp2_with fail
      refine (groups_any _ _ _ R2 hmk).mono ?_
      rintro e w3 ⟨rfl, k3⟩
      have ho3 := World.ownsRow.kept hown' k3.grownBy (by cases v'.ownBlock <;> simp)
      go_wp2_with fail
      refine (setOr_bits _ _ _).mono ?_
      rintro e w4 ⟨rfl, rfl⟩
      go_wp2
      go_roundw
      case rel => exact ⟨k + 1, by omega, by go_num, by rw [HT.out], ho3, hK2.trans k3⟩
      case measure => simp [intOf]; omega
    · obtain rfl : k = dss.length := by omega
      go_wp2
      go_ret
      exact ⟨_, rfl, ⟨V, ho, fun i hi => (hV i hi).1⟩, hK⟩
theorem clerksOf_any (w : World) (v : Value) (dss : List (List Dd)) (h : RdW w v dss) (hx : dss.length ≤ 3) (hm : ∀ i, i < dss.length → (dss.getD i []).length ≤ 1048576) :
    Calls Tryz.prog 83 #[v] w fun e w' => ∃ v', e = .returned v' ∧ RdC w' v' dss ∧ Keep w w' :=
  (clerksOf_own w w (Keep.refl w) v dss h hx hm).mono fun _ _ ⟨v', he, ⟨_, ho, hV⟩, hK⟩ => ⟨v', he, rdC_of ho hK hV, hK⟩
/-- The clerks lie in a block of their own, their deeds where they lay ahead of it. -/
def ClksAt (w0 wc w : World) (v : Value) (dss : List (List Dd)) : Prop :=
  ∃ (b c : Nat) (V : Nat → Value), v = .slice (some ⟨b, 0, none⟩) dss.length c ∧ wc.heap.size ≤ b ∧ b < w.heap.size ∧
    ∀ i, i < dss.length → RdD w0 (V i) (dss.getD i []) ∧ w.cell? ⟨b, i * 2, none⟩ = some (V i) ∧ w.cell? ⟨b, i * 2 + 1, none⟩ = some (.int .i64 (takW dss i))
theorem clerksOf_at (w0 w : World) (kw : Keep w0 w) (v : Value) (dss : List (List Dd)) (h : RdW w0 v dss) (h1 : 1 ≤ dss.length) (hx : dss.length ≤ 3) (hm : ∀ i, i < dss.length → (dss.getD i []).length ≤ 1048576) :
    Calls Tryz.prog 83 #[v] w fun e w' => ∃ v', e = .returned v' ∧ ClksAt w0 w w' v' dss ∧ Keep w w' := by
  refine (clerksOf_own w0 w kw v dss h hx hm).mono fun _ w' ⟨v', he, ⟨V, ho, hV⟩, hK⟩ => ⟨v', he, ?_, hK⟩
  have hlt := World.ownsRow.lt ho
  have h2 := ho
  rcases ho.2 with ⟨_, hn⟩ | ⟨g, cap, cur, rfl, hb, hg, _, _, hs, _⟩
  · omega
  · refine ⟨g, cap, V, rfl, hb, (hlt g rfl).2, fun i hi => ?_⟩
    have hc := cellC_at V dss dss.length i hi
    have c1 := World.ownsRow.cellAt h2 (i * 2) (by omega)
    have c2 := World.ownsRow.cellAt h2 (i * 2 + 1) (by omega)
    exact ⟨hV i hi, by rw [c1, hc.1], by rw [c2, hc.2]⟩
end Go.Proofs.YtkbkdlaknmgjpaaGreat

/- Contract of the program's WorkOk. -/
namespace Go.Proofs.YtkbkdlaknmgjpaaGreat
open Go.ChangeShapes Go.WideShapes Go.ChangeAt Go.RowKit

theorem lenW_moreC (d : List Dd) : ∀ l : List (List Dd), lenW (l ++ [d]) = lenW l + d.length
  | [] => by simp [lenW]
  | x :: r => by rw [List.cons_append, lenW, lenW, lenW_moreC d r]; omega
theorem take_moreC {α : Type} (l : List α) (k : Nat) (z : α) (h : k < l.length) : l.take (k + 1) = l.take k ++ [l.getD k z] := by
  rw [List.take_add_one, List.getElem?_eq_getElem h, List.getD_eq_getElem?_getD, List.getElem?_eq_getElem h]
  rfl
theorem rightB_len {ds : List Dd} {t : Int} (h : rightB ds t = true) : ds.length ≤ 5 := by
  simp only [rightB, Bool.and_eq_true, decide_eq_true_eq] at h
  exact h.1.1.1
set_option maxRecDepth 100000 in
set_option maxHeartbeats 4000000 in
theorem implWorkOk_any (w : World) (v : Value) (dss : List (List Dd)) (h : RdW w v dss) (hx : dss.length ≤ 1048576) (hm : ∀ i, i < dss.length → (dss.getD i []).length ≤ 1048576) :
    Calls Tryz.prog 81 #[v] w fun e w' => e = .returned (.bool (workB dss)) ∧ Keep w w' := by
  have RW := h
  obtain ⟨a, c, rfl, h⟩ := h
  clear h
  have HW := Lib.hid (work_rights dss)
  cases hb : inB (dss.length : Int) 1 3
  · have HE : Hid (workB dss = false) := by
      refine Lib.hid ?_
      simp [inB] at hb
      rw [HW.out, decide_eq_false (by omega)]
      rfl
    go_enter Tryz.func81, Tryz.ntmps81
    go_wp2_with (go_at_call 131; refine (isFrom_any _ _ _ _).mono ?_; rintro e w' ⟨rfl, rfl⟩)
    go_ret
    exact ⟨by rw [HE.out]; rfl, Keep.refl _⟩
  · have h13 : 1 ≤ dss.length ∧ dss.length ≤ 3 := by simp [inB] at hb; omega
    have HW2 : Hid (workB dss = (rightsW dss dss.length && decide (lenW dss ≤ 12) && decide (evW dss dss.length ≤ 6))) := Lib.hid (by rw [HW.out, decide_eq_true h13]; rfl)
    have h3 := h13.2
    clear h13 HW
    go_enter Tryz.func81, Tryz.ntmps81
    go_wp2_with fail
    refine (isFrom_any _ _ _ _).mono ?_
    rintro e w' ⟨rfl, rfl⟩
    go_wp2_with fail
    refine (clerksOf_any _ _ _ RW h3 hm).mono ?_
    rintro e w1 ⟨v1, rfl, rc, k1⟩
    clear hb RW
    obtain ⟨a1, c1, rfl, rc⟩ := rc
    go_wp2
    go_loopw [3, 4, 14] (fun n m i wr => ∃ k x : Nat, ∃ y : Int, k ≤ dss.length ∧ n = .int .i64 x ∧ m = .int .i64 y ∧ i = .int .i64 k ∧ Hid (x = lenW (dss.take k) ∧ y = evW dss k ∧ rightsW dss k = true) ∧ x ≤ 5 * k ∧ 0 ≤ y ∧ y ≤ 10 * k ∧ Keep w1 wr) (fun _ _ i _ => dss.length - (intOf i).toNat)
    case atStart => exact ⟨0, 0, 0, Nat.zero_le _, rfl, rfl, rfl, Lib.hid ⟨by simp [lenW], rfl, rfl⟩, by omega, by omega, by omega, Keep.refl _⟩
    case round =>
      obtain ⟨k, x, y, hk, rfl, rfl, rfl, hM, x5, y0, y1, hK⟩ := hrel
      by_cases hlt : k < dss.length
      · rcases rc with h | ⟨b, rfl, hb, hc⟩
        · exfalso; rw [h] at hlt; simp at hlt
        obtain ⟨vi, e1, r1, e2⟩ := hc k hlt
        have hmk := hm k hlt
        clear hc hm
        have HR : Hid (rightsW dss (k + 1) = (rightsW dss k && rightB (dss.getD k []) (takW dss k))) := Lib.hid rfl
        have HV : Hid (evW dss (k + 1) = evW dss k + evK (dss.getD k []) (dss.getD k []).length) := Lib.hid rfl
        have HN : Hid (lenW (dss.take (k + 1)) = lenW (dss.take k) + (dss.getD k []).length) := Lib.hid (by rw [take_moreC dss k [] hlt, lenW_moreC])
        obtain ⟨ds, hds⟩ : ∃ ds, ds = dss.getD k [] := ⟨_, rfl⟩
        rw [← hds] at r1 hmk HR HV HN
        clear hds
        generalize takW dss k = t at e2 HR
        have d1 := (hK.cell hb).trans e1
        have d2 := (hK.cell hb).trans e2
        have r1 := r1.keep hK
        obtain ⟨ai, ci, rfl, -⟩ := id r1
        have hbw : b < wr.heap.size := Nat.lt_of_lt_of_le hb hK.size
        have i1 : (0 : Int) ≤ (k : Int) := Int.natCast_nonneg _
        have i2 : (k : Int) < (dss.length : Int) := by omega
        clear e1 e2
        cases hr : rightB ds t
        · have HE : Hid (workB dss = false) := Lib.hid (by
            rw [HW2.out, rightsW_false (k := k + 1) (by rw [HR.out, hr]; simp) _ hlt]
            rfl)
          have HRR := Lib.hid hr
          clear hr
          go_wp2_with fail
          refine (isRight_any _ _ _ _ (r1.keep ((Keep.refl _).alloc _)) hmk).mono ?_
          rw [HRR.out]
          rintro e wz ⟨rfl, kk⟩
          go_wp2
          go_ret
          exact ⟨by rw [HE.out]; rfl, k1.trans ((hK.alloc _).trans kk)⟩
        · have l5 := rightB_len hr
          have HRR := Lib.hid hr
          have EK := evK_in ds ds.length
          clear hr
          go_wp2_with fail
          refine (isRight_any _ _ _ _ (r1.keep ((Keep.refl _).alloc _)) hmk).mono ?_
          rw [HRR.out]
          rintro e wz ⟨rfl, kk⟩
          have b0 : wz.cell? ⟨wr.heap.size, 0, none⟩ = some (.slice ai ds.length (ds.length + ci)) := box_cell kk 0
          have bs : wr.heap.size < wz.heap.size := box_size kk
          have r2 := r1.keep (((Keep.refl _).alloc _).trans kk)
          have hKz := (hK.alloc (.cells #[.slice ai ds.length (ds.length + ci), .int .i64 t] 94)).trans kk
          clear d1 d2 kk
          go_wp2_with fail
          refine (count_any _ _ _ _).mono ?_
          rintro e w3 ⟨rfl, rfl⟩
          go_wp2_with fail
          refine (events_any _ _ _ r2 hmk).mono ?_
          rintro e w4 ⟨rfl, k4⟩
          have HH : Hid (x + ds.length = lenW (dss.take (k + 1)) ∧ y + evK ds ds.length = evW dss (k + 1) ∧ rightsW dss (k + 1) = true) := Lib.hid ⟨by rw [HN.out, hM.out.1], by rw [HV.out, hM.out.2.1], by rw [HR.out, hM.out.2.2, HRR.out]; rfl⟩
          generalize evK ds ds.length = ev at EK HH
          go_wp2
          go_roundw
          case rel => exact ⟨k + 1, x + ds.length, y + ev, by omega, by go_num, by go_num, by go_num, HH, by omega, by omega, by omega, hKz.trans k4⟩
          case measure => simp [intOf]; omega
      · obtain rfl : k = dss.length := by omega
        rw [List.take_length] at hM
        have HE : Hid (workB dss = (decide (x ≤ 12) && decide (y ≤ 6))) := Lib.hid (by rw [HW2.out, hM.out.2.2, hM.out.1, hM.out.2.1]; rfl)
        clear hM HW2 rc hm
        by_cases h12 : x ≤ 12
        · have e12 : (x : Int) ≤ 12 := by omega
          by_cases h6 : y ≤ 6
          · go_wp2
            go_ret
            exact ⟨by rw [HE.out, decide_eq_true h12, decide_eq_true h6]; rfl, k1.trans hK⟩
          · have e6 : (6 : Int) < y := by omega
            go_wp2
            go_ret
            exact ⟨by rw [HE.out, decide_eq_true h12, decide_eq_false (show ¬ y ≤ 6 by omega)]; rfl, k1.trans hK⟩
        · have e12 : (12 : Int) < (x : Int) := by omega
          go_wp2
          go_ret
          exact ⟨by rw [HE.out, decide_eq_false (show ¬ x ≤ 12 by omega)]; rfl, k1.trans hK⟩
end Go.Proofs.YtkbkdlaknmgjpaaGreat

/- Contract of the program's EventsOf: the events of a right work, in order; of all else nothing. (Written by mkevi.py.) -/
namespace Go.Proofs.YtkbkdlaknmgjpaaGreat
open Go.ChangeShapes Go.WideShapes Go.ChangeAt Go.RowKit

theorem workB_useE {dss : List (List Dd)} (h : workB dss = true) : 1 ≤ dss.length ∧ dss.length ≤ 3 ∧ ∀ i, i < dss.length → okL (dss.getD i []) = true := by
  simp only [workB, Bool.and_eq_true, decide_eq_true_eq] at h
  obtain ⟨⟨⟨⟨h1, h2⟩, _⟩, _⟩, _⟩ := h
  exact ⟨h1.1, h1.2, fun i hi => all_get [] h2 i hi⟩
abbrev cO (v : Value) (t : Int) : Obj := .cells #[v, .int .i64 t] 94
abbrev dO (k p v g : Int) : Obj := .cells #[.int .i64 k, .int .i64 p, .int .i64 v, .int .i64 g] 96
set_option maxRecDepth 100000 in
set_option maxHeartbeats 8000000 in
theorem implEventsOf_any (w : World) (v : Value) (dss : List (List Dd)) (h : RdW w v dss) (hx : dss.length ≤ 1048576) (hm : ∀ i, i < dss.length → (dss.getD i []).length ≤ 1048576) :
    Calls Tryz.prog 40 #[v] w fun e w' => ∃ v', e = .returned v' ∧ AppE w' w.heap.size v' (eventsB dss) ∧ Keep w w' := by
  cases hb : workB dss
  · have HE : Hid (eventsB dss = []) := Lib.hid (by rw [eventsB, hb]; rfl)
    have O : ∀ w1 : World, Keep w w1 → AppE (w1.alloc (.cells #[] 40)) w.heap.size (.slice (some ⟨w1.heap.size, 0, none⟩) 0 0) [] := fun w1 k1 => World.ownsRow_lit w1 #[] 0 k1.size (by decide) (by simp)
    go_enter Tryz.func40, Tryz.ntmps40
    go_wp2_with fail
    refine (implWorkOk_any _ _ _ h hx hm).mono ?_
    rintro e w1 ⟨rfl, k1⟩
    go_wp2
    go_ret
    exact ⟨_, rfl, by rw [HE.out]; exact O w1 k1, k1.alloc _⟩
  · obtain ⟨h1, h3, u2⟩ := workB_useE hb
    have HE : Hid (eventsB dss = evsP dss dss.length) := Lib.hid (by rw [eventsB, if_pos hb, (evsP_same hb dss.length (Nat.le_refl _)).1])
    obtain ⟨j0, hj, hy0, hy1, hy2⟩ := info_parts Tryz.infoE
    go_enter Tryz.func40, Tryz.ntmps40
    go_wp2_with fail
    refine (implWorkOk_any _ _ _ h hx hm).mono ?_
    rintro e w0 ⟨rfl, k0⟩
    go_wp2_with fail
    refine (beginnings_any _).mono ?_
    rintro e w1 ⟨x1, rfl, a1, k1⟩
    go_wp2_with fail
    refine (clerksOf_at w _ (k0.trans k1) _ _ h h1 h3 hm).mono ?_
    rintro e w2 ⟨v2, rfl, rc, k2⟩
    have K01 : Keep w0 w2 := k1.trans k2
    have hsz0 := k0.size
    clear hb h hm hx
    obtain ⟨b, c1, V, rfl, hbl, hbu, hc⟩ := rc
    have HR : ∀ i, i < dss.length → RdD w (V i) (dss.getD i []) := fun i hi => (hc i hi).1
    obtain ⟨ob, hob⟩ : ∃ ob, w2.heap[b]? = some ob := ⟨_, Array.getElem?_eq_getElem hbu⟩
    have HC : ∀ wq : World, wq.heap[b]? = some ob → ∀ i, i < dss.length → wq.cell? ⟨b, i * 2, none⟩ = some (V i) ∧ wq.cell? ⟨b, i * 2 + 1, none⟩ = some (.int .i64 (takW dss i)) := fun wq hq i hi => by
      have e : wq.heap[b]? = w2.heap[b]? := hq.trans hob.symm
      have f : ∀ j, wq.cell? ⟨b, j, none⟩ = w2.cell? ⟨b, j, none⟩ := fun j => by simp only [World.cell?, e]
      exact ⟨(f _).trans (hc i hi).2.1, (f _).trans (hc i hi).2.2⟩
    clear hc
    have L0 : LP w0 w2 x1 evBeg [(b, ob)] := LP.add ⟨a1.keep k2, K01, by simp⟩ b ob (fun e => by have := (a1.lt _ e).2; omega) hob
    clear a1 hob hbl
    go_wp2
    go_loopw [3, 20] (fun x i wr => ∃ k : Nat, ∃ es : List Ev, k ≤ dss.length ∧ i = .int .i64 k ∧ Hid (es = evsP dss k) ∧ 1 ≤ es.length ∧ es.length ≤ 3 + 10 * k ∧ LP w0 wr x es [(b, ob)]) (fun _ i _ => dss.length - (intOf i).toNat)
    case atStart => exact ⟨0, evBeg, Nat.zero_le _, rfl, Lib.hid rfl, by decide, by decide, L0⟩
    case round =>
      clear L0 K01 k2 hbu
      obtain ⟨k, es, hk, rfl, hE, he1, hel, hL⟩ := hrel
      by_cases hlt : k < dss.length
      · have r1 := HR k hlt
        have hKw : Keep w wr := k0.trans hL.keep
        obtain ⟨d1, d2⟩ := HC wr (hL.held b ob (by simp)).2 k hlt
        have hbw := hL.lt (n := b) (o := ob) (by simp)
        have okk := u2 k hlt
        have HV : Hid (evsP dss (k + 1) = clkP k (dss.getD k []) es (dss.getD k []).length) := Lib.hid (by rw [evsP, hE.out])
        obtain ⟨ds, hds⟩ : ∃ ds, ds = dss.getD k [] := ⟨_, rfl⟩
        rw [← hds] at r1 okk HV
        clear hds
        generalize takW dss k = t at d2
        obtain ⟨u, hu⟩ : ∃ u, u = V k := ⟨_, rfl⟩
        rw [← hu] at d1 r1
        clear hu
        have R1 := r1
        obtain ⟨ai, ci, rfl, r1⟩ := r1
        have hl5 : ds.length ≤ 5 := by simp [okL] at okk; omega
        have i1 : (0 : Int) ≤ (k : Int) := Int.natCast_nonneg _
        have i2 : (k : Int) < (dss.length : Int) := by omega
        obtain ⟨wo, hwo⟩ : ∃ wo : World, wo = wr := ⟨_, rfl⟩
        subst hwo
        have L1 := hL.new (cO (.slice ai ds.length (ds.length + ci)) t)
        go_wp2
        go_loopw [3, 28] (fun x i wq => ∃ q : Nat, ∃ evs : List Ev, q ≤ ds.length ∧ i = .int .i64 q ∧ Hid (evs = clkP k ds es q) ∧ 1 ≤ evs.length ∧ evs.length ≤ 3 + 10 * k + 2 * q ∧ LP w0 wq x evs [(wo.heap.size, cO (.slice ai ds.length (ds.length + ci)) t), (b, ob)]) (fun _ i _ => ds.length - (intOf i).toNat)
        case atStart => exact ⟨0, es, Nat.zero_le _, rfl, Lib.hid rfl, he1, by omega, L1⟩
        case round =>
          clear L1 d1 d2
          obtain ⟨q, evs, hq, rfl, hC, hv1, hev, hI⟩ := hrel
          by_cases hlq : q < ds.length
          · have hKq : Keep w wr := k0.trans hI.keep
            have R2 := R1.keep hKq
            rcases r1 with h | ⟨b2, o2, rfl, hb2, hc2⟩
            · exfalso; rw [h] at hlq; simp at hlq
            have AT := (hc2 q hlq).keep hb2 hKq
            have okq : okD (ds.getD q zD) = true := by
              simp only [okL, Bool.and_eq_true] at okk
              exact all_get zD okk.1 q hlq
            clear hc2 okk
            have hb3 : b2 < wr.heap.size := Nat.lt_of_lt_of_le hb2 hKq.size
            have HST : Hid (clkP k ds es (q + 1) = evs ++ oneE k q (ds.getD q zD) (ncE evs (goB ds q))) := Lib.hid (by rw [clkP, hC.out])
            clear hC
            obtain ⟨d, hd⟩ : ∃ d, d = ds.getD q zD := ⟨_, rfl⟩
            rw [← hd] at AT okq HST
            clear hd
            have KD := okD_kindE okq
            obtain ⟨x0, x1, x2, x3⟩ := d
            obtain ⟨A0, A1, A2, A3⟩ := AT
            simp only at A0 A1 A2 A3 KD
            have j1 : (0 : Int) ≤ (q : Int) := Int.natCast_nonneg _
            have j2 : (q : Int) < (ds.length : Int) := by omega
            have z5 := hI.lt (n := wo.heap.size) (o := cO (.slice (some ⟨b2, o2, none⟩) ds.length (ds.length + ci)) t) (by simp)
            have c5 : wr.cell? ⟨wo.heap.size, 0, none⟩ = some (.slice (some ⟨b2, o2, none⟩) ds.length (ds.length + ci)) := (hI.held wo.heap.size (cO (.slice (some ⟨b2, o2, none⟩) ds.length (ds.length + ci)) t) (by simp)) |>.2 |> fun h => cell_of_row wr _ 0 _ _ (0, 0) h
            clear okq
            rcases KD with rfl | rfl | rfl | rfl
            · have HS : Hid (clkP k ds es (q + 1) = evs ++ oneE k q (1, x1, x2, x3) (ncE evs (goB ds q))) := HST
              clear HST
              have L2 := hI.new (dO 1 x1 x2 x3)
              have K2 : Keep wr (wr.alloc (dO 1 x1 x2 x3)) := (Keep.refl wr).alloc _
              have R3 := R2.keep K2
              go_wp2_with fail
              refine (goesOn_any _ _ _ R3 q hlq (by omega)).mono ?_
              rintro e w3 ⟨rfl, k3⟩
              have L3 := L2.more k3
              go_wp2_with fail
              refine (nextClass_any _ _ _ L3.app.rd (by omega) hv1 _).mono ?_
              generalize goB ds q = go at HS
              generalize hcl : ncE evs go = cl at HS
              clear hcl
              rintro e w4 ⟨rfl, k4⟩
              have L4 := L3.more k4
              have z7 := L4.lt (n := wr.heap.size) (o := dO 1 x1 x2 x3) (by simp)
              have s0 : w4.cell? ⟨wr.heap.size, 0, none⟩ = some (.int .i64 1) := L4.cell (n := wr.heap.size) (cs := #[.int .i64 1, .int .i64 x1, .int .i64 x2, .int .i64 x3]) (t := 96) (by simp) 0
              have s1 : w4.cell? ⟨wr.heap.size, 1, none⟩ = some (.int .i64 x1) := L4.cell (n := wr.heap.size) (cs := #[.int .i64 1, .int .i64 x1, .int .i64 x2, .int .i64 x3]) (t := 96) (by simp) 1
              have s2 : w4.cell? ⟨wr.heap.size, 2, none⟩ = some (.int .i64 x2) := L4.cell (n := wr.heap.size) (cs := #[.int .i64 1, .int .i64 x1, .int .i64 x2, .int .i64 x3]) (t := 96) (by simp) 2
              have s3 : w4.cell? ⟨wr.heap.size, 3, none⟩ = some (.int .i64 x3) := L4.cell (n := wr.heap.size) (cs := #[.int .i64 1, .int .i64 x1, .int .i64 x2, .int .i64 x3]) (t := 96) (by simp) 3
              clear A0 A1 A2 A3 c5 L2 L3 R3 K2
              go_wp2_with fail
              refine (shapes_rd _ _ _ _).mono ?_
              rintro e w5 ⟨B, rfl, hB, hBl, k5⟩
              have L5 := L4.later k5 hBl hB
              clear L4 s0 s1 s2 s3 z7 hI
              have z8 := L5.lt (n := B) (o := .cells #[rdV x1] 102) (by simp)
              have c6 : w5.cell? ⟨B, 0, none⟩ = some (rdV x1) := L5.cell (n := B) (cs := #[rdV x1]) (t := 102) (by simp) 0
              go_wp2
              refine wp_loop_rounds 2 ?_
              rw [rounds_succ]
              go_wp2_with fail
              refine (eventOf_rd _ _).mono ?_
              rintro e wa0 ⟨rfl, ka0⟩
              have La0 := L5.more ka0
              have Lb0 := (La0.more ((Keep.refl wa0).alloc (eO k q true x1 0 cl))).more ((Keep.refl _).alloc (eO k q true x1 0 cl))
              have hs0 : w0.heap.size ≤ wa0.heap.size := La0.keep.size
              go_wp2_with (at_builtin; refine wpList_append_own_at _ rfl _ _ 36 rfl w0.heap.size 40 j0 (.agg #[.int .i64 0, .int .i64 0, .bool false, .int .i64 0, .int .i64 0, .int .i64 0]) 6 48 Tryz.underlying36 hj hy0 hy1 hy2 rfl (by decide) _ _ _ rfl Lb0.app ⟨_, 0, none⟩ 1 1 (cE ((k : Int), (q : Int), true, x1, 0, cl)) rfl rfl ?c1_0 ?c2_0 ?c3_0 ?c4_0 ?c5_0 ?_)
              case c1_0 => exact cE_newP _ _ (heap_size _ _) _ _ _ _ _ _
              case c2_0 => exact cE_oneP _
              case c3_0 => unfold maxLen; first | omega | (simp; omega)
              case c4_0 => first | omega | (simp; omega)
              case c5_0 => first | omega | (simp; omega)
              intro v0' wb0 hown' hgrow _ hblk
              have Lc0 := Lb0.hit _ hown' hgrow (by rw [heap_size, heap_size]; exact hblk)
              clear hgrow hown' hblk Lb0 La0 L5
              go_wp2
              rw [rounds_succ]
              go_wp2
              go_roundw
              case rel => exact ⟨q + 1, _, by omega, by go_num, Lib.hid (by rw [HS.out]; simp [oneE]), by first | omega | (simp <;> omega), by first | omega | (simp <;> omega), Lc0.less (fun y hy => by simp only [List.mem_cons, List.not_mem_nil, or_false] at hy ⊢; rcases hy with rfl | rfl <;> simp)⟩
              case measure => simp [intOf]; omega
            · have HS : Hid (clkP k ds es (q + 1) = evs ++ oneE k q (2, x1, x2, x3) (ncE evs (goB ds q))) := HST
              clear HST
              have L2 := hI.new (dO 2 x1 x2 x3)
              have K2 : Keep wr (wr.alloc (dO 2 x1 x2 x3)) := (Keep.refl wr).alloc _
              have R3 := R2.keep K2
              go_wp2_with fail
              refine (goesOn_any _ _ _ R3 q hlq (by omega)).mono ?_
              rintro e w3 ⟨rfl, k3⟩
              have L3 := L2.more k3
              go_wp2_with fail
              refine (nextClass_any _ _ _ L3.app.rd (by omega) hv1 _).mono ?_
              generalize goB ds q = go at HS
              generalize hcl : ncE evs go = cl at HS
              clear hcl
              rintro e w4 ⟨rfl, k4⟩
              have L4 := L3.more k4
              have z7 := L4.lt (n := wr.heap.size) (o := dO 2 x1 x2 x3) (by simp)
              have s0 : w4.cell? ⟨wr.heap.size, 0, none⟩ = some (.int .i64 2) := L4.cell (n := wr.heap.size) (cs := #[.int .i64 2, .int .i64 x1, .int .i64 x2, .int .i64 x3]) (t := 96) (by simp) 0
              have s1 : w4.cell? ⟨wr.heap.size, 1, none⟩ = some (.int .i64 x1) := L4.cell (n := wr.heap.size) (cs := #[.int .i64 2, .int .i64 x1, .int .i64 x2, .int .i64 x3]) (t := 96) (by simp) 1
              have s2 : w4.cell? ⟨wr.heap.size, 2, none⟩ = some (.int .i64 x2) := L4.cell (n := wr.heap.size) (cs := #[.int .i64 2, .int .i64 x1, .int .i64 x2, .int .i64 x3]) (t := 96) (by simp) 2
              have s3 : w4.cell? ⟨wr.heap.size, 3, none⟩ = some (.int .i64 x3) := L4.cell (n := wr.heap.size) (cs := #[.int .i64 2, .int .i64 x1, .int .i64 x2, .int .i64 x3]) (t := 96) (by simp) 3
              clear A0 A1 A2 A3 c5 L2 L3 R3 K2
              go_wp2_with fail
              refine (shapes_wr _ _ _ _).mono ?_
              rintro e w5 ⟨B, rfl, hB, hBl, k5⟩
              have L5 := L4.later k5 hBl hB
              clear L4 s0 s1 s2 s3 z7 hI
              have z8 := L5.lt (n := B) (o := .cells #[wrV x1 x2] 102) (by simp)
              have c6 : w5.cell? ⟨B, 0, none⟩ = some (wrV x1 x2) := L5.cell (n := B) (cs := #[wrV x1 x2]) (t := 102) (by simp) 0
              go_wp2
              refine wp_loop_rounds 2 ?_
              rw [rounds_succ]
              go_wp2_with fail
              refine (eventOf_wr _ _ _).mono ?_
              rintro e wa0 ⟨rfl, ka0⟩
              have La0 := L5.more ka0
              have Lb0 := (La0.more ((Keep.refl wa0).alloc (eO k q false x1 x2 cl))).more ((Keep.refl _).alloc (eO k q false x1 x2 cl))
              have hs0 : w0.heap.size ≤ wa0.heap.size := La0.keep.size
              go_wp2_with (at_builtin; refine wpList_append_own_at _ rfl _ _ 36 rfl w0.heap.size 40 j0 (.agg #[.int .i64 0, .int .i64 0, .bool false, .int .i64 0, .int .i64 0, .int .i64 0]) 6 48 Tryz.underlying36 hj hy0 hy1 hy2 rfl (by decide) _ _ _ rfl Lb0.app ⟨_, 0, none⟩ 1 1 (cE ((k : Int), (q : Int), false, x1, x2, cl)) rfl rfl ?c1_0 ?c2_0 ?c3_0 ?c4_0 ?c5_0 ?_)
              case c1_0 => exact cE_newP _ _ (heap_size _ _) _ _ _ _ _ _
              case c2_0 => exact cE_oneP _
              case c3_0 => unfold maxLen; first | omega | (simp; omega)
              case c4_0 => first | omega | (simp; omega)
              case c5_0 => first | omega | (simp; omega)
              intro v0' wb0 hown' hgrow _ hblk
              have Lc0 := Lb0.hit _ hown' hgrow (by rw [heap_size, heap_size]; exact hblk)
              clear hgrow hown' hblk Lb0 La0 L5
              go_wp2
              rw [rounds_succ]
              go_wp2
              go_roundw
              case rel => exact ⟨q + 1, _, by omega, by go_num, Lib.hid (by rw [HS.out]; simp [oneE]), by first | omega | (simp <;> omega), by first | omega | (simp <;> omega), Lc0.less (fun y hy => by simp only [List.mem_cons, List.not_mem_nil, or_false] at hy ⊢; rcases hy with rfl | rfl <;> simp)⟩
              case measure => simp [intOf]; omega
            · have HS : Hid (clkP k ds es (q + 1) = evs ++ oneE k q (3, x1, x2, x3) (ncE evs (goB ds q))) := HST
              clear HST
              have L2 := hI.new (dO 3 x1 x2 x3)
              have K2 : Keep wr (wr.alloc (dO 3 x1 x2 x3)) := (Keep.refl wr).alloc _
              have R3 := R2.keep K2
              go_wp2_with fail
              refine (goesOn_any _ _ _ R3 q hlq (by omega)).mono ?_
              rintro e w3 ⟨rfl, k3⟩
              have L3 := L2.more k3
              go_wp2_with fail
              refine (nextClass_any _ _ _ L3.app.rd (by omega) hv1 _).mono ?_
              generalize goB ds q = go at HS
              generalize hcl : ncE evs go = cl at HS
              clear hcl
              rintro e w4 ⟨rfl, k4⟩
              have L4 := L3.more k4
              have z7 := L4.lt (n := wr.heap.size) (o := dO 3 x1 x2 x3) (by simp)
              have s0 : w4.cell? ⟨wr.heap.size, 0, none⟩ = some (.int .i64 3) := L4.cell (n := wr.heap.size) (cs := #[.int .i64 3, .int .i64 x1, .int .i64 x2, .int .i64 x3]) (t := 96) (by simp) 0
              have s1 : w4.cell? ⟨wr.heap.size, 1, none⟩ = some (.int .i64 x1) := L4.cell (n := wr.heap.size) (cs := #[.int .i64 3, .int .i64 x1, .int .i64 x2, .int .i64 x3]) (t := 96) (by simp) 1
              have s2 : w4.cell? ⟨wr.heap.size, 2, none⟩ = some (.int .i64 x2) := L4.cell (n := wr.heap.size) (cs := #[.int .i64 3, .int .i64 x1, .int .i64 x2, .int .i64 x3]) (t := 96) (by simp) 2
              have s3 : w4.cell? ⟨wr.heap.size, 3, none⟩ = some (.int .i64 x3) := L4.cell (n := wr.heap.size) (cs := #[.int .i64 3, .int .i64 x1, .int .i64 x2, .int .i64 x3]) (t := 96) (by simp) 3
              clear A0 A1 A2 A3 c5 L2 L3 R3 K2
              go_wp2_with fail
              refine (shapes_sw _ _ _ _).mono ?_
              rintro e w5 ⟨B, rfl, hB, hBl, k5⟩
              have L5 := L4.later k5 hBl hB
              clear L4 s0 s1 s2 s3 z7 hI
              have z8 := L5.lt (n := B) (o := .cells #[rdV x1, wrV x1 x2] 102) (by simp)
              have c6 : w5.cell? ⟨B, 0, none⟩ = some (rdV x1) := L5.cell (n := B) (cs := #[rdV x1, wrV x1 x2]) (t := 102) (by simp) 0
              have c7 : w5.cell? ⟨B, 1, none⟩ = some (wrV x1 x2) := L5.cell (n := B) (cs := #[rdV x1, wrV x1 x2]) (t := 102) (by simp) 1
              go_wp2
              refine wp_loop_rounds 3 ?_
              rw [rounds_succ]
              go_wp2_with fail
              refine (eventOf_rd _ _).mono ?_
              rintro e wa0 ⟨rfl, ka0⟩
              have La0 := L5.more ka0
              have Lb0 := (La0.more ((Keep.refl wa0).alloc (eO k q true x1 0 cl))).more ((Keep.refl _).alloc (eO k q true x1 0 cl))
              have hs0 : w0.heap.size ≤ wa0.heap.size := La0.keep.size
              go_wp2_with (at_builtin; refine wpList_append_own_at _ rfl _ _ 36 rfl w0.heap.size 40 j0 (.agg #[.int .i64 0, .int .i64 0, .bool false, .int .i64 0, .int .i64 0, .int .i64 0]) 6 48 Tryz.underlying36 hj hy0 hy1 hy2 rfl (by decide) _ _ _ rfl Lb0.app ⟨_, 0, none⟩ 1 1 (cE ((k : Int), (q : Int), true, x1, 0, cl)) rfl rfl ?c1_0 ?c2_0 ?c3_0 ?c4_0 ?c5_0 ?_)
              case c1_0 => exact cE_newP _ _ (heap_size _ _) _ _ _ _ _ _
              case c2_0 => exact cE_oneP _
              case c3_0 => unfold maxLen; first | omega | (simp; omega)
              case c4_0 => first | omega | (simp; omega)
              case c5_0 => first | omega | (simp; omega)
              intro v0' wb0 hown' hgrow _ hblk
              have Lc0 := Lb0.hit _ hown' hgrow (by rw [heap_size, heap_size]; exact hblk)
              clear hgrow hown' hblk Lb0 La0 L5
              obtain ⟨ev1, hev1⟩ : ∃ ev1, ev1 = evs ++ [((k : Int), (q : Int), true, x1, 0, cl)] := ⟨_, rfl⟩
              rw [← hev1] at Lc0
              have HV1 := Lib.hid hev1
              have hl1 : ev1.length ≤ evs.length + 1 := by rw [hev1]; simp
              clear hev1
              clear c6 c7 z8
              have z8 := Lc0.lt (n := B) (o := .cells #[rdV x1, wrV x1 x2] 102) (by simp)
              have c7 : wb0.cell? ⟨B, 1, none⟩ = some (wrV x1 x2) := Lc0.cell (n := B) (cs := #[rdV x1, wrV x1 x2]) (t := 102) (by simp) 1
              go_wp2
              rw [rounds_succ]
              go_wp2_with fail
              refine (eventOf_wr _ _ _).mono ?_
              rintro e wa1 ⟨rfl, ka1⟩
              have La1 := Lc0.more ka1
              have Lb1 := (La1.more ((Keep.refl wa1).alloc (eO k q false x1 x2 cl))).more ((Keep.refl _).alloc (eO k q false x1 x2 cl))
              have hs1 : w0.heap.size ≤ wa1.heap.size := La1.keep.size
              go_wp2_with (at_builtin; refine wpList_append_own_at _ rfl _ _ 36 rfl w0.heap.size 40 j0 (.agg #[.int .i64 0, .int .i64 0, .bool false, .int .i64 0, .int .i64 0, .int .i64 0]) 6 48 Tryz.underlying36 hj hy0 hy1 hy2 rfl (by decide) _ _ _ rfl Lb1.app ⟨_, 0, none⟩ 1 1 (cE ((k : Int), (q : Int), false, x1, x2, cl)) rfl rfl ?c1_1 ?c2_1 ?c3_1 ?c4_1 ?c5_1 ?_)
              case c1_1 => exact cE_newP _ _ (heap_size _ _) _ _ _ _ _ _
              case c2_1 => exact cE_oneP _
              case c3_1 => unfold maxLen; first | omega | (simp; omega)
              case c4_1 => first | omega | (simp; omega)
              case c5_1 => first | omega | (simp; omega)
              intro v1' wb1 hown' hgrow _ hblk
              have Lc1 := Lb1.hit _ hown' hgrow (by rw [heap_size, heap_size]; exact hblk)
              clear hgrow hown' hblk Lb1 La1 Lc0
              go_wp2
              rw [rounds_succ]
              go_wp2
              go_roundw
              case rel => exact ⟨q + 1, _, by omega, by go_num, Lib.hid (by rw [HS.out, HV1.out]; simp [oneE]), by first | omega | (simp <;> omega), by first | omega | (simp <;> omega), Lc1.less (fun y hy => by simp only [List.mem_cons, List.not_mem_nil, or_false] at hy ⊢; rcases hy with rfl | rfl <;> simp)⟩
              case measure => simp [intOf]; omega
            · have HS : Hid (clkP k ds es (q + 1) = evs ++ oneE k q (4, x1, x2, x3) (ncE evs (goB ds q))) := HST
              clear HST
              have L2 := hI.new (dO 4 x1 x2 x3)
              have K2 : Keep wr (wr.alloc (dO 4 x1 x2 x3)) := (Keep.refl wr).alloc _
              have R3 := R2.keep K2
              go_wp2_with fail
              refine (goesOn_any _ _ _ R3 q hlq (by omega)).mono ?_
              rintro e w3 ⟨rfl, k3⟩
              have L3 := L2.more k3
              go_wp2_with fail
              refine (nextClass_any _ _ _ L3.app.rd (by omega) hv1 _).mono ?_
              generalize goB ds q = go at HS
              generalize hcl : ncE evs go = cl at HS
              clear hcl
              rintro e w4 ⟨rfl, k4⟩
              have L4 := L3.more k4
              have z7 := L4.lt (n := wr.heap.size) (o := dO 4 x1 x2 x3) (by simp)
              have s0 : w4.cell? ⟨wr.heap.size, 0, none⟩ = some (.int .i64 4) := L4.cell (n := wr.heap.size) (cs := #[.int .i64 4, .int .i64 x1, .int .i64 x2, .int .i64 x3]) (t := 96) (by simp) 0
              have s1 : w4.cell? ⟨wr.heap.size, 1, none⟩ = some (.int .i64 x1) := L4.cell (n := wr.heap.size) (cs := #[.int .i64 4, .int .i64 x1, .int .i64 x2, .int .i64 x3]) (t := 96) (by simp) 1
              have s2 : w4.cell? ⟨wr.heap.size, 2, none⟩ = some (.int .i64 x2) := L4.cell (n := wr.heap.size) (cs := #[.int .i64 4, .int .i64 x1, .int .i64 x2, .int .i64 x3]) (t := 96) (by simp) 2
              have s3 : w4.cell? ⟨wr.heap.size, 3, none⟩ = some (.int .i64 x3) := L4.cell (n := wr.heap.size) (cs := #[.int .i64 4, .int .i64 x1, .int .i64 x2, .int .i64 x3]) (t := 96) (by simp) 3
              clear A0 A1 A2 A3 c5 L2 L3 R3 K2
              go_wp2_with fail
              refine (shapes_wa _ _ _ _).mono ?_
              rintro e w5 ⟨B, rfl, hB, hBl, k5⟩
              have L5 := L4.later k5 hBl hB
              clear L4 s0 s1 s2 s3 z7 hI
              have z8 := L5.lt (n := B) (o := .cells #[] 102) (by simp)
              go_wp2
              refine wp_loop_rounds 1 ?_
              rw [rounds_succ]
              go_wp2
              go_roundw
              case rel => exact ⟨q + 1, _, by omega, by go_num, Lib.hid (by rw [HS.out]; simp [oneE]), by first | omega | (simp <;> omega), by first | omega | (simp <;> omega), L5.less (fun y hy => by simp only [List.mem_cons, List.not_mem_nil, or_false] at hy ⊢; rcases hy with rfl | rfl <;> simp)⟩
              case measure => simp [intOf]; omega
          · obtain rfl : q = ds.length := by omega
            go_wp2
            go_roundw
            case rel => exact ⟨k + 1, evs, by omega, by go_num, Lib.hid (by rw [HV.out]; exact hC.out), hv1, by omega, hI.less (fun y hy => by simp only [List.mem_cons, List.not_mem_nil, or_false] at hy ⊢; subst hy; simp)⟩
            case measure => simp [intOf]; omega
      · obtain rfl : k = dss.length := by omega
        go_wp2
        go_ret
        exact ⟨_, rfl, by rw [HE.out, ← hE.out]; exact app_base hL.app hsz0, k0.trans hL.keep⟩
end Go.Proofs.YtkbkdlaknmgjpaaGreat

/- Works in memory of one's own: lists of deeds in blocks, what turns them, what leaves them. -/
namespace Go.Proofs.YtkbkdlaknmgjpaaGreat
open Go.ChangeShapes Go.WideShapes Go.ChangeAt Go.RowKit

theorem Tryz.infoD : (Tryz.prog.info? 96).map (fun i => (i.zero, i.size, i.bytes)) = some (some (.agg #[.int .i64 0, .int .i64 0, .int .i64 0, .int .i64 0]), 4, 32) := by kernel_rfl
/-- Block g is a plain row of at least n cells. -/
def Blk (w : World) (g n : Nat) : Prop := ∃ cur t, w.heap[g]? = some (.cells cur t (0, 0)) ∧ n ≤ cur.size
theorem Blk.free {w : World} {g n : Nat} (h : Blk w g n) (i : Nat) : w.frozen? ⟨g, i, none⟩ = false := by
  obtain ⟨cur, t, h, _⟩ := h
  exact frozen_of_row w g i cur t h
theorem Blk.cell {w : World} {g n : Nat} (h : Blk w g n) {i : Nat} (hi : i < n) : ∃ u, w.cell? ⟨g, i, none⟩ = some u := by
  obtain ⟨cur, t, h, hn⟩ := h
  exact ⟨cur[i]'(by omega), by rw [cell_of_row w g i cur t (0, 0) h, Array.getElem?_eq_getElem (by omega)]⟩
theorem Blk.lt {w : World} {g n : Nat} (h : Blk w g n) : g < w.heap.size := by
  obtain ⟨cur, t, h, _⟩ := h
  exact (Array.getElem?_eq_some_iff.1 h).1
theorem Blk.set {w : World} {g n : Nat} (h : Blk w g n) (i : Nat) (x : Value) : Blk (w.setCell ⟨g, i, none⟩ x) g n := by
  obtain ⟨cur, t, h, hn⟩ := h
  exact ⟨cur.setIfInBounds i x, t, heap_setCell_same w g i cur t x h, by simpa using hn⟩
theorem Blk.kept {w w' : World} {g n : Nat} {row : Option Nat} (h : Blk w g n) (hg : w.grownBy w' row) (hne : row ≠ some g) : Blk w' g n := by
  have hl := h.lt
  obtain ⟨cur, t, h, hn⟩ := h
  exact ⟨cur, t, (hg.block g hl (fun e => hne e.symm)).trans h, hn⟩
/-- A list of deeds in a block of one's own. -/
def OwnD (w : World) (base : Nat) (v : Value) (ds : List Dd) : Prop :=
  ∃ (a : Option Addr) (cap : Nat), v = .slice a ds.length (ds.length + cap) ∧ (ds = [] ∨ ∃ g, a = some ⟨g, 0, none⟩ ∧ base ≤ g ∧ Blk w g (ds.length * 4) ∧ ∀ i, i < ds.length → AtD w g (i * 4) (ds.getD i zD))
theorem OwnD.rd {w : World} {base : Nat} {v : Value} {ds : List Dd} (h : OwnD w base v ds) : RdD w v ds := by
  obtain ⟨a, cap, hv, h⟩ := h
  refine ⟨a, cap, hv, ?_⟩
  rcases h with h | ⟨g, ha, _, hb, hc⟩
  · exact .inl h
  · exact .inr ⟨g, 0, ha, hb.lt, fun i hi => by rw [Nat.zero_add]; exact hc i hi⟩
theorem putD {w : World} {g o : Nat} {d : Dd} {b' o' : Nat} {d' : Dd} (h : AtD w b' o' d') (hne : b' ≠ g ∨ o' + 4 ≤ o ∨ o + 4 ≤ o') :
    AtD ((((w.setCell ⟨g, o, none⟩ (.int .i64 d.1)).setCell ⟨g, o + 1, none⟩ (.int .i64 d.2.1)).setCell ⟨g, o + 2, none⟩ (.int .i64 d.2.2.1)).setCell ⟨g, o + 3, none⟩ (.int .i64 d.2.2.2)) b' o' d' := by
  have key : ∀ (w : World) (j : Nat) (x : Value) (q : Nat), q < o' + 4 → o' ≤ q → o ≤ j → j < o + 4 → (w.setCell ⟨g, j, none⟩ x).cell? ⟨b', q, none⟩ = w.cell? ⟨b', q, none⟩ := by
    intro w j x q h1 h2 h3 h4
    refine World.cell?_setCell_other _ _ _ _ (fun e => ?_)
    have e1 : g = b' ∧ j = q := by simpa using e
    omega
  unfold AtD at *
  refine ⟨?_, ?_, ?_, ?_⟩
  all_goals
    rw [key _ _ _ _ (by omega) (by omega) (by omega) (by omega), key _ _ _ _ (by omega) (by omega) (by omega) (by omega), key _ _ _ _ (by omega) (by omega) (by omega) (by omega), key _ _ _ _ (by omega) (by omega) (by omega) (by omega)]
  · exact h.1
  · exact h.2.1
  · exact h.2.2.1
  · exact h.2.2.2
theorem putD_same {w : World} {g o n : Nat} {d : Dd} (hb : Blk w g n) (ho : o + 4 ≤ n) :
    AtD ((((w.setCell ⟨g, o, none⟩ (.int .i64 d.1)).setCell ⟨g, o + 1, none⟩ (.int .i64 d.2.1)).setCell ⟨g, o + 2, none⟩ (.int .i64 d.2.2.1)).setCell ⟨g, o + 3, none⟩ (.int .i64 d.2.2.2)) g o d := by
  have oth : ∀ (w : World) (j q : Nat) (x : Value), j ≠ q → (w.setCell ⟨g, j, none⟩ x).cell? ⟨g, q, none⟩ = w.cell? ⟨g, q, none⟩ := by
    intro w j q x h
    exact World.cell?_setCell_other _ _ _ _ (by intro e; apply h; injection e)
  have h1 := hb.set o (.int .i64 d.1)
  have h2 := h1.set (o + 1) (.int .i64 d.2.1)
  have h3 := h2.set (o + 2) (.int .i64 d.2.2.1)
  obtain ⟨u0, e0⟩ := hb.cell (show o < n by omega)
  obtain ⟨u1, e1⟩ := h1.cell (show o + 1 < n by omega)
  obtain ⟨u2, e2⟩ := h2.cell (show o + 2 < n by omega)
  obtain ⟨u3, e3⟩ := h3.cell (show o + 3 < n by omega)
  refine ⟨?_, ?_, ?_, ?_⟩
  · rw [oth _ _ _ _ (by omega), oth _ _ _ _ (by omega), oth _ _ _ _ (by omega), World.cell?_setCell_same _ _ _ e0]
  · rw [oth _ _ _ _ (by omega), oth _ _ _ _ (by omega), World.cell?_setCell_same _ _ _ e1]
  · rw [oth _ _ _ _ (by omega), World.cell?_setCell_same _ _ _ e2]
  · rw [World.cell?_setCell_same _ _ _ e3]
theorem Blk.ofOwn {w : World} {base e size g n : Nat} {xs : List Value} (h : w.ownsRow base e size (.slice (some ⟨g, 0, none⟩) n n) n xs) : Blk w g (n * size) := by
  rcases h.2 with ⟨hv, _⟩ | ⟨g', cap, cur, hv, _, hg, _, _, hs, _⟩
  · cases hv
  · simp only [Value.slice.injEq, Option.some.injEq, Addr.mk.injEq, and_true, true_and] at hv
    obtain ⟨rfl, rfl⟩ := hv
    exact ⟨cur, e, hg, by rw [hs]; exact Nat.le_refl _⟩
theorem OwnD.keep {w w' : World} {base : Nat} {v : Value} {ds : List Dd} (h : OwnD w base v ds) (k : Keep w w') : OwnD w' base v ds := by
  obtain ⟨a, cap, hv, h⟩ := h
  refine ⟨a, cap, hv, ?_⟩
  rcases h with h | ⟨g, ha, hb, hB, hc⟩
  · exact .inl h
  · exact .inr ⟨g, ha, hb, hB.kept k.grownBy (by simp), fun i hi => (hc i hi).keep hB.lt k⟩
theorem OwnD.kept {w w' : World} {base : Nat} {v : Value} {ds : List Dd} {row : Option Nat} (h : OwnD w base v ds) (hg : w.grownBy w' row) (hne : ds = [] ∨ v.ownBlock ≠ row) : OwnD w' base v ds := by
  obtain ⟨a, cap, rfl, h⟩ := h
  refine ⟨a, cap, rfl, ?_⟩
  rcases h with h | ⟨g, rfl, hb, hB, hc⟩
  · exact .inl h
  · rcases hne with hne | hne
    · exact .inl hne
    · have hne' : row ≠ some g := fun e => hne (by simp [Value.ownBlock, e])
      have hcell : ∀ j, w'.cell? ⟨g, j, none⟩ = w.cell? ⟨g, j, none⟩ := fun j => World.cell?_of_block (w := w) (hg.block g hB.lt (fun e => hne' e.symm))
      exact .inr ⟨g, rfl, hb, hB.kept hg hne', fun i hi => ⟨(hcell _).trans (hc i hi).1, (hcell _).trans (hc i hi).2.1, (hcell _).trans (hc i hi).2.2.1, (hcell _).trans (hc i hi).2.2.2⟩⟩
theorem OwnD.mono {w : World} {base base' : Nat} {v : Value} {ds : List Dd} (h : OwnD w base v ds) (hb : base' ≤ base) : OwnD w base' v ds := by
  obtain ⟨a, cap, hv, h⟩ := h
  refine ⟨a, cap, hv, ?_⟩
  rcases h with h | ⟨g, ha, hg, rest⟩
  · exact .inl h
  · exact .inr ⟨g, ha, Nat.le_trans hb hg, rest⟩
theorem OwnD.block {w : World} {base : Nat} {v : Value} {ds : List Dd} (h : OwnD w base v ds) (hne : ds ≠ []) : ∃ g, v.ownBlock = some g ∧ base ≤ g ∧ g < w.heap.size := by
  obtain ⟨a, cap, rfl, h⟩ := h
  rcases h with h | ⟨g, rfl, hb, hB, _⟩
  · exact absurd h hne
  · exact ⟨g, rfl, hb, hB.lt⟩
/-- The values of a row of slices lie each in a block of its own, and none in the row's. -/
def Apart (g n : Nat) (V : Nat → Value) (D : Nat → List Dd) : Prop :=
  (∀ i, i < n → D i ≠ [] → (V i).ownBlock ≠ some g) ∧ ∀ i j, i < j → j < n → D i ≠ [] → D j ≠ [] → (V i).ownBlock ≠ (V j).ownBlock
/-- A work in memory of one's own. -/
def OwnW (w : World) (base : Nat) (v : Value) (dss : List (List Dd)) : Prop :=
  ∃ (a : Option Addr) (cap : Nat), v = .slice a dss.length cap ∧ (dss = [] ∨ ∃ (g : Nat) (V : Nat → Value), a = some ⟨g, 0, none⟩ ∧ base ≤ g ∧ Blk w g dss.length ∧
    (∀ i, i < dss.length → w.cell? ⟨g, i, none⟩ = some (V i) ∧ OwnD w base (V i) (dss.getD i [])) ∧ Apart g dss.length V (fun i => dss.getD i []))
theorem OwnW.rd {w : World} {base : Nat} {v : Value} {dss : List (List Dd)} (h : OwnW w base v dss) : RdW w v dss := by
  obtain ⟨a, cap, hv, h⟩ := h
  refine ⟨a, cap, hv, ?_⟩
  rcases h with h | ⟨g, V, ha, _, hb, hc, _⟩
  · exact .inl h
  · exact .inr ⟨g, 0, ha, hb.lt, fun i hi => ⟨V i, by rw [Nat.zero_add]; exact (hc i hi).1, (hc i hi).2.rd⟩⟩
theorem Tryz.infoDS : (Tryz.prog.info? 80).map (fun i => (i.zero, i.size, i.bytes)) = some (some (.slice none 0 0), 1, 24) := by kernel_rfl
theorem set_far {w : World} {g i b j : Nat} {x : Value} (h : b ≠ g) : (w.setCell ⟨g, i, none⟩ x).cell? ⟨b, j, none⟩ = w.cell? ⟨b, j, none⟩ :=
  World.cell?_setCell_other _ _ _ _ (fun e => h (by injection e with e1; exact e1.symm))
theorem grown_put (w : World) (g j : Nat) (v : Value) : w.grownBy (w.setCell ⟨g, j, none⟩ v) (some g) :=
  ⟨rfl, rfl, rfl, by simp, fun k _ hk => heap_setCell_other w ⟨g, j, none⟩ k v (fun e => hk (by simp [e]))⟩
def mkD (k : Int) (i : Nat) : Dd := (k + 4 * i, k + 4 * i + 1, k + 4 * i + 1 + 1, k + 4 * i + 1 + 1 + 1)
def mksD (k : Int) (n : Nat) : List Dd := (List.range n).map (mkD k)
theorem mksD_len (k : Int) (n : Nat) : (mksD k n).length = n := by simp [mksD]
theorem mksD_get (k : Int) (n i : Nat) (h : i < n) : (mksD k n).getD i zD = mkD k i := range_getD _ _ _ _ h
/-- The block that a list of deeds has (an empty one: none). -/
def ownO (v : Value) (ds : List Dd) : Option Nat := if ds = [] then none else v.ownBlock
theorem cell_same {w w' : World} {b : Nat} (h : w'.heap[b]? = w.heap[b]?) (o : Nat) : w'.cell? ⟨b, o, none⟩ = w.cell? ⟨b, o, none⟩ := by
  simp only [World.cell?, h]
theorem AtD.same {w w' : World} {b o : Nat} {d : Dd} (h : AtD w b o d) (hh : w'.heap[b]? = w.heap[b]?) : AtD w' b o d :=
  ⟨(cell_same hh _).trans h.1, (cell_same hh _).trans h.2.1, (cell_same hh _).trans h.2.2.1, (cell_same hh _).trans h.2.2.2⟩
theorem Blk.same {w w' : World} {g n : Nat} (h : Blk w g n) (hh : w'.heap[g]? = w.heap[g]?) : Blk w' g n := by
  obtain ⟨cur, t, h, hn⟩ := h
  exact ⟨cur, t, hh.trans h, hn⟩
theorem OwnD.same {w w' : World} {base : Nat} {v : Value} {ds : List Dd} (h : OwnD w base v ds) (hh : ∀ g, ownO v ds = some g → g < w.heap.size → base ≤ g → w'.heap[g]? = w.heap[g]?) : OwnD w' base v ds := by
  obtain ⟨a, cap, rfl, h⟩ := h
  refine ⟨a, cap, rfl, ?_⟩
  rcases h with h | ⟨g, rfl, hb, hB, hA⟩
  · exact .inl h
  · by_cases h0 : ds = []
    · exact .inl h0
    · have e := hh g (by rw [ownO, if_neg h0]; rfl) hB.lt hb
      exact .inr ⟨g, rfl, hb, hB.same e, fun i hi => (hA i hi).same e⟩
theorem OwnD.keptO {w w' : World} {base : Nat} {v : Value} {ds : List Dd} {row : Option Nat} (h : OwnD w base v ds) (hg : w.grownBy w' row) (hne : ownO v ds = none ∨ ownO v ds ≠ row) : OwnD w' base v ds :=
  h.same (fun g hgg hlt _ => hg.block g hlt (by
    rcases hne with e | e
    · rw [e] at hgg; cases hgg
    · rw [hgg] at e; exact e))
/-- All that has turned lies from block lo to before block hi. -/
structure Only (lo hi : Nat) (w w' : World) : Prop where
  os : w'.os = w.os
  tape : w'.tape = w.tape
  output : w'.output = w.output
  size : w.heap.size ≤ w'.heap.size
  block : ∀ b, b < w.heap.size → (b < lo ∨ hi ≤ b) → w'.heap[b]? = w.heap[b]?
theorem Only.refl (lo hi : Nat) (w : World) : Only lo hi w w := ⟨rfl, rfl, rfl, Nat.le_refl _, fun _ _ _ => rfl⟩
theorem Only.grown {lo hi : Nat} {a w w' : World} {row : Option Nat} (h : Only lo hi a w) (hg : w.grownBy w' row) (hr : ∀ k, row = some k → lo ≤ k ∧ k < hi) : Only lo hi a w' :=
  ⟨hg.os.trans h.os, hg.tape.trans h.tape, hg.output.trans h.output, Nat.le_trans h.size hg.size, fun b hb ho => (hg.block b (Nat.lt_of_lt_of_le hb h.size) (fun e => by have := hr b e.symm; omega)).trans (h.block b hb ho)⟩
theorem Keep.only {a w w' : World} {lo hi : Nat} (h : Keep a w) (k : Only lo hi w w') (hl : a.heap.size ≤ lo) : Keep a w' :=
  ⟨k.os.trans (Below.os h), k.tape.trans (Below.tape h), k.output.trans (Below.output h), Nat.le_trans (Below.size h) k.size, fun b hb => (k.block b (Nat.lt_of_lt_of_le hb h.size) (.inl (Nat.lt_of_lt_of_le hb hl))).trans (Below.block h b hb)⟩
theorem OwnW.only {w w' : World} {base lo hi : Nat} {v : Value} {dss : List (List Dd)} (h : OwnW w base v dss) (k : Only lo hi w w') (hb : hi ≤ base) : OwnW w' base v dss := by
  obtain ⟨a, cap, rfl, h⟩ := h
  refine ⟨a, cap, rfl, ?_⟩
  rcases h with h | ⟨g, V, rfl, hg, hB, hc, hA⟩
  · exact .inl h
  · have e := k.block g hB.lt (.inr (Nat.le_trans hb hg))
    exact .inr ⟨g, V, rfl, hg, hB.same e, fun i hi => ⟨(cell_same e _).trans (hc i hi).1, (hc i hi).2.same (fun b _ hlt hbb => k.block b hlt (.inr (Nat.le_trans hb hbb)))⟩, hA⟩
theorem OwnW.base_le {w : World} {base base' : Nat} {v : Value} {dss : List (List Dd)} (h : OwnW w base v dss) (hb : base' ≤ base) : OwnW w base' v dss := by
  obtain ⟨a, cap, hv, h⟩ := h
  refine ⟨a, cap, hv, ?_⟩
  rcases h with h | ⟨g, V, ha, hg, hB, hc, hA⟩
  · exact .inl h
  · exact .inr ⟨g, V, ha, Nat.le_trans hb hg, hB, fun i hi => ⟨(hc i hi).1, (hc i hi).2.mono hb⟩, hA⟩
def mksW (k : Int) : List (List Dd) → List (List Dd)
  | [] => []
  | d :: r => mksD k d.length :: mksW (k + 4 * d.length) r
theorem mksW_len (k : Int) (dss : List (List Dd)) : (mksW k dss).length = dss.length := by
  induction dss generalizing k with
  | nil => rfl
  | cons d r ih => simp [mksW, ih]
theorem mksW_get (k : Int) : ∀ (dss : List (List Dd)) (i : Nat), i < dss.length → (mksW k dss).getD i [] = mksD (k + 4 * (lenW (dss.take i) : Nat)) (dss.getD i []).length
  | [], i, h => by simp at h
  | d :: r, 0, h => by simp [mksW, lenW]
  | d :: r, i + 1, h => by
    have ih := mksW_get (k + 4 * d.length) r i (by simpa using h)
    simp only [mksW, List.getD_cons_succ, List.take_succ_cons, lenW] at ih ⊢
    rw [ih]
    congr 1
    omega
theorem lenW_snocM (d : List Dd) : ∀ l : List (List Dd), lenW (l ++ [d]) = lenW l + d.length
  | [] => by simp [lenW]
  | x :: r => by rw [List.cons_append, lenW, lenW, lenW_snocM d r]; omega
theorem take_moreM {α : Type} (l : List α) (k : Nat) (z : α) (h : k < l.length) : l.take (k + 1) = l.take k ++ [l.getD k z] := by
  rw [List.take_add_one, List.getElem?_eq_getElem h, List.getD_eq_getElem?_getD, List.getElem?_eq_getElem h]
  rfl
theorem lenW_take_le (dss : List (List Dd)) : ∀ i, i ≤ dss.length → lenW (dss.take i) ≤ lenW dss := by
  induction dss with
  | nil => intro i _; simp
  | cons d r ih =>
    intro i hi
    cases i with
    | zero => simp [lenW]
    | succ i => simp only [List.take_succ_cons, lenW]; have := ih i (by simpa using hi); omega
theorem lenW_one (dss : List (List Dd)) (i : Nat) (h : i < dss.length) : lenW (dss.take i) + (dss.getD i []).length ≤ lenW dss := by
  have := lenW_take_le dss (i + 1) h
  rw [take_moreM dss i [] h, lenW_snocM] at this
  exact this
theorem mksD_nil {k : Int} {n : Nat} : mksD k n = [] ↔ n = 0 := by
  constructor
  · intro h; have := mksD_len k n; rw [h] at this; simpa using this.symm
  · rintro rfl; rfl
end Go.Proofs.YtkbkdlaknmgjpaaGreat

/- How long a work's events are; a list of events that others' turns leave. -/
namespace Go.Proofs.YtkbkdlaknmgjpaaGreat
open Go.ChangeShapes Go.WideShapes Go.ChangeAt Go.RowKit

theorem eventsB_len9 (dss : List (List Dd)) : (eventsB dss).length ≤ 9 := by
  unfold eventsB
  split
  · rename_i h
    simp only [workB, Bool.and_eq_true, decide_eq_true_eq] at h
    obtain ⟨⟨⟨⟨_, h2⟩, _⟩, h4⟩, _⟩ := h
    have := evsW_len (fun i hi => all_get [] h2 i hi) dss.length (Nat.le_refl _)
    omega
  · simp
theorem eventsB_len (dss : List (List Dd)) : (eventsB dss).length ≤ 1048576 := by
  have := eventsB_len9 dss
  omega
theorem appE_only {w w' : World} {base lo hi : Nat} {v : Value} {es : List Ev} (h : AppE w base v es) (k : Only lo hi w w') (hb : hi ≤ base) : AppE w' base v es := by
  have hlt := h.lt
  refine ⟨h.1, ?_⟩
  rcases h.2 with h | ⟨g, cap, cur, hv, hg, hh, rest⟩
  · exact .inl h
  · subst hv
    exact .inr ⟨g, cap, cur, rfl, hg, (k.block g (hlt g rfl).2 (.inr (Nat.le_trans hb hg))).trans hh, rest⟩
end Go.Proofs.YtkbkdlaknmgjpaaGreat

/- Contracts of the program's lines of a work: one helper that takes any number of tests. -/
namespace Go.Proofs.YtkbkdlaknmgjpaaGreat
open Go.ChangeShapes Go.WideShapes Go.ChangeAt Go.RowKit

theorem cell_blk {w w' : World} {b : Nat} (h : w'.heap[b]? = w.heap[b]?) (o : Nat) : w'.cell? ⟨b, o, none⟩ = w.cell? ⟨b, o, none⟩ := by simp only [World.cell?, h]
theorem grown_row {w w' : World} (h : w.grownBy w' none) (row : Option Nat) : w.grownBy w' row := ⟨h.os, h.tape, h.output, h.size, fun k hk _ => h.block k hk (by simp)⟩
abbrev tQ (T : Ev → Ev → Bool) (es : List Ev) (i j : Nat) : Bool := isbE (es.getD i zE) (es.getD j zE) && T (es.getD i zE) (es.getD j zE)
set_option maxRecDepth 100000 in
set_option maxHeartbeats 4000000 in
theorem linesOf_any (w : World) (v t : Value) (dss : List (List Dd)) (T : Ev → Ev → Bool) (h : RdW w v dss) (hx : dss.length ≤ 1048576) (hm : ∀ i, i < dss.length → (dss.getD i []).length ≤ 1048576)
    (HP : ∀ i j : Nat, i < j → j < (eventsB dss).length → ∀ (x0 x1 : Int) (x2 : Bool) (x3 x4 x5 y0 y1 : Int) (y2 : Bool) (y3 y4 y5 : Int), (eventsB dss).getD i zE = (x0, x1, x2, x3, x4, x5) → (eventsB dss).getD j zE = (y0, y1, y2, y3, y4, y5) →
      isbE (x0, x1, x2, x3, x4, x5) (y0, y1, y2, y3, y4, y5) = true → ∀ w1 : World, Keep w w1 → Calls Tryz.prog 137 #[eA x0 x1 x2 x3 x4 x5, eA y0 y1 y2 y3 y4 y5, t] w1 fun e w' => e = .returned (.bool (T (x0, x1, x2, x3, x4, x5) (y0, y1, y2, y3, y4, y5))) ∧ Keep w1 w') :
    Calls Tryz.prog 88 #[v, t] w fun e w' => ∃ v', e = .returned v' ∧ Row w' w.heap.size v' (colAll (tQ T (eventsB dss)) (eventsB dss).length (eventsB dss).length) ∧ Keep w w' := by
  have L9 := eventsB_len9 dss
  have CE := implEventsOf_any w v dss h hx hm
  clear h hx hm
  generalize eventsB dss = es at L9 HP CE ⊢
  go_enter Tryz.func88, Tryz.ntmps88
  go_wp2_with fail
  refine CE.mono ?_
  rintro e w1 ⟨v1, rfl, a1, k1⟩
  have r1 := a1.rd
  clear a1 CE
  obtain ⟨a, c, rfl, r1⟩ := r1
  have s1 := k1.size
  go_wp2_with fail
  refine (blank_any _ es.length (by omega)).mono ?_
  rintro e w2 ⟨rfl, hR, k2⟩
  have K2 := k1.trans k2
  go_wp2
  go_loopw [18] (fun s wr => ∃ j : Nat, j ≤ es.length ∧ s = .int .i64 j ∧ RowAt wr w1.heap.size (colAll (tQ T es) es.length j) ∧ Keep w1 wr) (fun s _ => es.length - (intOf s).toNat)
  case atStart => exact ⟨0, Nat.zero_le _, rfl, hR, k2⟩
  case round =>
    obtain ⟨j, hj, rfl, hr, hK⟩ := hrel
    clear hR k2 K2
    by_cases hlt : j < es.length
    · rcases r1 with h | ⟨b, off, rfl, hb, hc⟩
      · exfalso; rw [h] at hlt; simp at hlt
      have AJ := (hc j _ (evs_get hlt)).keep hb hK
      have hbw : b < wr.heap.size := Nat.lt_of_lt_of_le hb hK.size
      have HW := Lib.hid (web_colAll (q := tQ T es) (show es.length ≤ 12 by omega) j (by omega)).1
      have HE : Hid (colIn (tQ T es) j (colAll (tQ T es) es.length j) j = colAll (tQ T es) es.length (j + 1)) := Lib.hid rfl
      generalize colAll (tQ T es) es.length j = S0 at *
      obtain ⟨y, hy⟩ : ∃ y, y = es.getD j zE := ⟨_, rfl⟩
      rw [← hy] at AJ
      obtain ⟨y0, y1, y2, y3, y4, y5⟩ := y
      obtain ⟨B0, B1, B2, B3, B4, B5⟩ := atE AJ
      clear AJ
      have i1 : (0 : Int) ≤ (j : Int) := Int.natCast_nonneg _
      have i2 : (j : Int) < (es.length : Int) := by omega
      have i3 : (j : Int) ≤ (es.length : Int) := by omega
      have i4 : (j : Int) ≤ (es.length : Int) + (c : Int) := by omega
      go_wp2
      have i5 : (j : Int) ≤ 9 := by omega
      obtain ⟨wo, rfl⟩ : ∃ wo : World, wo = wr := ⟨_, rfl⟩
      clear B0 B1 B2 B3 B4 B5
      have swo := hK.size
      go_loopw [27] (fun s wr => ∃ i : Nat, i ≤ j ∧ s = .int .i64 i ∧ RowAt wr w1.heap.size (colIn (tQ T es) j S0 i) ∧ (wo.alloc (.cells #[.int .i64 y0, .int .i64 y1, .bool y2, .int .i64 y3, .int .i64 y4, .int .i64 y5] 40)).grownBy wr (some w1.heap.size)) (fun s _ => j - (intOf s).toNat)
      case atStart => exact ⟨0, Nat.zero_le _, rfl, hr.keep ((Keep.refl wo).alloc _), grown_row (Keep.refl _).grownBy _⟩
      case round =>
        have hG := hr.lt
        clear hr
        obtain ⟨i, hi, rfl, hr, hg⟩ := hrel
        have hK' : Keep w1 wr := (hK.alloc _).grown hg (fun k hk => by simp at hk; omega)
        have sz := hg.size
        rw [heap_size] at sz
        by_cases hil : i < j
        · have AI := (hc i _ (evs_get (show i < es.length by omega))).keep hb hK'
          have hbr : b < wr.heap.size := by omega
          have C := fun m => (cell_blk (hg.block wo.heap.size (by rw [heap_size]; omega) (by simp; omega)) m).trans (box_cell (Keep.refl _) m)
          have c0 := C 0
          have c1 := C 1
          have c2 := C 2
          have c3 := C 3
          have c4 := C 4
          have c5 := C 5
          clear C
          simp at c0 c1 c2 c3 c4 c5
          obtain ⟨x, hx⟩ : ∃ x, x = es.getD i zE := ⟨_, rfl⟩
          rw [← hx] at AI
          obtain ⟨x0, x1, x2, x3, x4, x5⟩ := x
          obtain ⟨A0, A1, A2, A3, A4, A5⟩ := atE AI
          clear AI
          have hq : tQ T es i j = (isbE (x0, x1, x2, x3, x4, x5) (y0, y1, y2, y3, y4, y5) && T (x0, x1, x2, x3, x4, x5) (y0, y1, y2, y3, y4, y5)) := by show (_ && _) = _; rw [← hx, ← hy]
          have HM : (isbE (x0, x1, x2, x3, x4, x5) (y0, y1, y2, y3, y4, y5) && T (x0, x1, x2, x3, x4, x5) (y0, y1, y2, y3, y4, y5)) = false → Hid (colIn (tQ T es) j S0 (i + 1) = colIn (tQ T es) j S0 i) := fun hf => Lib.hid (colIn_miss S0 (hq.trans hf))
          have HH : (isbE (x0, x1, x2, x3, x4, x5) (y0, y1, y2, y3, y4, y5) && T (x0, x1, x2, x3, x4, x5) (y0, y1, y2, y3, y4, y5)) = true → Hid (colIn (tQ T es) j S0 (i + 1) = (colIn (tQ T es) j S0 i).set i (gAdd ((colIn (tQ T es) j S0 i).getD i 0) j)) := fun hf => Lib.hid (colIn_hit S0 (hq.trans hf))
          have HLn := (web_colIn (q := tQ T es) hlt HW.out i (by omega)).1.2.1
          have CP := HP i j hil hlt x0 x1 x2 x3 x4 x5 y0 y1 y2 y3 y4 y5 hx.symm hy.symm
          clear hq hx HP hc
          have kw : Keep w wr := k1.trans hK'
          have CI := isBehind_any (wr.alloc (.cells #[.int .i64 x0, .int .i64 x1, .bool x2, .int .i64 x3, .int .i64 x4, .int .i64 x5] 40)) x0 x1 x2 x3 x4 x5 y0 y1 y2 y3 y4 y5
          generalize isbE (x0, x1, x2, x3, x4, x5) (y0, y1, y2, y3, y4, y5) = I at CI CP HM HH
          generalize T (x0, x1, x2, x3, x4, x5) (y0, y1, y2, y3, y4, y5) = TT at CP HM HH
          generalize colIn (tQ T es) j S0 i = S at hr HM HH HLn
          have n1 : (0 : Int) ≤ (i : Int) := Int.natCast_nonneg _
          have n2 : (i : Int) < (j : Int) := by omega
          have hwo : wo.heap.size < wr.heap.size := by omega
          go_wp2_with fail
          refine CI.mono ?_
          rintro e w5 ⟨rfl, k5⟩
          have R5 := (hr.keep ((Keep.refl wr).alloc _)).keep k5
          have g5 := grown_trans hg (grown_row (((Keep.refl wr).alloc _).trans k5).grownBy (some w1.heap.size))
          cases I
          · have HE1 := HM rfl
            clear HM HH
            go_wp2
            go_roundw
            case rel => exact ⟨i + 1, by omega, by go_num, by rw [HE1.out]; exact R5, g5⟩
            case measure => simp [intOf]; omega
          · have F := fun m => box_cell k5 m
            have f0 := F 0
            have f1 := F 1
            have f2 := F 2
            have f3 := F 3
            have f4 := F 4
            have f5 := F 5
            clear F
            simp at f0 f1 f2 f3 f4 f5
            have kq : Keep wr w5 := ((Keep.refl wr).alloc _).trans k5
            have t0 := (kq.cell hwo (o := 0)).trans c0
            have t1 := (kq.cell hwo (o := 1)).trans c1
            have t2 := (kq.cell hwo (o := 2)).trans c2
            have t3 := (kq.cell hwo (o := 3)).trans c3
            have t4 := (kq.cell hwo (o := 4)).trans c4
            have t5 := (kq.cell hwo (o := 5)).trans c5
            clear c0 c1 c2 c3 c4 c5 A0 A1 A2 A3 A4 A5
            go_wp2_with fail
            refine (CP trivial _ (kw.trans kq)).mono ?_
            rintro e w6 ⟨rfl, k6⟩
            have R6 := R5.keep k6
            have g6 := grown_trans g5 (grown_row k6.grownBy (some w1.heap.size))
            clear f0 f1 f2 f3 f4 f5 t0 t1 t2 t3 t4 t5 R5 g5
            cases TT
            · have HE1 := HM rfl
              clear HM HH
              go_wp2
              go_roundw
              case rel => exact ⟨i + 1, by omega, by go_num, by rw [HE1.out]; exact R6, g6⟩
              case measure => simp [intOf]; omega
            · have HE1 := HH rfl
              clear HM HH
              go_wp2_with fail
              refine (line_any w6 w1.heap.size es.length es.length S i j R6 HLn (by omega)).mono ?_
              rintro e w7 ⟨rfl, R7, g7⟩
              go_wp2
              go_roundw
              case rel => exact ⟨i + 1, by omega, by go_num, by rw [HE1.out]; exact R7, grown_trans g6 g7⟩
              case measure => simp [intOf]; omega
        · obtain rfl : i = j := by omega
          go_wp2
          go_roundw
          case rel => exact ⟨i + 1, by omega, by go_num, by rw [← HE.out]; exact hr, (hK.alloc _).grown hg (fun k hk => by simp at hk; omega)⟩
          case measure => simp [intOf]; omega
    · obtain rfl : j = es.length := by omega
      have HL := (web_colAll (q := tQ T es) (show es.length ≤ 12 by omega) es.length (Nat.le_refl _)).1.2.1
      go_wp2
      go_ret
      exact ⟨_, rfl, row_new hr (by omega) HL, k1.trans hK⟩
end Go.Proofs.YtkbkdlaknmgjpaaGreat

/- Contract of the program's test of two events: are they at one place. -/
namespace Go.Proofs.YtkbkdlaknmgjpaaGreat
open Go.ChangeShapes Go.WideShapes Go.ChangeAt Go.RowKit

theorem areAt_any (w : World) (x0 x1 : Int) (x2 : Bool) (x3 x4 x5 y0 y1 : Int) (y2 : Bool) (y3 y4 y5 : Int) :
    Calls Tryz.prog 91 #[eA x0 x1 x2 x3 x4 x5, eA y0 y1 y2 y3 y4 y5] w fun e w' => e = .returned (.bool (onpE (x0, x1, x2, x3, x4, x5) (y0, y1, y2, y3, y4, y5))) ∧ Keep w w' := by
  go_enter Tryz.func91, Tryz.ntmps91
  go_wp2
  go_ret
  exact ⟨rfl, ((Keep.refl w).alloc _).alloc _⟩
end Go.Proofs.YtkbkdlaknmgjpaaGreat

/- Contracts of the program's tests of two events: does one stand behind the other, are they at one place, is a line kept. -/
namespace Go.Proofs.YtkbkdlaknmgjpaaGreat
open Go.ChangeShapes Go.WideShapes Go.ChangeAt Go.RowKit

theorem isAtOnce_any (w : World) (k p v g : Int) :
    Calls Tryz.prog 138 #[deedV k p v g] w fun e w' => e = .returned (.bool (onceD (k, p, v, g))) ∧ Keep w w' := by
  by_cases hk : k = 3
  · subst hk
    go_enter Tryz.func138, Tryz.ntmps138
    go_wp2
    go_ret
    exact ⟨rfl, (Keep.refl w).alloc _⟩
  · have kb : (k == 3) = false := by simp [hk]
    have HE : Hid (onceD (k, p, v, g) = (g != 0)) := Lib.hid (by unfold onceD; simp [hk])
    clear hk
    go_enter Tryz.func138, Tryz.ntmps138
    go_wp2
    go_ret
    exact ⟨by rw [HE.out]; rfl, (Keep.refl w).alloc _⟩
set_option maxRecDepth 100000 in
set_option maxHeartbeats 2000000 in
theorem deedOf_any (w : World) (v : Value) (dss : List (List Dd)) (h : RdW w v dss) (i k : Nat) (r : Bool) (pl vl cl : Int) (hi : i < dss.length) (hk : k < (dss.getD i []).length) :
    Calls Tryz.prog 139 #[v, eA i k r pl vl cl] w fun e w' => e = .returned (dV ((dss.getD i []).getD k zD)) ∧ Keep w w' := by
  obtain ⟨a, c, rfl, h⟩ := h
  rcases h with h | ⟨b, o, rfl, hb, hc⟩
  · exfalso; rw [h] at hi; simp at hi
  obtain ⟨u, e1, r1⟩ := hc i hi
  clear hc
  obtain ⟨ds, hds⟩ : ∃ ds, ds = dss.getD i [] := ⟨_, rfl⟩
  rw [← hds] at r1 hk ⊢
  clear hds
  obtain ⟨ai, ci, rfl, r1⟩ := r1
  rcases r1 with h | ⟨b2, o2, rfl, hb2, hc2⟩
  · exfalso; rw [h] at hk; simp at hk
  have AT := hc2 k hk
  clear hc2
  obtain ⟨d, hd⟩ : ∃ d, d = ds.getD k zD := ⟨_, rfl⟩
  rw [← hd] at AT ⊢
  clear hd
  obtain ⟨x0, x1, x2, x3⟩ := d
  obtain ⟨A0, A1, A2, A3⟩ := AT
  simp only at A0 A1 A2 A3
  have i1 : (0 : Int) ≤ (i : Int) := Int.natCast_nonneg _
  have i2 : (i : Int) < (dss.length : Int) := by omega
  have j1 : (0 : Int) ≤ (k : Int) := Int.natCast_nonneg _
  have j2 : (k : Int) < (ds.length : Int) := by omega
  go_enter Tryz.func139, Tryz.ntmps139
  go_wp2
  go_region
  all_goals
    go_wp2
    refine bodyPost_ret (results_row (by rfl) _ _ (w.heap.size + 1) 96 #[.int .i64 x0, .int .i64 x1, .int .i64 x2, .int .i64 x3] (0, 0) _ rfl (by simp only [heap_at, heap_drew, heap_size]; repeat (first | exact if_pos rfl | exact if_pos trivial | rw [if_neg (by omega)])) Tryz.underlying96 rfl (by kernel_rfl)) rfl ?_
    exact ⟨rfl, by first | exact (((Keep.refl w).alloc _).drew).alloc _ | exact ((((Keep.refl w).alloc _)).alloc _).drew⟩
theorem eqDd (x0 x1 x2 x3 y0 y1 y2 y3 : Int) (w : World) : (Op.equalIn 10000 96 (deedV x0 x1 x2 x3) (deedV y0 y1 y2 y3)).run Tryz.prog w = .ok (x0 == y0 && (x1 == y1 && (x2 == y2 && x3 == y3))) w := by
  have u3 := Tryz.underlying2
  have a3 := Tryz.isAgg2
  have z3 := Tryz.sizeOf2
  have hS : Tryz.prog.underlying 96 = some (.struct (Tryz.prog.fieldsOf 96)) := by kernel_rfl
  have hp : Tryz.prog.stoodInHeld 96 = false := by kernel_rfl
  rw [show (10000 : Nat) = 9999 + 1 from rfl, run_equalIn_agg w 9999 96 _ _ hS hp]
  simp only [Program.fieldsOf, Tryz.underlying96]
  go_simp
  by_cases h1 : x0 = y0 <;> by_cases h2 : x1 = y1 <;> by_cases h3 : x2 = y2 <;> by_cases h4 : x3 = y3 <;> simp [h1, h2, h3, h4]
set_option maxRecDepth 100000 in
set_option maxHeartbeats 2000000 in
theorem dIndex_any (w : World) (b off n cap : Nat) (f : Nat → Dd) (hb : b < w.heap.size) (hc : ∀ i, i < n → AtD w b (off + i * 4) (f i)) (hn : n ≤ 1048576) :
    Calls Tryz.prog 178 #[.slice (some ⟨b, off, none⟩) n cap, deedV 4 0 0 0] w fun e w' => ∃ r : Int, e = .returned (.int .i64 r) ∧ decide (0 ≤ r) = (List.range n).any (fun i => f i == wtD) ∧ Keep w w' := by
  obtain ⟨ob, hob⟩ : ∃ ob, ob = (Obj.cells #[.int .i64 4, .int .i64 0, .int .i64 0, .int .i64 0] 96) := ⟨_, rfl⟩
  go_enter Tryz.func178, Tryz.ntmps178
  go_wp2
  go_loopw [8] (fun s wr => ∃ k : Nat, k ≤ n ∧ s = .int .i64 k ∧ Hid (∀ j, j < k → f j ≠ wtD) ∧ Keep (w.alloc (.cells #[.int .i64 4, .int .i64 0, .int .i64 0, .int .i64 0] 96)) wr) (fun s _ => n - (intOf s).toNat)
  case atStart => exact ⟨0, Nat.zero_le _, rfl, Lib.hid (fun j h => by omega), Keep.refl _⟩
  case round =>
    obtain ⟨k, hk, rfl, HN, hK⟩ := hrel
    by_cases hlt : k < n
    · have AT := ((hc k hlt).keep hb ((Keep.refl w).alloc (.cells #[.int .i64 4, .int .i64 0, .int .i64 0, .int .i64 0] 96))).keep (Nat.lt_of_lt_of_le hb ((Keep.refl w).alloc _).size) hK
      have c0 : wr.cell? ⟨w.heap.size, 0, none⟩ = some (.int .i64 4) := by rw [hK.cell (by simp)]; simp
      have c1 : wr.cell? ⟨w.heap.size, 1, none⟩ = some (.int .i64 0) := by rw [hK.cell (by simp)]; simp
      have c2 : wr.cell? ⟨w.heap.size, 2, none⟩ = some (.int .i64 0) := by rw [hK.cell (by simp)]; simp
      have c3 : wr.cell? ⟨w.heap.size, 3, none⟩ = some (.int .i64 0) := by rw [hK.cell (by simp)]; simp
      clear hc
      have HY : f k = wtD → Hid ((List.range n).any (fun i => f i == wtD) = true) := fun e => Lib.hid (by rw [List.any_eq_true]; exact ⟨k, List.mem_range.2 hlt, by rw [e]; simp⟩)
      have HX : f k ≠ wtD → Hid (∀ j, j < k + 1 → f j ≠ wtD) := fun h4 => Lib.hid (fun j h2 => by
        by_cases e : j = k
        · subst e; exact h4
        · exact HN.out j (by omega))
      generalize f k = d at AT HY HX
      clear HN
      obtain ⟨x0, x1, x2, x3⟩ := d
      obtain ⟨A0, A1, A2, A3⟩ := AT
      simp only at A0 A1 A2 A3
      have j1 : (0 : Int) ≤ (k : Int) := Int.natCast_nonneg _
      have j2 : (k : Int) < (n : Int) := by omega
      have EG : Tryz.prog.eqGuardType Tryz.prog.depth 96 = false := by kernel_rfl
      by_cases hd : (x0, x1, x2, x3) = wtD
      · have HE := HY hd
        unfold wtD at hd
        rw [Prod.mk.injEq, Prod.mk.injEq, Prod.mk.injEq] at hd
        obtain ⟨rfl, rfl, rfl, rfl⟩ := hd
        have EQ : ∀ w : World, (Op.equalIn 10000 96 (deedV 4 0 0 0) (deedV 4 0 0 0)).run Tryz.prog w = .ok true w := fun w => eqDd 4 0 0 0 4 0 0 0 w
        clear HY HX
        go_wp2_with fail
        go_quiet (fail)
        go_wp2
        go_ret
        refine ⟨k, rfl, ?_, ((Keep.refl w).alloc _).trans (hK.grown (grown_draw wr _ none) (by simp))⟩
        rw [HE.out]
        exact decide_eq_true j1
      · have HE := HX hd
        have EB : (4 == x0 && (0 == x1 && (0 == x2 && 0 == x3))) = false := by
          cases hq : (4 == x0 && (0 == x1 && (0 == x2 && 0 == x3))) with
          | false => rfl
          | true =>
            exfalso
            apply hd
            simp only [Bool.and_eq_true, beq_iff_eq] at hq
            unfold wtD
            rw [← hq.1, ← hq.2.1, ← hq.2.2.1, ← hq.2.2.2]
        have EQ : ∀ w : World, (Op.equalIn 10000 96 (deedV 4 0 0 0) (deedV x0 x1 x2 x3)).run Tryz.prog w = .ok false w := fun w => by rw [eqDd 4 0 0 0 x0 x1 x2 x3 w, EB]
        clear HY HX hd EB
        go_wp2_with fail
        go_quiet (fail)
        go_wp2
        go_roundw
        case rel => exact ⟨k + 1, by omega, by go_num, HE, hK.grown (grown_draw wr _ none) (by simp)⟩
        case measure => simp [intOf]; omega
    · obtain rfl : k = n := by omega
      have HE : Hid ((List.range k).any (fun i => f i == wtD) = false) := Lib.hid (by
        rw [List.any_eq_false]
        intro i hi
        simpa using HN.out i (List.mem_range.1 hi))
      clear HN
      go_wp2
      go_ret
      exact ⟨-1, rfl, by rw [HE.out]; rfl, ((Keep.refl w).alloc _).trans hK⟩
theorem dHas_any (w : World) (b off n cap : Nat) (f : Nat → Dd) (hb : b < w.heap.size) (hc : ∀ i, i < n → AtD w b (off + i * 4) (f i)) (hn : n ≤ 1048576) :
    Calls Tryz.prog 167 #[.slice (some ⟨b, off, none⟩) n cap, deedV 4 0 0 0] w fun e w' => e = .returned (.bool ((List.range n).any (fun i => f i == wtD))) ∧ Keep w w' := by
  have C := dIndex_any (w.alloc (.cells #[.int .i64 4, .int .i64 0, .int .i64 0, .int .i64 0] 96)) b off n cap f (Nat.lt_of_lt_of_le hb ((Keep.refl w).alloc _).size) (fun i hi => (hc i hi).keep hb ((Keep.refl w).alloc _)) hn
  generalize (List.range n).any (fun i => f i == wtD) = B at C ⊢
  clear hc
  go_enter Tryz.func167, Tryz.ntmps167
  go_wp2_with fail
  refine C.mono ?_
  rintro e w1 ⟨r, rfl, hr, k1⟩
  go_wp2
  go_ret
  exact ⟨by rw [← hr]; rfl, ((Keep.refl w).alloc _).trans k1⟩
set_option maxRecDepth 100000 in
set_option maxHeartbeats 2000000 in
theorem waitsB_any (w : World) (v : Value) (dss : List (List Dd)) (h : RdW w v dss) (i p q : Nat) (r : Bool) (pl vl cl i' : Int) (r' : Bool) (pl' vl' cl' : Int) (hi : i < dss.length) (hp : p < q) (hq : q < (dss.getD i []).length) (hl : (dss.getD i []).length ≤ 1048576) :
    Calls Tryz.prog 140 #[v, eA i p r pl vl cl, eA i' q r' pl' vl' cl'] w fun e w' => e = .returned (.bool (btwD (dss.getD i []) p q)) ∧ Keep w w' := by
  obtain ⟨a, c, rfl, h⟩ := h
  rcases h with h | ⟨b, o, rfl, hb, hc⟩
  · exfalso; rw [h] at hi; simp at hi
  obtain ⟨u, e1, r1⟩ := hc i hi
  clear hc
  obtain ⟨ds, hds⟩ : ∃ ds, ds = dss.getD i [] := ⟨_, rfl⟩
  rw [← hds] at r1 hq hl ⊢
  clear hds
  obtain ⟨ai, ci, rfl, r1⟩ := r1
  rcases r1 with h | ⟨b2, o2, rfl, hb2, hc2⟩
  · exfalso; rw [h] at hq; simp at hq
  have i1 : (0 : Int) ≤ (i : Int) := Int.natCast_nonneg _
  have i2 : (i : Int) < (dss.length : Int) := by omega
  have p1 : (0 : Int) ≤ (p : Int) := Int.natCast_nonneg _
  have p2 : (p : Int) ≤ (q : Int) := by omega
  have q1 : (q : Int) ≤ (ds.length : Int) := by omega
  have q2 : (q : Int) ≤ (ds.length : Int) + (ci : Int) := by omega
  have C : ∀ w1 : World, Keep w w1 → Calls Tryz.prog 167 #[.slice (if ds.length + ci = p then some ⟨b2, o2, none⟩ else some ⟨b2, o2 + p * 4, none⟩) (q - p) (ds.length + ci - p), deedV 4 0 0 0] w1 fun e w' => e = .returned (.bool (btwD ds p q)) ∧ Keep w1 w' := fun w1 k1 => by
    rw [if_neg (by omega)]
    refine dHas_any w1 b2 (o2 + p * 4) (q - p) _ (fun j => ds.getD (p + j) zD) (Nat.lt_of_lt_of_le hb2 k1.size) (fun j hj => ?_) (by omega)
    have := (hc2 (p + j) (by omega)).keep hb2 k1
    rw [show o2 + (p + j) * 4 = o2 + p * 4 + j * 4 by omega] at this
    exact this
  generalize btwD ds p q = B at C ⊢
  clear hc2
  go_enter Tryz.func140, Tryz.ntmps140
  go_wp2_with fail
  go_region_held3 (fun w' => w'.cell? ⟨b, o + i, none⟩ = some (.slice (some ⟨b2, o2, none⟩) ds.length (ds.length + ci)) ∧ w'.cell? ⟨w.heap.size, 0, none⟩ = some (.int .i64 i) ∧ w'.cell? ⟨w.heap.size, 1, none⟩ = some (.int .i64 p) ∧ w'.cell? ⟨w.heap.size + 1, 1, none⟩ = some (.int .i64 q))
    (first | go_keep | (go_split_ands; refine ⟨?_, ?_, ?_, ?_⟩ <;> (rw [kk.cell (by simp only [heap_drew, heap_size]; omega)]; assumption)))
    ((go_at_call 167; refine (C _ ?_).mono ?_; exact (((Keep.refl w).alloc _).alloc _).drew; rintro e wz ⟨rfl, kk⟩))
  all_goals
    go_wp2
    go_ret
    exact ⟨rfl, ((((Keep.refl w).alloc _).alloc _).drew).trans kk⟩
theorem box_two {w w1 : World} {x0 x1 : Int} {x2 : Bool} {x3 x4 x5 y0 y1 : Int} {y2 : Bool} {y3 y4 y5 : Int} {t t' : TypeId}
    (k : Keep ((w.alloc (.cells #[.int .i64 x0, .int .i64 x1, .bool x2, .int .i64 x3, .int .i64 x4, .int .i64 x5] t)).alloc (.cells #[.int .i64 y0, .int .i64 y1, .bool y2, .int .i64 y3, .int .i64 y4, .int .i64 y5] t')) w1) :
    (w1.cell? ⟨w.heap.size, 0, none⟩ = some (.int .i64 x0) ∧ w1.cell? ⟨w.heap.size, 1, none⟩ = some (.int .i64 x1) ∧ w1.cell? ⟨w.heap.size, 2, none⟩ = some (.bool x2) ∧ w1.cell? ⟨w.heap.size, 3, none⟩ = some (.int .i64 x3) ∧ w1.cell? ⟨w.heap.size, 4, none⟩ = some (.int .i64 x4) ∧ w1.cell? ⟨w.heap.size, 5, none⟩ = some (.int .i64 x5)) ∧ (w1.cell? ⟨w.heap.size + 1, 0, none⟩ = some (.int .i64 y0) ∧ w1.cell? ⟨w.heap.size + 1, 1, none⟩ = some (.int .i64 y1) ∧ w1.cell? ⟨w.heap.size + 1, 2, none⟩ = some (.bool y2) ∧ w1.cell? ⟨w.heap.size + 1, 3, none⟩ = some (.int .i64 y3) ∧ w1.cell? ⟨w.heap.size + 1, 4, none⟩ = some (.int .i64 y4) ∧ w1.cell? ⟨w.heap.size + 1, 5, none⟩ = some (.int .i64 y5)) := by
  have h0 : ∀ i : Nat, w1.cell? ⟨w.heap.size, i, none⟩ = (#[Value.int .i64 x0, .int .i64 x1, .bool x2, .int .i64 x3, .int .i64 x4, .int .i64 x5])[i]? := fun i => by
    rw [k.cell (by simp only [heap_size]; omega), (((Keep.refl (w.alloc _)).alloc _)).cell (by simp only [heap_size]; omega)]
    exact box_cell (Keep.refl _) i
  have h1 : ∀ i : Nat, w1.cell? ⟨w.heap.size + 1, i, none⟩ = (#[Value.int .i64 y0, .int .i64 y1, .bool y2, .int .i64 y3, .int .i64 y4, .int .i64 y5])[i]? := fun i => by
    have := box_cell k i
    rw [heap_size] at this
    exact this
  exact ⟨⟨h0 0, h0 1, h0 2, h0 3, h0 4, h0 5⟩, ⟨h1 0, h1 1, h1 2, h1 3, h1 4, h1 5⟩⟩
set_option maxRecDepth 100000 in
set_option maxHeartbeats 2000000 in
theorem keeps_any (w : World) (v : Value) (dss : List (List Dd)) (h : RdW w v dss) (hl : ∀ i, i < dss.length → (dss.getD i []).length ≤ 1048576) (x0 x1 : Int) (x2 : Bool) (x3 x4 x5 y0 y1 : Int) (y2 : Bool) (y3 y4 y5 : Int)
    (hk : x0 = -1 ∨ ∃ c p q : Nat, x0 = (c : Int) ∧ x1 = (p : Int) ∧ y0 = (c : Int) ∧ y1 = (q : Int) ∧ c < dss.length ∧ (p < q ∨ (p = q ∧ ((dss.getD c []).getD p zD).1 = 3)) ∧ q < (dss.getD c []).length) :
    Calls Tryz.prog 89 #[v, eA x0 x1 x2 x3 x4 x5, eA y0 y1 y2 y3 y4 y5] w fun e w' => e = .returned (.bool (keepE dss (x0, x1, x2, x3, x4, x5) (y0, y1, y2, y3, y4, y5))) ∧ Keep w w' := by
  rcases hk with rfl | ⟨c, p, q, rfl, rfl, rfl, rfl, hc, hpq, hq⟩
  · have HE : Hid (keepE dss (-1, x1, x2, x3, x4, x5) (y0, y1, y2, y3, y4, y5) = true) := Lib.hid (by unfold keepE; rfl)
    go_enter Tryz.func89, Tryz.ntmps89
    go_wp2
    go_ret
    exact ⟨by rw [HE.out]; rfl, ((Keep.refl w).alloc _).alloc _⟩
  · have cb : ((c : Int) == -1) = false := by simp
    have HK : Hid (keepE dss ((c : Int), (p : Int), x2, x3, x4, x5) ((c : Int), (q : Int), y2, y3, y4, y5) = (x2 || (!y2 || (onceD ((dss.getD c []).getD p zD) || (onceD ((dss.getD c []).getD q zD) || btwD (dss.getD c []) p q))))) := Lib.hid (by
      unfold keepE dOf
      simp only [Int.toNat_natCast]
      rw [cb, Bool.false_or]
      simp only [Bool.or_assoc])
    cases x2
    · cases y2
      · have HE : Hid (keepE dss ((c : Int), (p : Int), false, x3, x4, x5) ((c : Int), (q : Int), false, y3, y4, y5) = true) := Lib.hid (by rw [HK.out]; rfl)
        clear HK
        go_enter Tryz.func89, Tryz.ntmps89
        go_wp2
        go_ret
        exact ⟨by rw [HE.out]; rfl, ((Keep.refl w).alloc _).alloc _⟩
      · have D1 := fun (w1 : World) (k1 : Keep w w1) (r : Bool) (a b e : Int) => deedOf_any w1 v dss (h.keep k1) c p r a b e hc (by omega)
        have D2 := fun (w1 : World) (k1 : Keep w w1) (r : Bool) (a b e : Int) => deedOf_any w1 v dss (h.keep k1) c q r a b e hc hq
        have W := fun (w1 : World) (k1 : Keep w w1) (hp : p < q) => waitsB_any w1 v dss (h.keep k1) c p q false x3 x4 x5 c true y3 y4 y5 hc hp hq (hl c hc)
        clear h hl
        generalize btwD (dss.getD c []) p q = B at HK W
        have hp3 : onceD ((dss.getD c []).getD p zD) = false → p < q := fun hf => by
          rcases hpq with h1 | ⟨_, h2⟩
          · exact h1
          · unfold onceD at hf
            rw [h2] at hf
            simp at hf
        clear hpq
        obtain ⟨d1, hd1⟩ : ∃ d, d = (dss.getD c []).getD p zD := ⟨_, rfl⟩
        obtain ⟨d2, hd2⟩ : ∃ d, d = (dss.getD c []).getD q zD := ⟨_, rfl⟩
        rw [← hd1] at D1 HK hp3
        rw [← hd2] at D2 HK
        clear hd1 hd2
        obtain ⟨k1, p1, v1, g1⟩ := d1
        obtain ⟨k2, p2, v2, g2⟩ := d2
        have A1 := fun w1 => isAtOnce_any w1 k1 p1 v1 g1
        have A2 := fun w1 => isAtOnce_any w1 k2 p2 v2 g2
        generalize onceD (k1, p1, v1, g1) = o1 at HK A1 hp3
        generalize onceD (k2, p2, v2, g2) = o2 at HK A2
        go_enter Tryz.func89, Tryz.ntmps89
        go_wp2_with fail
        refine (D1 _ (((Keep.refl w).alloc _).alloc _) _ _ _ _).mono ?_
        rintro e w1 ⟨rfl, k1⟩
        go_wp2_with fail
        refine (A1 _).mono ?_
        rintro e w2 ⟨rfl, k2⟩
        have B2 := k1.trans k2
        have K2 := (((Keep.refl w).alloc _).alloc _).trans B2
        obtain ⟨⟨a0, a1, a2, a3, a4, a5⟩, ⟨b0, b1, b2, b3, b4, b5⟩⟩ := box_two B2
        clear k1 k2
        cases o1
        · have hp := hp3 rfl
          go_wp2_with fail
          refine (D2 _ K2 _ _ _ _).mono ?_
          rintro e w3 ⟨rfl, k3⟩
          clear a0 a1 a2 a3 a4 a5 b0 b1 b2 b3 b4 b5
          go_wp2_with fail
          refine (A2 _).mono ?_
          rintro e w4 ⟨rfl, k4⟩
          have B4 := (B2.trans k3).trans k4
          have K4 := (K2.trans k3).trans k4
          obtain ⟨⟨a0, a1, a2, a3, a4, a5⟩, ⟨b0, b1, b2, b3, b4, b5⟩⟩ := box_two B4
          clear k3 k4 B2 K2
          cases o2
          · go_wp2_with fail
            refine (W _ K4 hp).mono ?_
            rintro e w5 ⟨rfl, k5⟩
            go_wp2
            go_ret
            exact ⟨by rw [HK.out]; rfl, K4.trans k5⟩
          · go_wp2
            go_ret
            exact ⟨by rw [HK.out]; rfl, K4⟩
        · go_wp2
          go_ret
          exact ⟨by rw [HK.out]; rfl, K2⟩
    · have HE : Hid (keepE dss ((c : Int), (p : Int), true, x3, x4, x5) ((c : Int), (q : Int), y2, y3, y4, y5) = true) := Lib.hid (by rw [HK.out]; rfl)
      clear HK
      go_enter Tryz.func89, Tryz.ntmps89
      go_wp2
      go_ret
      exact ⟨by rw [HE.out]; rfl, ((Keep.refl w).alloc _).alloc _⟩
end Go.Proofs.YtkbkdlaknmgjpaaGreat

/- Contract of the program's helper that asks for any number of tests, at the one for what is kept. -/
namespace Go.Proofs.YtkbkdlaknmgjpaaGreat
open Go.ChangeShapes Go.WideShapes Go.ChangeAt Go.RowKit

set_option maxHeartbeats 1000000 in
theorem pass_keep (w : World) (g : Nat) (v : Value) (dss : List (List Dd)) (h : RdW w v dss) (hl : ∀ i, i < dss.length → (dss.getD i []).length ≤ 1048576) (x0 x1 : Int) (x2 : Bool) (x3 x4 x5 y0 y1 : Int) (y2 : Bool) (y3 y4 y5 : Int) (hk : x0 = -1 ∨ ∃ c p q : Nat, x0 = (c : Int) ∧ x1 = (p : Int) ∧ y0 = (c : Int) ∧ y1 = (q : Int) ∧ c < dss.length ∧ (p < q ∨ (p = q ∧ ((dss.getD c []).getD p zD).1 = 3)) ∧ q < (dss.getD c []).length) (hg : w.cell? ⟨g, 0, none⟩ = some (.func (Fn.func 89) #[v] #[])) :
    Calls Tryz.prog 137 #[eA x0 x1 x2 x3 x4 x5, eA y0 y1 y2 y3 y4 y5, .slice (some ⟨g, 0, none⟩) 1 1] w fun e w' => e = .returned (.bool (keepE dss (x0, x1, x2, x3, x4, x5) (y0, y1, y2, y3, y4, y5))) ∧ Keep w w' := by
  have hgl := block_lt hg
  have C := fun (w1 : World) (k1 : Keep w w1) => keeps_any w1 v dss (h.keep k1) hl x0 x1 x2 x3 x4 x5 y0 y1 y2 y3 y4 y5 hk
  generalize keepE dss (x0, x1, x2, x3, x4, x5) (y0, y1, y2, y3, y4, y5) = B at C ⊢
  have C2 := C _ (((Keep.refl w).alloc (.cells #[.int .i64 x0, .int .i64 x1, .bool x2, .int .i64 x3, .int .i64 x4, .int .i64 x5] 40)).alloc (.cells #[.int .i64 y0, .int .i64 y1, .bool y2, .int .i64 y3, .int .i64 y4, .int .i64 y5] 40))
  clear C
  go_enter Tryz.func137, Tryz.ntmps137
  go_wp2_with fail
  refine wp_loop_rounds 2 ?_
  rw [rounds_succ]
  go_wp2_with fail
  refine C2.mono ?_
  rintro e w1 ⟨rfl, k1⟩
  have K := (((Keep.refl w).alloc _).alloc _).trans k1
  cases B
  · go_wp2
    go_ret
    exact ⟨rfl, K⟩
  · go_wp2
    rw [rounds_succ]
    go_wp2
    go_ret
    exact ⟨rfl, K⟩
end Go.Proofs.YtkbkdlaknmgjpaaGreat

/- Contract of the program's Kept. -/
namespace Go.Proofs.YtkbkdlaknmgjpaaGreat
open Go.ChangeShapes Go.WideShapes Go.ChangeAt Go.RowKit

theorem col_kep (dss : List (List Dd)) : colAll (tQ (keepE dss) (eventsB dss)) (eventsB dss).length (eventsB dss).length = kepL dss (eventsB dss) := by
  cases hb : workB dss with
  | false => rw [eventsB, hb]; rfl
  | true => rw [eventsB, if_pos hb, ← kep_same hb]
/-- What the program's test asks of two events of which one stands behind the other. -/
theorem kep_pair {dss : List (List Dd)} {i j : Nat} (hij : i < j) (hj : j < (eventsB dss).length) {x0 x1 : Int} {x2 : Bool} {x3 x4 x5 y0 y1 : Int} {y2 : Bool} {y3 y4 y5 : Int}
    (hx : (eventsB dss).getD i zE = (x0, x1, x2, x3, x4, x5)) (hy : (eventsB dss).getD j zE = (y0, y1, y2, y3, y4, y5)) (hi : isbE (x0, x1, x2, x3, x4, x5) (y0, y1, y2, y3, y4, y5) = true) :
    x0 = -1 ∨ ∃ c p q : Nat, x0 = (c : Int) ∧ x1 = (p : Int) ∧ y0 = (c : Int) ∧ y1 = (q : Int) ∧ c < dss.length ∧ (p < q ∨ (p = q ∧ ((dss.getD c []).getD p zD).1 = 3)) ∧ q < (dss.getD c []).length := by
  cases hb : workB dss with
  | false => rw [eventsB, hb] at hj; simp at hj
  | true =>
    rw [eventsB, if_pos hb] at hj hx hy
    by_cases i3 : i < 3
    · have := (evs_who hb (show i < _ by omega)).1 i3
      rw [hx] at this
      exact .inl this
    · have h0 := (evs_who hb (show i < _ by omega)).2 (by omega)
      rw [hx] at h0
      have hc : ((evsW dss dss.length).getD i zE).1 = ((evsW dss dss.length).getD j zE).1 := by
        rw [hx, hy]
        unfold isbE at hi
        simp only [Bool.and_eq_true, Bool.or_eq_true, beq_iff_eq] at hi h0
        rcases hi.2 with h | h
        · omega
        · exact h
      obtain ⟨c, p, q, h1, h2, h3, h4, h5, h6, _⟩ := evs_two hb (by omega) hij hj hc
      rw [hc, hy] at h1
      rw [hx] at h2
      rw [hx, hy] at hc
      rw [hy] at h3
      simp only at h1 h2 h3 hc
      exact .inr ⟨c, p, q, by omega, h2, h1, h3, h4, h5, h6⟩
set_option maxHeartbeats 1000000 in
theorem implKept_any (w : World) (v : Value) (dss : List (List Dd)) (h : RdW w v dss) (hx : dss.length ≤ 1048576) (hm : ∀ i, i < dss.length → (dss.getD i []).length ≤ 1048576) :
    Calls Tryz.prog 41 #[v] w fun e w' => ∃ v', e = .returned v' ∧ Row w' w.heap.size v' (kepL dss (eventsB dss)) ∧ Keep w w' := by
  have C := fun (w0 : World) (k0 : Keep w w0) (g : Nat) (hg : w0.cell? ⟨g, 0, none⟩ = some (.func (Fn.func 89) #[v] #[])) =>
    linesOf_any w0 v (.slice (some ⟨g, 0, none⟩) 1 1) dss (keepE dss) (h.keep k0) hx hm (fun i j hij hj x0 x1 x2 x3 x4 x5 y0 y1 y2 y3 y4 y5 ex ey hi w1 k1 => pass_keep w1 g v dss (h.keep (k0.trans k1)) hm x0 x1 x2 x3 x4 x5 y0 y1 y2 y3 y4 y5 (kep_pair hij hj ex ey hi) ((k1.cell (block_lt hg)).trans hg))
  rw [col_kep] at C
  go_enter Tryz.func41, Tryz.ntmps41
  go_wp2_with fail
  refine (C _ ((Keep.refl w).alloc _) _ ?_).mono ?_
  · simp
  rintro e w1 ⟨v1, rfl, r1, k1⟩
  go_wp2
  go_ret
  exact ⟨_, rfl, r1.base_le (by rw [heap_size]; omega), ((Keep.refl w).alloc _).trans k1⟩
end Go.Proofs.YtkbkdlaknmgjpaaGreat

/- Lists of lines (from, to) in memory. -/
namespace Go.Proofs.YtkbkdlaknmgjpaaGreat
open Go.ChangeShapes Go.WideShapes Go.ChangeAt Go.RowKit

def cLn (x : Int × Int) : List Value := [.int .i64 x.1, .int .i64 x.2]
theorem cLn_len (x : Int × Int) : (cLn x).length = 2 := rfl
theorem Tryz.infoLn : (Tryz.prog.info? 65).map (fun i => (i.zero, i.size, i.bytes)) = some (some (.agg #[.int .i64 0, .int .i64 0]), 2, 16) := by kernel_rfl
abbrev RdLn (w : World) (v : Value) (l : List (Int × Int)) : Prop := RdT cLn 2 w v l
abbrev AppLn (w : World) (base : Nat) (v : Value) (l : List (Int × Int)) : Prop := AppT cLn 65 2 w base v l
theorem atLn {w : World} {b o : Nat} {x y : Int} (h : AtT cLn w b o (x, y)) : w.cell? ⟨b, o, none⟩ = some (.int .i64 x) ∧ w.cell? ⟨b, o + 1, none⟩ = some (.int .i64 y) := ⟨h 0 _ rfl, h 1 _ rfl⟩
theorem AppLn.rd {w : World} {base : Nat} {v : Value} {l : List (Int × Int)} (h : AppLn w base v l) : RdLn w v l := AppT.rd cLn_len h
theorem ln_get {l : List (Int × Int)} {i : Nat} (h : i < l.length) : l[i]? = some (l.getD i (0, 0)) := by
  rw [List.getD_eq_getElem?_getD, List.getElem?_eq_getElem h]; rfl
abbrev lnO (x y : Int) : Obj := .cells #[.int .i64 x, .int .i64 y] 65
theorem cLn_one (x : Int × Int) : ∀ u ∈ cLn x, u.oneCell' = true := by
  intro u hu
  simp only [cLn, List.mem_cons, List.not_mem_nil, or_false] at hu
  rcases hu with rfl | rfl <;> rfl
theorem cLn_new (w : World) (n : Nat) (hn : w.heap.size = n) (x y : Int) : ∀ j u, (cLn (x, y))[j]? = some u → (w.alloc (lnO x y)).cell? ((⟨n, 0, none⟩ : Addr).add j) = some u := by
  subst hn
  intro j u hj
  match j, hj with
  | 0, hj => simp [cLn] at hj; subst hj; simp [Addr.add]
  | 1, hj => simp [cLn] at hj; subst hj; simp [Addr.add]
end Go.Proofs.YtkbkdlaknmgjpaaGreat

/- Plain mathematics: where the events of each deed stand in the list of all events, and their classes. -/
namespace Go.Proofs.YtkbkdlaknmgjpaaGreat

abbrev dAt (dss : List (List Dd)) (c k : Nat) : Dd := (dss.getD c []).getD k zD
/-- How many events stand ahead of deed k of clerk c. -/
def offN (dss : List (List Dd)) (c k : Nat) : Nat := (clkE c (dss.getD c []) (evsW dss c) k).1.length
def numD (d : Dd) : Nat := if d.1 = 4 then 0 else if d.1 = 3 then 2 else 1
theorem oneE_num (i k : Nat) (d : Dd) (c : Int) : (oneE i k d c).length = numD d := by
  unfold oneE numD
  split
  · rfl
  · split
    · rfl
    · split <;> rfl
/-- The class that deed k of clerk c has. -/
def clsD (dss : List (List Dd)) (c k : Nat) : Int := clsE (dAt dss c k).2.2.2 (offN dss c k) (clkE c (dss.getD c []) (evsW dss c) k).2
theorem clk_step (dss : List (List Dd)) (c k : Nat) : (clkE c (dss.getD c []) (evsW dss c) (k + 1)).1 = (clkE c (dss.getD c []) (evsW dss c) k).1 ++ oneE c k (dAt dss c k) (clsD dss c k) := by
  rw [clkE, stepE]
  split
  · rename_i h
    have e : oneE c k (dAt dss c k) (clsD dss c k) = [] := by unfold oneE; rw [if_pos h]
    rw [e, List.append_nil]
  · rfl
theorem off_succ (dss : List (List Dd)) (c k : Nat) : offN dss c (k + 1) = offN dss c k + numD (dAt dss c k) := by
  unfold offN
  rw [clk_step, List.length_append, oneE_num]
theorem off_zero (dss : List (List Dd)) (c : Nat) : offN dss c 0 = (evsW dss c).length := rfl
theorem off_end (dss : List (List Dd)) (c : Nat) : (evsW dss (c + 1)).length = offN dss c (dss.getD c []).length := rfl
theorem clk_pre (dss : List (List Dd)) (c k : Nat) : ∀ n : Nat, k ≤ n → ∃ t, (clkE c (dss.getD c []) (evsW dss c) n).1 = (clkE c (dss.getD c []) (evsW dss c) k).1 ++ t
  | 0, h => by
    obtain rfl : k = 0 := by omega
    exact ⟨[], by simp⟩
  | n + 1, h => by
    by_cases e : k = n + 1
    · subst e; exact ⟨[], by simp⟩
    · obtain ⟨t, ht⟩ := clk_pre dss c k n (by omega)
      exact ⟨t ++ oneE c n (dAt dss c n) (clsD dss c n), by rw [clk_step, ht, List.append_assoc]⟩
theorem evs_pre (dss : List (List Dd)) (c : Nat) : ∀ n : Nat, c ≤ n → ∃ t, evsW dss n = evsW dss c ++ t
  | 0, h => by
    obtain rfl : c = 0 := by omega
    exact ⟨[], by simp⟩
  | n + 1, h => by
    by_cases e : c = n + 1
    · subst e; exact ⟨[], by simp⟩
    · obtain ⟨t, ht⟩ := evs_pre dss c n (by omega)
      obtain ⟨t2, h2⟩ := clk_pre dss n 0 (dss.getD n []).length (Nat.zero_le _)
      refine ⟨t ++ t2, ?_⟩
      show (clkE n (dss.getD n []) (evsW dss n) (dss.getD n []).length).1 = _
      rw [h2]
      show evsW dss n ++ t2 = _
      rw [ht, List.append_assoc]
/-- What stands where a deed's events begin. -/
theorem es_at {dss : List (List Dd)} {c k n : Nat} (hc : c < n) (hk : k < (dss.getD c []).length) {i : Nat} {e : Ev} (h : (oneE c k (dAt dss c k) (clsD dss c k))[i]? = some e) : (evsW dss n)[offN dss c k + i]? = some e := by
  obtain ⟨t1, h1⟩ := evs_pre dss (c + 1) n hc
  obtain ⟨t2, h2⟩ := clk_pre dss c (k + 1) (dss.getD c []).length hk
  rw [h1]
  refine at_left t1 ?_
  show (clkE c (dss.getD c []) (evsW dss c) (dss.getD c []).length).1[offN dss c k + i]? = some e
  rw [h2]
  refine at_left t2 ?_
  rw [clk_step, List.getElem?_append_right (by unfold offN; omega)]
  show (oneE c k (dAt dss c k) (clsD dss c k))[offN dss c k + i - offN dss c k]? = some e
  rw [show offN dss c k + i - offN dss c k = i by omega]
  exact h
theorem clk_dec (dss : List (List Dd)) (c : Nat) {j : Nat} (h0 : offN dss c 0 ≤ j) : ∀ k : Nat, j < offN dss c k → ∃ k' i, k' < k ∧ i < numD (dAt dss c k') ∧ j = offN dss c k' + i
  | 0, h => by omega
  | k + 1, h => by
    by_cases hj : j < offN dss c k
    · obtain ⟨k', i, h1, h2, h3⟩ := clk_dec dss c h0 k hj
      exact ⟨k', i, by omega, h2, h3⟩
    · rw [off_succ] at h
      exact ⟨k, j - offN dss c k, by omega, by omega, by omega⟩
theorem es_dec (dss : List (List Dd)) {j : Nat} (h3 : 3 ≤ j) : ∀ n : Nat, j < (evsW dss n).length → ∃ c k i, c < n ∧ k < (dss.getD c []).length ∧ i < numD (dAt dss c k) ∧ j = offN dss c k + i
  | 0, h => by simp [evsW, evBeg] at h; omega
  | n + 1, h => by
    by_cases hj : j < (evsW dss n).length
    · obtain ⟨c, k, i, h1, h2⟩ := es_dec dss h3 n hj
      exact ⟨c, k, i, by omega, h2⟩
    · rw [off_end] at h
      obtain ⟨k, i, h1, h2⟩ := clk_dec dss n (by rw [off_zero]; omega) _ h
      exact ⟨n, k, i, by omega, h1, h2⟩
theorem off_le (dss : List (List Dd)) (c : Nat) {k k' : Nat} (h : k ≤ k') : offN dss c k ≤ offN dss c k' := by
  obtain ⟨t, ht⟩ := clk_pre dss c k k' h
  unfold offN
  rw [ht, List.length_append]
  omega
/-- Deeds stand in order: clerk by clerk, each clerk's one behind the other. -/
theorem off_lt {dss : List (List Dd)} {c c' k k' : Nat} (hk : k < (dss.getD c []).length) (h : c < c' ∨ (c = c' ∧ k < k')) : offN dss c k + numD (dAt dss c k) ≤ offN dss c' k' := by
  rcases h with h | ⟨rfl, h⟩
  · have h1 := off_le dss c (k := k + 1) (k' := (dss.getD c []).length) hk
    rw [off_succ] at h1
    obtain ⟨t, ht⟩ := evs_pre dss (c + 1) c' h
    have h2 := off_le dss c' (Nat.zero_le k')
    rw [off_zero, ht, List.length_append, off_end] at h2
    omega
  · have h1 := off_le dss c (k := k + 1) (k' := k') h
    rw [off_succ] at h1
    exact h1
theorem off_three (dss : List (List Dd)) (c k : Nat) : 3 ≤ offN dss c k := by
  obtain ⟨t, ht⟩ := evs_pre dss 0 c (Nat.zero_le _)
  have h := off_le dss c (Nat.zero_le k)
  rw [off_zero, ht, List.length_append] at h
  simp [evsW, evBeg] at h
  omega
end Go.Proofs.YtkbkdlaknmgjpaaGreat

/- Plain mathematics: which events are of one class. -/
namespace Go.Proofs.YtkbkdlaknmgjpaaGreat

abbrev gAt (dss : List (List Dd)) (c k : Nat) : Int := (dAt dss c k).2.2.2
/-- Of a clerk of right deeds. -/
def OkC (dss : List (List Dd)) (c : Nat) : Prop := ∀ k, k < (dss.getD c []).length → okD (dAt dss c k) = true
theorem okC_of {dss : List (List Dd)} (h : workB dss = true) {c : Nat} (hc : c < dss.length) : OkC dss c := by
  simp only [workB, Bool.and_eq_true, decide_eq_true_eq] at h
  obtain ⟨⟨⟨⟨_, h2⟩, _⟩, _⟩, _⟩ := h
  have h3 := all_get [] h2 c hc
  unfold okL at h3
  rw [Bool.and_eq_true] at h3
  exact fun k hk => all_get zD h3.1 k hk
theorem g_in {dss : List (List Dd)} {c k : Nat} (h : OkC dss c) (hk : k < (dss.getD c []).length) : 0 ≤ gAt dss c k ∧ gAt dss c k ≤ 9 ∧ (2 < (dAt dss c k).1 → gAt dss c k = 0) :=
  ⟨(okD_restE (h k hk)).2.2.1, (okD_restE (h k hk)).2.2.2.1, (okD_restE (h k hk)).2.2.2.2⟩
theorem fst_len (dss : List (List Dd)) (c : Nat) : ∀ k : Nat, (clkE c (dss.getD c []) (evsW dss c) k).2.length = 10
  | 0 => by simp [clkE]
  | k + 1 => by
    have ih := fst_len dss c k
    rw [clkE, stepE]
    split
    · exact ih
    · show (fstE _ _ _).length = 10
      unfold fstE
      split
      · rw [List.length_set]; exact ih
      · exact ih
/-- Where each group began. -/
theorem fst_at {dss : List (List Dd)} {c : Nat} (hok : OkC dss c) {g : Nat} (h0 : 0 < g) (h9 : g ≤ 9) : ∀ k : Nat, k ≤ (dss.getD c []).length →
    ((clkE c (dss.getD c []) (evsW dss c) k).2.getD g 0 = 0 ∧ ∀ j, j < k → gAt dss c j ≠ g) ∨
    ∃ j, j < k ∧ gAt dss c j = g ∧ (∀ i, i < j → gAt dss c i ≠ g) ∧ (clkE c (dss.getD c []) (evsW dss c) k).2.getD g 0 = (offN dss c j : Int)
  | 0, _ => .inl ⟨by
      show (List.replicate 10 (0 : Int)).getD g 0 = 0
      rw [List.getD_eq_getElem?_getD, List.getElem?_replicate]
      split <;> rfl, fun j hj => by omega⟩
  | k + 1, hk => by
    have ih := fst_at hok h0 h9 k (by omega)
    have hl := fst_len dss c k
    have hd := g_in hok (k := k) (by omega)
    have hkk := okD_kindE (hok k (by omega))
    by_cases h4 : (dAt dss c k).1 = 4
    · have e : (clkE c (dss.getD c []) (evsW dss c) (k + 1)).2 = (clkE c (dss.getD c []) (evsW dss c) k).2 := by
        rw [clkE, stepE, if_pos h4]
      have hg : gAt dss c k = 0 := hd.2.2 (by omega)
      rw [e]
      rcases ih with ⟨h1, h2⟩ | ⟨j, h1, h2, h3, h5⟩
      · refine .inl ⟨h1, fun j hj => ?_⟩
        by_cases e : j = k
        · subst e; omega
        · exact h2 j (by omega)
      · exact .inr ⟨j, by omega, h2, h3, h5⟩
    · have e : (clkE c (dss.getD c []) (evsW dss c) (k + 1)).2 = fstE (gAt dss c k) (offN dss c k) (clkE c (dss.getD c []) (evsW dss c) k).2 := by
        rw [clkE, stepE, if_neg h4]
        rfl
      rw [e]
      by_cases hg : gAt dss c k = (g : Int)
      · rcases ih with ⟨h1, h2⟩ | ⟨j, h1, h2, h3, h5⟩
        · refine .inr ⟨k, by omega, hg, h2, ?_⟩
          unfold fstE
          rw [hg, Int.toNat_natCast, if_pos ⟨by omega, h1⟩, getD_setE _ _ _ _ (by omega), if_pos rfl]
        · refine .inr ⟨j, by omega, h2, h3, ?_⟩
          have h6 := off_three dss c j
          unfold fstE
          rw [hg, Int.toNat_natCast, if_neg (by rw [h5]; omega)]
          exact h5
      · have e2 : (fstE (gAt dss c k) (offN dss c k) (clkE c (dss.getD c []) (evsW dss c) k).2).getD g 0 = (clkE c (dss.getD c []) (evsW dss c) k).2.getD g 0 := by
          unfold fstE
          split
          · rename_i hp
            have hx : (gAt dss c k).toNat ≤ 9 := by have := hd.2.1; omega
            rw [getD_setE _ _ _ _ (by omega), if_neg (by omega)]
          · rfl
        rw [e2]
        rcases ih with ⟨h1, h2⟩ | ⟨j, h1, h2, h3, h5⟩
        · refine .inl ⟨h1, fun j hj => ?_⟩
          by_cases e : j = k
          · subst e; exact hg
          · exact h2 j (by omega)
        · exact .inr ⟨j, by omega, h2, h3, h5⟩
/-- The class of a deed: where its group began, or where it stands itself. -/
theorem cls_at {dss : List (List Dd)} {c k : Nat} (hok : OkC dss c) (hk : k < (dss.getD c []).length) (h4 : (dAt dss c k).1 ≠ 4) :
    (gAt dss c k = 0 ∧ clsD dss c k = (offN dss c k : Int)) ∨ (gAt dss c k ≠ 0 ∧ ∃ j, j ≤ k ∧ gAt dss c j = gAt dss c k ∧ (∀ i, i < j → gAt dss c i ≠ gAt dss c k) ∧ clsD dss c k = (offN dss c j : Int)) := by
  have hd := g_in hok hk
  by_cases hg : gAt dss c k = 0
  · refine .inl ⟨hg, ?_⟩
    unfold clsD clsE
    rw [if_neg (by have : (dAt dss c k).2.2.2 = 0 := hg; omega)]
  · obtain ⟨g, hgg⟩ := Int.eq_ofNat_of_zero_le hd.1
    have hgg' : gAt dss c k = (g : Int) := hgg
    have h9 : g ≤ 9 := by have := hd.2.1; omega
    refine .inr ⟨hg, ?_⟩
    have h1 := fst_at hok (g := g) (by omega) h9 (k + 1) hk
    have e : (clkE c (dss.getD c []) (evsW dss c) (k + 1)).2 = fstE (gAt dss c k) (offN dss c k) (clkE c (dss.getD c []) (evsW dss c) k).2 := by
      rw [clkE, stepE, if_neg h4]
      rfl
    rw [e] at h1
    rcases h1 with ⟨_, h2⟩ | ⟨j, h1, h2, h3, h5⟩
    · exact absurd hgg' (h2 k (by omega))
    · refine ⟨j, by omega, by rw [hgg']; exact h2, fun i hi => by rw [hgg']; exact h3 i hi, ?_⟩
      unfold clsD clsE
      rw [if_pos (by have : (dAt dss c k).2.2.2 = (g : Int) := hgg'; omega)]
      have hq : (dAt dss c k).2.2.2.toNat = g := by have : (dAt dss c k).2.2.2 = (g : Int) := hgg'; omega
      rw [hq]
      exact h5
/-- Two deeds that have events begin at two places. -/
theorem off_inj {dss : List (List Dd)} {c c' k k' : Nat} (hk : k < (dss.getD c []).length) (hk' : k' < (dss.getD c' []).length) (h1 : 0 < numD (dAt dss c k)) (h2 : 0 < numD (dAt dss c' k')) (e : offN dss c k = offN dss c' k') : c = c' ∧ k = k' := by
  by_cases hc : c < c'
  · have := off_lt (k' := k') hk (.inl hc); omega
  by_cases hc' : c' < c
  · have := off_lt (k' := k) hk' (.inl hc'); omega
  obtain rfl : c = c' := by omega
  refine ⟨rfl, ?_⟩
  by_cases hkk : k < k'
  · have := off_lt (c' := c) (k' := k') hk (.inr ⟨rfl, hkk⟩); omega
  by_cases hkk' : k' < k
  · have := off_lt (c' := c) (k' := k) hk' (.inr ⟨rfl, hkk'⟩); omega
  omega
theorem num_grp {dss : List (List Dd)} {c k : Nat} (hok : OkC dss c) (hk : k < (dss.getD c []).length) (hg : gAt dss c k ≠ 0) : (dAt dss c k).1 ≠ 4 ∧ (dAt dss c k).1 ≠ 3 ∧ 0 < numD (dAt dss c k) := by
  have hd := g_in hok hk
  have hkk := okD_kindE (hok k hk)
  have h3 : ¬ 2 < (dAt dss c k).1 := fun h => hg (hd.2.2 h)
  refine ⟨by omega, by omega, ?_⟩
  unfold numD
  rw [if_neg (by omega), if_neg (by omega)]
  omega
theorem num_pos {d : Dd} (h : d.1 ≠ 4) : 0 < numD d := by
  unfold numD
  rw [if_neg h]
  split <;> omega
/-- Which deeds are of one class. -/
theorem cls_iff {dss : List (List Dd)} {c c' k k' : Nat} (hok : OkC dss c) (hok' : OkC dss c') (hk : k < (dss.getD c []).length) (hk' : k' < (dss.getD c' []).length) (h4 : (dAt dss c k).1 ≠ 4) (h4' : (dAt dss c' k').1 ≠ 4) :
    clsD dss c k = clsD dss c' k' ↔ c = c' ∧ (k = k' ∨ (gAt dss c k ≠ 0 ∧ gAt dss c k = gAt dss c' k')) := by
  constructor
  · intro e
    rcases cls_at hok hk h4 with ⟨g1, e1⟩ | ⟨g1, j, j1, j2, j3, e1⟩
    · rcases cls_at hok' hk' h4' with ⟨g2, e2⟩ | ⟨g2, j', l1, l2, l3, e2⟩
      · rw [e1, e2] at e
        obtain ⟨rfl, rfl⟩ := off_inj hk hk' (num_pos h4) (num_pos h4') (by omega)
        exact ⟨rfl, .inl rfl⟩
      · rw [e1, e2] at e
        obtain ⟨rfl, rfl⟩ := off_inj (k' := j') hk (by omega) (num_pos h4) (num_grp (k := j') hok' (by omega) (by rw [l2]; exact g2)).2.2 (by omega)
        exact absurd (l2.symm.trans g1) g2
    · rcases cls_at hok' hk' h4' with ⟨g2, e2⟩ | ⟨g2, j', l1, l2, l3, e2⟩
      · rw [e1, e2] at e
        obtain ⟨rfl, rfl⟩ := off_inj (k := j) (by omega) hk' (num_grp (k := j) hok (by omega) (by rw [j2]; exact g1)).2.2 (num_pos h4') (by omega)
        exact absurd (j2.symm.trans g2) g1
      · rw [e1, e2] at e
        obtain ⟨rfl, rfl⟩ := off_inj (k := j) (k' := j') (by omega) (by omega) (num_grp (k := j) hok (by omega) (by rw [j2]; exact g1)).2.2 (num_grp (k := j') hok' (by omega) (by rw [l2]; exact g2)).2.2 (by omega)
        exact ⟨rfl, .inr ⟨g1, by rw [← j2, l2]⟩⟩
  · rintro ⟨rfl, rfl | ⟨g1, g2⟩⟩
    · rfl
    · rcases cls_at hok hk h4 with ⟨g0, _⟩ | ⟨_, j, j1, j2, j3, e1⟩
      · exact absurd g0 g1
      rcases cls_at hok' hk' h4' with ⟨g0, _⟩ | ⟨_, j', l1, l2, l3, e2⟩
      · rw [g0] at g2; exact absurd g2 g1
      rw [e1, e2]
      have : j = j' := by
        by_cases a : j < j'
        · exact absurd (by rw [j2, g2]) (l3 j a)
        by_cases a' : j' < j
        · exact absurd (by rw [l2, g2]) (j3 j' a')
        omega
      rw [this]
end Go.Proofs.YtkbkdlaknmgjpaaGreat

/- Plain mathematics: what FnEach asks; what may be told with quick ink may be told with slow ink; where all lines are kept it is the other way round too. -/
namespace Go.Proofs.YtkbkdlaknmgjpaaGreat
open Go.RowKit

theorem place_ev {dss : List (List Dd)} (hb : workB dss = true) {j : Nat} (hj : j < (eventsB dss).length) : 0 ≤ ((eventsB dss).getD j zE).2.2.2.1 ∧ ((eventsB dss).getD j zE).2.2.2.1 ≤ 2 := by
  have e1 : eventsB dss = evsW dss dss.length := by rw [eventsB, if_pos hb]
  rw [e1] at hj ⊢
  exact place_in hb j hj
theorem row_has {es : List Ev} {rows : List Int} (hx : es.length ≤ 12) (hr : rowsL es rows = true) {x : Nat} (hxn : x < es.length) (hw : (es.getD x zE).2.2.1 = false) (hp : 0 ≤ (es.getD x zE).2.2.2.1 ∧ (es.getD x zE).2.2.2.1 ≤ 2) : ∃ i, i < rows.length ∧ rows.getD i 0 = (x : Int) := by
  have hm : ∀ p : Nat, (es.getD x zE).2.2.2.1 = (p : Int) → (x : Int) ∈ plcW es p := by
    intro p e
    unfold plcW idxB
    rw [if_pos hx]
    refine idxK_has _ _ ?_ _ hxn
    unfold toE
    rw [hw, e]
    simp
  have ha : (x : Int) ∈ allW es := by
    unfold allW
    simp only [List.mem_append]
    rcases (by omega : (es.getD x zE).2.2.2.1 = ((0 : Nat) : Int) ∨ (es.getD x zE).2.2.2.1 = ((1 : Nat) : Int) ∨ (es.getD x zE).2.2.2.1 = ((2 : Nat) : Int)) with h | h | h
    · exact .inl (.inl (hm 0 h))
    · exact .inl (.inr (hm 1 h))
    · exact .inr (hm 2 h)
  exact at_of_mem ((rows_perm hx hr).mem_iff.1 ha)
theorem row_tot {es : List Ev} {rows : List Int} (hx : es.length ≤ 12) (hr : rowsL es rows = true) {x y : Nat} (hxn : x < es.length) (hyn : y < es.length) (hwx : (es.getD x zE).2.2.1 = false) (hwy : (es.getD y zE).2.2.1 = false)
    (hp : 0 ≤ (es.getD x zE).2.2.2.1 ∧ (es.getD x zE).2.2.2.1 ≤ 2) (he : (es.getD x zE).2.2.2.1 = (es.getD y zE).2.2.2.1) (hne : x ≠ y) : line (rwL es rows) x y = true ∨ line (rwL es rows) y x = true := by
  obtain ⟨i, hi, ei⟩ := row_has hx hr hxn hwx hp
  obtain ⟨k, hk, ek⟩ := row_has hx hr hyn hwy (by rw [← he]; exact hp)
  have c1 := row_cell hx hr hi hk
  have c2 := row_cell hx hr hk hi
  rw [ei, ek, Int.toNat_natCast, Int.toNat_natCast] at c1 c2
  rw [c1, c2]
  unfold rwP plE
  rw [ei, ek, Int.toNat_natCast, Int.toNat_natCast, he]
  by_cases h : i < k
  · left; simp [h]
  · have h2 : i ≠ k := fun e => hne (by subst e; rw [ei] at ek; omega)
    have h3 : k < i := by omega
    right; simp [h3]
theorem row_use {es : List Ev} {f rows : List Int} (W : Webs es f rows) (hx : es.length ≤ 12) (hr : rowsL es rows = true) {a b : Nat} (ha : a < es.length) (h : line (rwL es rows) a b = true) :
    b < es.length ∧ a ≠ b ∧ (es.getD a zE).2.2.2.1 = (es.getD b zE).2.2.2.1 := by
  obtain ⟨i, q, hi, hq, hp, e1, e2⟩ := (W.rwl a b ha).1 h
  obtain ⟨rn, _, ru⟩ := rows_use hx hr
  unfold rwP plE at hp
  rw [e1, e2, Int.toNat_natCast, Int.toNat_natCast] at hp
  simp only [Bool.and_eq_true, decide_eq_true_eq, beq_iff_eq] at hp
  refine ⟨by have := (ru q hq).2; omega, fun e => ?_, hp.2⟩
  have := nodup_get rn hi hq (by rw [e1, e2, e])
  omega
theorem two_round {n : Nat} {zs : List Int} (hz : Web n zs) (hr : roundB zs = false) {i j : Nat} (hi : i < n) (h1 : line zs i j = true) (h2 : line zs j i = true) : False := by
  rw [(round_iff hz).2 ⟨i, hi, (Way.one h1).more h2⟩] at hr
  cases hr
theorem each_parts {dss : List (List Dd)} {f rows : List Int} (h : eachB dss f rows = true) : taleB dss f rows = true ∧ roundB (pwL (eventsB dss) f rows) = false := by
  unfold eachB at h
  rw [Bool.and_eq_true, Bool.not_eq_true'] at h
  exact h
/-- What stands at the head of the list. -/
theorem beg_ev {dss : List (List Dd)} (hb : workB dss = true) : 3 ≤ (eventsB dss).length ∧ (eventsB dss).getD 0 zE = (-1, -1, false, 0, 0, 0) ∧ (eventsB dss).getD 1 zE = (-1, -1, false, 1, 0, 1) ∧ (eventsB dss).getD 2 zE = (-1, -1, false, 2, 0, 2) := by
  have e1 : eventsB dss = evsW dss dss.length := by rw [eventsB, if_pos hb]
  obtain ⟨t, ht⟩ := evs_pre dss 0 dss.length (Nat.zero_le _)
  have ht' : evsW dss dss.length = evBeg ++ t := ht
  rw [e1]
  refine ⟨by rw [ht']; simp [evBeg], beg_get ht'⟩
theorem beg_place {dss : List (List Dd)} (hb : workB dss = true) {i : Nat} (hi : i < 3) : ((eventsB dss).getD i zE).2.2.2.1 = (i : Int) ∧ ((eventsB dss).getD i zE).2.2.1 = false ∧ csE ((eventsB dss).getD i zE) = (i : Int) ∧ ((eventsB dss).getD i zE).1 = -1 := by
  obtain ⟨_, h0, h1, h2⟩ := beg_ev hb
  rcases (by omega : i = 0 ∨ i = 1 ∨ i = 2) with rfl | rfl | rfl
  · rw [h0]; exact ⟨rfl, rfl, rfl, rfl⟩
  · rw [h1]; exact ⟨rfl, rfl, rfl, rfl⟩
  · rw [h2]; exact ⟨rfl, rfl, rfl, rfl⟩
structure Told (dss : List (List Dd)) (f rows : List Int) : Prop where
  work : workB dss = true
  twelve : (eventsB dss).length ≤ 12
  webs : Webs (eventsB dss) f rows
  src : srcB (chcL (eventsB dss)) f = true
  rws : rowsL (eventsB dss) rows = true
  pw : Web (eventsB dss).length (pwL (eventsB dss) f rows)
  pwl : ∀ i j, i < (eventsB dss).length → line (pwL (eventsB dss) f rows) i j = (line (plcL (eventsB dss)) i j || line (fwL (eventsB dss) f) i j || (line (rwL (eventsB dss) rows) i j || line (agL (eventsB dss) f rows) i j))
  sw : Web (eventsB dss).length (swL dss (eventsB dss) f rows)
  swl : ∀ i j, i < (eventsB dss).length → line (swL dss (eventsB dss) f rows) i j = (line (kepL dss (eventsB dss)) i j || line (owL (eventsB dss) f) i j || (line (rwL (eventsB dss) rows) i j || line (agL (eventsB dss) f rows) i j))
  xw : Web (eventsB dss).length (xwL (eventsB dss) f rows)
  xwl : ∀ i j, i < (eventsB dss).length → line (xwL (eventsB dss) f rows) i j = (line (behL (eventsB dss)) i j || line (fwL (eventsB dss) f) i j || (line (rwL (eventsB dss) rows) i j || line (agL (eventsB dss) f rows) i j))
  cls : (clsB (eventsB dss)).length = (eventsB dss).length
theorem told_of {dss : List (List Dd)} {f rows : List Int} (h : taleB dss f rows = true) : Told dss f rows := by
  obtain ⟨hb, hs, hr⟩ := tale_use h
  have hx := eventsB_12 dss
  have W := webs_of hx hs hr
  have p := web_four (plc_line hx).1 W.fw W.rw' W.ag
  have s := web_four (kep_line (dss := dss) hx).1 (ow_line W).1 W.rw' W.ag
  have x := web_four (beh_line hx).1 W.fw W.rw' W.ag
  exact ⟨hb, hx, W, hs, hr, p.1, p.2, s.1, s.2, x.1, x.2, by unfold clsB; rw [if_pos hx, List.length_map]⟩
theorem beh_is {es : List Ev} {i k : Nat} (hi : i < k) (h : (i < 3 ∧ 3 ≤ k) ∨ (3 ≤ i ∧ (es.getD i zE).1 = (es.getD k zE).1)) : behP es i k = true := by
  unfold behP
  rcases h with ⟨h1, h2⟩ | ⟨h1, h2⟩
  · simp [hi, h1, h2]
  · rw [h2]; simp [hi, h1]
/-- A line between two at one place, of one clerk or from the beginning. -/
theorem plc_is {es : List Ev} (hx : es.length ≤ 12) {i k : Nat} (hi : i < k) (hk : k < es.length) (h : (i < 3 ∧ 3 ≤ k) ∨ (3 ≤ i ∧ (es.getD i zE).1 = (es.getD k zE).1)) (hp : (es.getD i zE).2.2.2.1 = (es.getD k zE).2.2.2.1) : line (plcL es) i k = true := by
  rw [(plc_line hx).2 i k (by omega)]
  have h1 : behP es i k = true := beh_is hi h
  have h2 : plcP es i k = false := by unfold plcP; rw [hp]; simp
  simp [hk, h1, h2]
theorem each_use {dss : List (List Dd)} {f rows : List Int} (h : eachB dss f rows = true) {i r k : Nat} (hi : i < (idxB rdE (eventsB dss)).length) (er : (idxB rdE (eventsB dss)).getD i 0 = (r : Int)) (hk : k < (eventsB dss).length)
    (hw : ((eventsB dss).getD k zE).2.2.1 = false) (hc : (k < 3 ∧ 3 ≤ r) ∨ (3 ≤ k ∧ 3 ≤ r ∧ ((eventsB dss).getD k zE).1 = ((eventsB dss).getD r zE).1)) (hp : ((eventsB dss).getD k zE).2.2.2.1 = ((eventsB dss).getD r zE).2.2.2.1) :
    (r < k → f.getD i 0 ≠ (k : Int)) ∧ (k < r → f.getD i 0 ≠ (k : Int) → line (rwL (eventsB dss) rows) k (f.getD i 0).toNat = true) := by
  obtain ⟨ht, hr0⟩ := each_parts h
  have T := told_of ht
  obtain ⟨sl, su⟩ := src_use T.twelve T.src
  have hrn : r < (eventsB dss).length := by have := (rd_in T.twelve hi).2; omega
  constructor
  · intro hlt e
    refine two_round T.pw hr0 hk (j := r) ?_ ?_
    · rw [T.pwl k r hk, (T.webs.fwl k r hk).2 ⟨i, hi, e, er⟩]; simp
    · have := plc_is T.twelve hlt hk (.inr (by rcases hc with h | h <;> omega)) hp.symm
      rw [T.pwl r k hrn, this]; simp
  · intro hlt hne
    obtain ⟨⟨q1, q2⟩, q3⟩ := su i hi
    obtain ⟨a, ea⟩ := Int.eq_ofNat_of_zero_le q1
    have ha : a < (eventsB dss).length := by omega
    have hfw := fr_is T.twelve T.src hi
    rw [ea, Int.toNat_natCast] at hfw q3 ⊢
    unfold plE at q3
    rw [er, Int.toNat_natCast] at q3
    rcases row_tot T.twelve T.rws hk ha hw hfw (place_ev T.work hk) (by rw [hp, q3]) (by omega) with h1 | h1
    · exact h1
    · exfalso
      refine two_round T.pw hr0 hrn (j := k) ?_ ?_
      · have : line (agL (eventsB dss) f rows) r k = true := (T.webs.agl r k hrn).2 ⟨i, hi, er, by rw [ea, Int.toNat_natCast]; exact h1⟩
        rw [T.pwl r k hrn, this]; simp
      · have := plc_is T.twelve hlt hrn (by rcases hc with h | h <;> omega) hp
        rw [T.pwl k r hk, this]; simp
theorem slow_each {dss : List (List Dd)} {f rows : List Int} (h : slowB dss f rows = true) : eachB dss f rows = true := by
  unfold slowB at h
  simp only [Bool.and_eq_true] at h
  unfold eachB
  rw [h.1, h.2.1]; rfl
/-- Slow ink asks for fewer lines than quick ink. -/
theorem slow_in {dss : List (List Dd)} {f rows : List Int} (T : Told dss f rows) : ∀ i j, i < (eventsB dss).length → j < (eventsB dss).length → line (swL dss (eventsB dss) f rows) i j = true → line (xwL (eventsB dss) f rows) i j = true := by
  intro i j hi hj hl
  rw [T.swl i j hi] at hl
  rw [T.xwl i j hi]
  simp only [Bool.or_eq_true] at hl ⊢
  rcases hl with (h | h) | h
  · refine .inl (.inl ?_)
    rw [(kep_line T.twelve).2 i j hi] at h
    rw [(beh_line T.twelve).2 i j hi]
    simp only [Bool.and_eq_true] at h ⊢
    exact h.1
  · refine .inl (.inr ?_)
    rw [(ow_line T.webs).2 i j hi, Bool.and_eq_true] at h
    exact h.1
  · exact .inr h
theorem strict_slow {dss : List (List Dd)} {f rows : List Int} (h : strictB dss f rows = true) : slowB dss f rows = true := by
  unfold strictB at h
  simp only [Bool.and_eq_true, Bool.not_eq_true'] at h
  have T := told_of h.1
  unfold slowB
  rw [h.1, h.2.1, less_lift T.sw T.xw T.cls (slow_in T) h.2.2]
  rfl
/-- Where all lines are kept, slow ink is as quick ink. -/
theorem kept_strict {dss : List (List Dd)} {f rows : List Int} (hk : kepL dss (eventsB dss) = behL (eventsB dss)) : slowB dss f rows = strictB dss f rows := by
  cases hs : strictB dss f rows with
  | true => exact strict_slow hs
  | false =>
    cases hq : slowB dss f rows with
    | false => rfl
    | true =>
      exfalso
      have he := slow_each hq
      obtain ⟨ht, hr0⟩ := each_parts he
      have T := told_of ht
      unfold slowB at hq
      simp only [Bool.and_eq_true, Bool.not_eq_true'] at hq
      have : roundB (liftL (xwL (eventsB dss) f rows) (clsB (eventsB dss))) = false := by
        refine less_lift T.xw T.sw T.cls (fun i j hi hj hl => ?_) hq.2.2
        rw [T.xwl i j hi] at hl
        rw [T.swl i j hi, hk]
        simp only [Bool.or_eq_true] at hl ⊢
        rcases hl with (h | h) | h
        · exact .inl (.inl h)
        · cases ho : owP (eventsB dss) i j with
          | false => exact .inl (.inr (by rw [(ow_line T.webs).2 i j hi, h, ho]; rfl))
          | true =>
            unfold owP at ho
            simp only [Bool.and_eq_true, decide_eq_true_eq, beq_iff_eq] at ho
            obtain ⟨q, hq1, hq2, hq3⟩ := (T.webs.fwl i j hi).1 h
            obtain ⟨sl, su⟩ := src_use T.twelve T.src
            have hw := fr_is T.twelve T.src hq1
            have hp := (su q hq1).2
            have hrd := rd_is T.twelve hq1
            unfold plE at hp
            rw [hq2, Int.toNat_natCast] at hw hp
            rw [hq3, Int.toNat_natCast] at hp hrd
            have hu := (each_use he hq1 hq3 hi hw (.inr ⟨ho.1.1, ho.1.2, ho.2⟩) hp).1
            have hne : i ≠ j := fun e => by rw [e, hrd] at hw; cases hw
            have hlt : i < j := by
              apply Classical.byContradiction
              intro hno
              exact hu (by omega) hq2
            refine .inl (.inl ?_)
            rw [(beh_line T.twelve).2 i j hi]
            rw [beh_is hlt (.inr ⟨ho.1.1, ho.2⟩)]
            simp [hj]
        · exact .inr h
      unfold strictB at hs
      rw [hq.1, hq.2.1, this] at hs
      cases hs
/-- A work of reads and swaps alone keeps all its lines. -/
theorem kept_swaps {dss : List (List Dd)} (h : ∀ j, 3 ≤ j → j < (eventsB dss).length → ((eventsB dss).getD j zE).2.2.1 = false → (dOf dss ((eventsB dss).getD j zE)).1 = 3) : kepL dss (eventsB dss) = behL (eventsB dss) := by
  have hx := eventsB_12 dss
  obtain ⟨w1, l1⟩ := kep_line (dss := dss) hx
  obtain ⟨w2, l2⟩ := beh_line hx
  refine Web.ext w1 w2 (fun i j hi hj => ?_)
  rw [l1 i j hi, l2 i j hi]
  have : (kepP dss (eventsB dss) i j) = false := by
    unfold kepP kepQ rdE
    by_cases h3 : 3 ≤ i
    · cases hr : ((eventsB dss).getD i zE).2.2.1 with
      | true => simp
      | false =>
        have : wholeD (dOf dss ((eventsB dss).getD i zE)) = true := by unfold wholeD; rw [h i h3 hi hr]; rfl
        rw [this]; simp
    · simp [h3]
  rw [this]; simp
end Go.Proofs.YtkbkdlaknmgjpaaGreat

/- How long the webs of chapters 11 to 13 are. -/
namespace Go.Proofs.YtkbkdlaknmgjpaaGreat
open Go.RowKit

theorem pwB_len (dss : List (List Dd)) (f rows : List Int) : (pwB dss f rows).length ≤ 12 := by
  unfold pwB
  split
  · rename_i h
    have T := told_of h
    rw [T.pw.2.1]
    exact T.twelve
  · simp
theorem swB_len (dss : List (List Dd)) (f rows : List Int) : (swB dss f rows).length ≤ 12 := by
  unfold swB
  split
  · rename_i h
    have T := told_of h
    rw [T.sw.2.1]
    exact T.twelve
  · simp
theorem xwB_len (dss : List (List Dd)) (f rows : List Int) : (xwB dss f rows).length ≤ 12 := by
  unfold xwB
  split
  · rename_i h
    have T := told_of h
    rw [T.xw.2.1]
    exact T.twelve
  · simp
theorem rd_at {es : List Ev} (hx : es.length ≤ 12) {i : Nat} (hi : i < (idxB rdE es).length) : (0 ≤ (idxB rdE es).getD i 0 ∧ (idxB rdE es).getD i 0 < (es.length : Int)) ∧ (es.getD ((idxB rdE es).getD i 0).toNat zE).2.2.1 = true := by
  refine ⟨rd_in hx hi, ?_⟩
  have hm : (idxB rdE es).getD i 0 ∈ idxB rdE es := by
    rw [List.getD_eq_getElem?_getD, List.getElem?_eq_getElem hi]
    exact List.getElem_mem hi
  unfold idxB at hm ⊢
  rw [if_pos hx] at hm ⊢
  exact idxK_mem _ _ _ _ hm
theorem beg_wr {dss : List (List Dd)} (hb : workB dss = true) {j : Nat} (hj : j < 3) : ((eventsB dss).getD j zE).2.2.1 = false := by
  obtain ⟨t, ht⟩ := (evs_good (dss := dss) (by simp only [workB, Bool.and_eq_true, decide_eq_true_eq] at hb; intro i hi; have := List.all_eq_true.1 hb.1.1.1.2 _ (List.getElem_mem hi); rw [List.getD_eq_getElem?_getD, List.getElem?_eq_getElem hi]; exact this) dss.length (Nat.le_refl _)).1
  rw [eventsB, if_pos hb, ht, List.getD_eq_getElem?_getD, List.getElem?_append_left (by simp [evBeg]; omega)]
  have : j = 0 ∨ j = 1 ∨ j = 2 := by omega
  rcases this with rfl | rfl | rfl <;> rfl
end Go.Proofs.YtkbkdlaknmgjpaaGreat

/- Plain mathematics: each event of a right work, by its deed. Classes rise along the list. -/
namespace Go.Proofs.YtkbkdlaknmgjpaaGreat

/-- Does the i-th event of such a deed read? -/
def rdI (d : Dd) (i : Nat) : Bool := decide (d.1 ≠ 2) && decide (i = 0)
def vlI (d : Dd) (i : Nat) : Int := if rdI d i = true then 0 else d.2.2.1
theorem oneE_at {c k : Nat} {d : Dd} {z : Int} (hd : d.1 = 1 ∨ d.1 = 2 ∨ d.1 = 3 ∨ d.1 = 4) {i : Nat} (hi : i < numD d) : (oneE c k d z)[i]? = some ((c : Int), (k : Int), rdI d i, d.2.1, vlI d i, z) := by
  unfold numD at hi
  unfold oneE vlI rdI
  rcases hd with h | h | h | h
  · rw [if_neg (by omega), if_neg (by omega)] at hi
    rw [if_neg (by omega), if_neg (by omega), if_neg (by omega)]
    obtain rfl : i = 0 := by omega
    simp [h]
  · rw [if_neg (by omega), if_neg (by omega)] at hi
    rw [if_neg (by omega), if_neg (by omega), if_pos h]
    obtain rfl : i = 0 := by omega
    simp [h]
  · rw [if_neg (by omega), if_pos h] at hi
    rw [if_neg (by omega), if_pos h]
    rcases (by omega : i = 0 ∨ i = 1) with rfl | rfl
    · simp [h]
    · simp
  · rw [if_pos h] at hi
    omega
/-- The j-th event is the i-th of deed k of clerk c. -/
structure EvIs (dss : List (List Dd)) (j c k i : Nat) : Prop where
  hc : c < dss.length
  hk : k < (dss.getD c []).length
  hi : i < numD (dAt dss c k)
  hj : j = offN dss c k + i
theorem EvIs.kind {dss : List (List Dd)} {j c k i : Nat} (h : EvIs dss j c k i) : (dAt dss c k).1 ≠ 4 := by
  intro e
  have := h.hi
  unfold numD at this
  rw [if_pos e] at this
  omega
theorem ev_dec {dss : List (List Dd)} (hb : workB dss = true) {j : Nat} (h3 : 3 ≤ j) (hj : j < (eventsB dss).length) : ∃ c k i, EvIs dss j c k i := by
  rw [eventsB, if_pos hb] at hj
  obtain ⟨c, k, i, h1, h2, h4, h5⟩ := es_dec dss h3 dss.length hj
  exact ⟨c, k, i, h1, h2, h4, h5⟩
theorem EvIs.at {dss : List (List Dd)} (hb : workB dss = true) {j c k i : Nat} (h : EvIs dss j c k i) : (eventsB dss).getD j zE = ((c : Int), (k : Int), rdI (dAt dss c k) i, (dAt dss c k).2.1, vlI (dAt dss c k) i, clsD dss c k) := by
  have hd := okD_kindE (okC_of hb h.hc k h.hk)
  rw [eventsB, if_pos hb, List.getD_eq_getElem?_getD, h.hj, es_at h.hc h.hk (oneE_at hd h.hi)]
  rfl
theorem EvIs.lt {dss : List (List Dd)} (hb : workB dss = true) {j c k i : Nat} (h : EvIs dss j c k i) : 3 ≤ j ∧ j < (eventsB dss).length := by
  have hd := okD_kindE (okC_of hb h.hc k h.hk)
  have h1 := es_at (n := dss.length) h.hc h.hk (oneE_at (z := clsD dss c k) (c := c) (k := k) hd h.hi)
  have h2 := off_three dss c k
  rw [eventsB, if_pos hb, h.hj]
  exact ⟨by omega, (List.getElem?_eq_some_iff.1 h1).1⟩
/-- Which of two comes first. -/
theorem EvIs.ord {dss : List (List Dd)} {j c k i j' c' k' i' : Nat} (h : EvIs dss j c k i) (h' : EvIs dss j' c' k' i') : j < j' ↔ c < c' ∨ (c = c' ∧ (k < k' ∨ (k = k' ∧ i < i'))) := by
  have e1 := h.hj
  have e2 := h'.hj
  have l1 := h.hi
  have l2 := h'.hi
  constructor
  · intro hlt
    by_cases a : c < c'
    · exact .inl a
    by_cases b : c' < c
    · have := off_lt (k' := k) h'.hk (.inl b); omega
    obtain rfl : c = c' := by omega
    refine .inr ⟨rfl, ?_⟩
    by_cases a : k < k'
    · exact .inl a
    by_cases b : k' < k
    · have := off_lt (c' := c) (k' := k) h'.hk (.inr ⟨rfl, b⟩); omega
    obtain rfl : k = k' := by omega
    exact .inr ⟨rfl, by omega⟩
  · rintro (a | ⟨rfl, a | ⟨rfl, a⟩⟩)
    · have := off_lt (k' := k') h.hk (.inl a); omega
    · have := off_lt (c' := c) (k' := k') h.hk (.inr ⟨rfl, a⟩); omega
    · omega
theorem EvIs.one {dss : List (List Dd)} {j c k i c' k' i' : Nat} (h : EvIs dss j c k i) (h' : EvIs dss j c' k' i') : c = c' ∧ k = k' ∧ i = i' := by
  have a := h.ord h'
  have b := h'.ord h
  by_cases hc : c = c'
  · subst hc
    by_cases hk : k = k'
    · subst hk
      exact ⟨rfl, rfl, by have := h.hj; have := h'.hj; omega⟩
    · by_cases hlt : k < k'
      · have := a.2 (.inr ⟨rfl, .inl hlt⟩); omega
      · have := b.2 (.inr ⟨rfl, .inl (by omega)⟩); omega
  · by_cases hlt : c < c'
    · have := a.2 (.inl hlt); omega
    · have := b.2 (.inl (by omega)); omega
theorem tog_between {ds : List Dd} (ht : Tog ds) {j k : Nat} (hk : k < ds.length) (hg : (ds.getD k zD).2.2.2 ≠ 0) (e : (ds.getD j zD).2.2.2 = (ds.getD k zD).2.2.2) : ∀ m : Nat, j + m < k → (ds.getD (k - 1 - m) zD).2.2.2 = (ds.getD k zD).2.2.2
  | 0, h => ht k j hk (by omega) hg e
  | m + 1, h => by
    have ih := tog_between ht hk hg e m (by omega)
    have h2 := ht (k - 1 - m) j (by omega) (by omega) (by rw [ih]; exact hg) (by rw [ih]; exact e)
    rw [show k - 1 - (m + 1) = k - 1 - m - 1 by omega, h2, ih]
/-- What lies between two of one group is of it. -/
theorem grp_between {dss : List (List Dd)} (hb : workB dss = true) {c j k l : Nat} (hc : c < dss.length) (h1 : j ≤ k) (h2 : k ≤ l) (hl : l < (dss.getD c []).length) (hg : gAt dss c l ≠ 0) (e : gAt dss c j = gAt dss c l) : gAt dss c k = gAt dss c l := by
  by_cases a : k = l
  · rw [a]
  by_cases b : k = j
  · rw [b]; exact e
  have := tog_between (work_tog hb c hc) hl hg e (l - 1 - k) (by omega)
  rw [show l - 1 - (l - 1 - k) = k by omega] at this
  exact this
/-- Classes rise along the deeds. -/
theorem cls_mono {dss : List (List Dd)} (hb : workB dss = true) {c c' k k' : Nat} (hc : c < dss.length) (hc' : c' < dss.length) (hk : k < (dss.getD c []).length) (hk' : k' < (dss.getD c' []).length) (h4 : (dAt dss c k).1 ≠ 4) (h4' : (dAt dss c' k').1 ≠ 4)
    (h : c < c' ∨ (c = c' ∧ k ≤ k')) : clsD dss c k ≤ clsD dss c' k' := by
  have hok := okC_of hb hc
  have hok' := okC_of hb hc'
  obtain ⟨j, j1, e1⟩ : ∃ j, j ≤ k ∧ clsD dss c k = (offN dss c j : Int) := by
    rcases cls_at hok hk h4 with ⟨_, e⟩ | ⟨_, j, j1, _, _, e⟩
    · exact ⟨k, Nat.le_refl _, e⟩
    · exact ⟨j, j1, e⟩
  have hjk := off_le dss c j1
  rcases h with h | ⟨rfl, h⟩
  · have hle : ∀ j', offN dss c k ≤ offN dss c' j' := fun j' => by have := off_lt (k' := j') hk (.inl h); omega
    rcases cls_at hok' hk' h4' with ⟨_, e2⟩ | ⟨_, j', l1, _, _, e2⟩
    · have := hle k'; omega
    · have := hle j'; omega
  · rcases cls_at hok' hk' h4' with ⟨_, e2⟩ | ⟨g2, j', l1, l2, l3, e2⟩
    · have := off_le dss c h; omega
    · by_cases a : k ≤ j'
      · have := off_le dss c a; omega
      · have hg : gAt dss c k = gAt dss c k' := grp_between hb hc (by omega) h hk' g2 l2
        have := (cls_iff hok hok' hk hk' h4 h4').2 ⟨rfl, .inr ⟨by rw [hg]; exact g2, hg⟩⟩
        omega
end Go.Proofs.YtkbkdlaknmgjpaaGreat

/- Plain mathematics: what FnSlow asks. -/
namespace Go.Proofs.YtkbkdlaknmgjpaaGreat
open Go.RowKit

theorem beg_ck {dss : List (List Dd)} (hb : workB dss = true) {j : Nat} (hj : j < 3) : ((eventsB dss).getD j zE).1 = -1 := by
  obtain ⟨t, ht⟩ := (evs_good (dss := dss) (by simp only [workB, Bool.and_eq_true, decide_eq_true_eq] at hb; intro i hi; have := List.all_eq_true.1 hb.1.1.1.2 _ (List.getElem_mem hi); rw [List.getD_eq_getElem?_getD, List.getElem?_eq_getElem hi]; exact this) dss.length (Nat.le_refl _)).1
  rw [eventsB, if_pos hb, ht, List.getD_eq_getElem?_getD, List.getElem?_append_left (by simp [evBeg]; omega)]
  have : j = 0 ∨ j = 1 ∨ j = 2 := by omega
  rcases this with rfl | rfl | rfl <;> rfl
theorem ow_cell {dss : List (List Dd)} {f : List Int} (h : sourceB dss f = true) : (owB dss f).length = (eventsB dss).length ∧ (fwB dss f).length = (eventsB dss).length ∧
    ∀ i k : Nat, i < (eventsB dss).length → k < (eventsB dss).length → inSetB ((owB dss f).getD i 0) (k : Int) = (inSetB ((fwB dss f).getD i 0) (k : Int) && (decide (i < 3) || (((eventsB dss).getD i zE).1 != ((eventsB dss).getD k zE).1))) := by
  have hbs := h
  rw [sourceB, Bool.and_eq_true] at hbs
  obtain ⟨hb, hs⟩ := hbs
  have hx := eventsB_12 dss
  obtain ⟨sl, su⟩ := src_use hx hs
  have wf := fw_line (f := f) hx (idxB rdE (eventsB dss)).length (fun i hi => rd_in hx hi) (fun i hi => (su i hi).1)
  have wo := web_offAll (p := owP (eventsB dss)) (st := fwL (eventsB dss) f) wf.1 (eventsB dss).length (Nat.le_refl _)
  have eo : owB dss f = owL (eventsB dss) f := by rw [owB, if_pos h]
  have ef : fwB dss f = fwL (eventsB dss) f := by rw [fwB, if_pos h]
  refine ⟨by rw [eo]; exact wo.1.2.1, by rw [ef]; exact wf.1.2.1, fun i k hi hk => ?_⟩
  rw [eo, ef]
  have h1 := wo.2 i k hi
  have e1 : line (owL (eventsB dss) f) i k = (line (fwL (eventsB dss) f) i k && !owP (eventsB dss) i k) := by
    unfold owL
    rw [h1]
    simp [hi, hk]
  unfold line at e1
  rw [e1]
  congr 1
  unfold owP
  by_cases h3 : i < 3
  · simp [h3, show ¬ 3 ≤ i by omega]
  · by_cases k3 : k < 3
    · have a := beg_ck hb k3
      obtain ⟨c, q, m, E⟩ := ev_dec hb (show 3 ≤ i by omega) hi
      have b := E.at hb
      rw [a, b]
      have : ((c : Int) != -1) = true := by simp
      simp [h3, this, show ¬ 3 ≤ k by omega]
    · simp [h3, show 3 ≤ i by omega, show 3 ≤ k by omega, bne]
theorem owB_len (dss : List (List Dd)) (f : List Int) : (owB dss f).length ≤ 12 := by
  cases h : sourceB dss f with
  | true => rw [(ow_cell h).1]; exact eventsB_12 dss
  | false => rw [owB, h]; simp
theorem slow_form {dss : List (List Dd)} {f rows : List Int} (h : taleB dss f rows = true) : slowB dss f rows = (eachB dss f rows && !roundB (liftL (swB dss f rows) (clsB (eventsB dss)))) := by
  unfold slowB eachB swB
  rw [h, if_pos rfl]
  rfl
end Go.Proofs.YtkbkdlaknmgjpaaGreat

/- Plain mathematics: the lines of a web one by one, those between two clerks alone, drawn anew: as the program makes FromOthers. -/
namespace Go.Proofs.YtkbkdlaknmgjpaaGreat
open Go.RowKit

/-- The lines of one event, of the first k events, of all. -/
def linI (i : Nat) (l : List Int) : List (Int × Int) := l.map (fun j => ((i : Int), j))
def linK (zs : List Int) : Nat → List (Int × Int)
  | 0 => []
  | k + 1 => linK zs k ++ linI k (mem (zs.getD k 0) 12)
def linL (zs : List Int) : List (Int × Int) := linK zs zs.length
/-- A line between two clerks. -/
def othP (es : List Ev) (x : Int × Int) : Bool := (es.getD x.1.toNat zE).1 != (es.getD x.2.toNat zE).1
def othL (es : List Ev) (zs : List Int) : List (Int × Int) := (linL zs).filter (othP es)
/-- The lines drawn into a new web. -/
def drwK (n : Nat) (l : List (Int × Int)) (k : Nat) : List Int := fwK n (l.map (·.2)) (l.map (·.1)) k

theorem lin_iff (zs : List Int) (x : Int × Int) : ∀ k : Nat, x ∈ linK zs k ↔ ∃ a j : Nat, a < k ∧ j < 12 ∧ x = ((a : Int), (j : Int)) ∧ line zs a j = true
  | 0 => by simp [linK]
  | k + 1 => by
    rw [linK, List.mem_append, lin_iff zs x k, linI, List.mem_map]
    constructor
    · rintro (⟨a, j, ha, hj, hx, hl⟩ | ⟨j, hj, rfl⟩)
      · exact ⟨a, j, by omega, hj, hx, hl⟩
      · obtain ⟨m, hm, rfl, hi⟩ := (mem_iff _ _ _).1 hj
        exact ⟨k, m, by omega, hm, rfl, hi⟩
    · rintro ⟨a, j, ha, hj, rfl, hl⟩
      by_cases e : a = k
      · subst e
        exact .inr ⟨j, (mem_iff _ _ _).2 ⟨j, hj, rfl, hl⟩, rfl⟩
      · exact .inl ⟨a, j, by omega, hj, rfl, hl⟩
theorem lin_len (zs : List Int) : ∀ k : Nat, (linK zs k).length ≤ k * 12
  | 0 => by simp [linK]
  | k + 1 => by
    have := lin_len zs k
    have h2 := mem_len (zs.getD k 0) 12
    rw [linK, List.length_append, linI, List.length_map, Nat.add_mul]
    omega
theorem pr_get (l : List (Int × Int)) (i : Nat) (hi : i < l.length) : ((l.map (·.1)).getD i 0, (l.map (·.2)).getD i 0) = l[i] := by
  rw [List.getD_eq_getElem?_getD, List.getD_eq_getElem?_getD, List.getElem?_map, List.getElem?_map, List.getElem?_eq_getElem hi]
  rfl
theorem lin_in {n : Nat} {zs : List Int} (hz : Web n zs) {x : Int × Int} (h : x ∈ linL zs) : ∃ a j : Nat, x = ((a : Int), (j : Int)) ∧ a < n ∧ j < n ∧ line zs a j = true := by
  unfold linL at h
  rw [hz.2.1] at h
  obtain ⟨a, j, ha, -, rfl, hl⟩ := (lin_iff zs x n).1 h
  exact ⟨a, j, rfl, ha, hz.lt ha hl, hl⟩
theorem drw_web {n : Nat} {zs : List Int} (hz : Web n zs) {l : List (Int × Int)} (hl : ∀ x ∈ l, x ∈ linL zs) : ∀ k : Nat, k ≤ l.length →
    Web n (drwK n l k) ∧ ∀ a j : Nat, a < n → (line (drwK n l k) a j = true ↔ ((a : Int), (j : Int)) ∈ l.take k) := by
  intro k hk
  have hb : ∀ i, i < k → ∃ a j : Nat, (l.map (·.1)).getD i 0 = (a : Int) ∧ (l.map (·.2)).getD i 0 = (j : Int) ∧ a < n ∧ j < n := by
    intro i hi
    have e := pr_get l i (by omega)
    obtain ⟨a, j, hx, ha, hj, -⟩ := lin_in hz (hl _ (List.getElem_mem (show i < l.length by omega)))
    rw [hx] at e
    exact ⟨a, j, congrArg Prod.fst e, congrArg Prod.snd e, ha, hj⟩
  have F := fw_line (n := n) (rs := l.map (·.2)) (f := l.map (·.1)) hz.1 k
    (fun i hi => by obtain ⟨a, j, h1, h2, h3, h4⟩ := hb i hi; rw [h2]; omega)
    (fun i hi => by obtain ⟨a, j, h1, h2, h3, h4⟩ := hb i hi; rw [h1]; omega)
  refine ⟨F.1, fun a j ha => ?_⟩
  rw [drwK, F.2 a j ha]
  constructor
  · rintro ⟨i, hi, h1, h2⟩
    have e := pr_get l i (by omega)
    rw [h1, h2] at e
    rw [e]
    exact List.mem_take_iff_getElem.2 ⟨i, by omega, rfl⟩
  · intro h
    obtain ⟨i, hi, e⟩ := List.mem_take_iff_getElem.1 h
    have e2 := pr_get l i (by omega)
    rw [e] at e2
    exact ⟨i, by omega, congrArg Prod.fst e2, congrArg Prod.snd e2⟩
theorem oth_sub (es : List Ev) (zs : List Int) : ∀ x ∈ othL es zs, x ∈ linL zs := fun _ h => (List.mem_filter.1 h).1
/-- The program's FromOthers of a right source is the specification's. -/
theorem fo_same {dss : List (List Dd)} {f : List Int} (h : sourceB dss f = true) : drwK (eventsB dss).length (othL (eventsB dss) (fwB dss f)) (othL (eventsB dss) (fwB dss f)).length = owB dss f := by
  have hbs := h
  rw [sourceB, Bool.and_eq_true] at hbs
  obtain ⟨hb, hs⟩ := hbs
  have hx := eventsB_12 dss
  obtain ⟨sl, su⟩ := src_use hx hs
  have wf := fw_line (f := f) hx (idxB rdE (eventsB dss)).length (fun i hi => rd_in hx hi) (fun i hi => (su i hi).1)
  have wo := web_offAll (p := owP (eventsB dss)) (st := fwL (eventsB dss) f) wf.1 (eventsB dss).length (Nat.le_refl _)
  have eo : owB dss f = owL (eventsB dss) f := by rw [owB, if_pos h]
  have ef : fwB dss f = fwL (eventsB dss) f := by rw [fwB, if_pos h]
  have OC := (ow_cell h).2.2
  have WF : Web (eventsB dss).length (fwB dss f) := by rw [ef]; exact wf.1
  have WO : Web (eventsB dss).length (owB dss f) := by rw [eo]; exact wo.1
  have WD := drw_web WF (oth_sub (eventsB dss) (fwB dss f)) _ (Nat.le_refl _)
  refine Web.ext WD.1 WO (fun i j hi hj => ?_)
  rw [Bool.eq_iff_iff, WD.2 i j hi, List.take_length]
  unfold line
  rw [OC i j hi hj, othL, List.mem_filter]
  unfold linL
  rw [WF.2.1, lin_iff]
  have e1 : (∃ a m : Nat, a < (eventsB dss).length ∧ m < 12 ∧ ((i : Int), (j : Int)) = ((a : Int), (m : Int)) ∧ line (fwB dss f) a m = true) ↔ inSetB ((fwB dss f).getD i 0) (j : Int) = true := by
    constructor
    · rintro ⟨a, m, _, _, e, hl⟩
      have e1 := congrArg Prod.fst e
      have e2 := congrArg Prod.snd e
      simp only at e1 e2
      obtain rfl : i = a := by omega
      obtain rfl : j = m := by omega
      exact hl
    · intro hl
      exact ⟨i, j, hi, by omega, rfl, hl⟩
  rw [e1, Bool.and_eq_true]
  refine and_congr_right (fun hl => ?_)
  have hr : ((eventsB dss).getD j zE).2.2.1 = true := by
    rw [ef] at hl
    obtain ⟨k, hk, -, h2⟩ := (wf.2 i j hi).1 hl
    have := (rd_at hx hk).2
    rw [h2] at this
    exact this
  have j3 : 3 ≤ j := by
    by_cases h3 : j < 3
    · rw [beg_wr hb h3] at hr; cases hr
    · omega
  unfold othP
  dsimp only
  rw [Int.toNat_natCast, Int.toNat_natCast]
  by_cases i3 : i < 3
  · have a := beg_ck hb i3
    obtain ⟨c, q, m, E⟩ := ev_dec hb j3 hj
    have b := E.at hb
    rw [a, b]
    simp [i3]
  · simp [i3]
/-- Of none it is none. -/
theorem fo_none {dss : List (List Dd)} {f : List Int} (h : sourceB dss f = false) : fwB dss f = [] ∧ owB dss f = [] := by
  rw [fwB, owB, h]
  exact ⟨rfl, rfl⟩
end Go.Proofs.YtkbkdlaknmgjpaaGreat

/- Contract of the program's Members: a new list of those that are in the set. -/
namespace Go.Proofs.YtkbkdlaknmgjpaaGreat
open Go.ChangeShapes Go.WideShapes Go.ChangeAt Go.RowKit

theorem mem_hit (s : Int) (k : Nat) (h : inSetB s k = true) : mem s (k + 1) = mem s k ++ [(k : Int)] := by simp [mem, h]
theorem mem_miss (s : Int) (k : Nat) (h : inSetB s k = false) : mem s (k + 1) = mem s k := by simp [mem, h]
set_option maxRecDepth 100000 in
set_option maxHeartbeats 400000 in
theorem chosen_has (s : Int) (w : World) :
    Calls Tryz.prog 152 #[.func (Fn.func 60) #[.int .i64 s] #[]] w fun e w' => ∃ v', e = .returned v' ∧ Own w' w.heap.size v' (mem s 12) ∧ Keep w w' := by
  have hown0 : Own (w.alloc (.cells #[] 2)) w.heap.size (.slice (some ⟨w.heap.size, 0, none⟩) 0 0) [] := World.ownsRow_lit w #[] 0 (Nat.le_refl _) (by decide) rfl
  obtain ⟨i0, hi, hz0, hz1, hz2⟩ := info_parts Tryz.infoI
  go_enter Tryz.func152, Tryz.ntmps152
  go_wp2
  go_loopw [3, 6] (fun v i wr => ∃ k : Nat, k ≤ 12 ∧ i = .int .i64 k ∧ Own wr w.heap.size v (mem s k) ∧ Keep w wr) (fun _ i _ => 12 - (intOf i).toNat)
  case atStart => exact ⟨0, Nat.zero_le _, rfl, hown0, (Keep.refl _).alloc _⟩
  case round =>
    obtain ⟨k, hk, rfl, ho, hK⟩ := hrel
    clear hown0
    by_cases hlt : k < 12
    · have hml := mem_len s k
      have hsz := hK.size
      cases hb : inSetB s k
      · have HM : Hid (mem s (k + 1) = mem s k) := mem_miss s k hb
        go_wp2_with (go_at_call 60; refine (has_any _ _ _).mono ?_; rintro e w' ⟨rfl, rfl⟩)
        go_roundw
        case rel => exact ⟨k + 1, by omega, by go_num, by rw [HM.out]; exact ho, hK⟩
        case measure => simp [intOf]; omega
      · have HM : Hid (mem s (k + 1) = mem s k ++ [(k : Int)]) := mem_hit s k hb
        go_wp2_with (first | (go_at_call 60; refine (has_any _ _ _).mono ?_; rintro e w' ⟨rfl, rfl⟩) | (at_builtin; refine wpList_append_own _ rfl _ _ 25 rfl w.heap.size 2 i0 (.int .i64 0) 1 8 Tryz.underlying25 hi hz0 hz1 hz2 rfl (by decide) _ _ _ rfl (World.ownsRow.alloc ho _) ⟨_, 0, none⟩ 1 1 [.int .i64 k] rfl rfl ?c1 ?c2 ?c3 ?c4 ?c5 ?_))
        case c1 =>
          intro j u hj
          match j, hj with
          | 0, hj => simp at hj; subst hj; simp [Addr.add]
        case c2 => intro u hu; simp at hu; subst hu; rfl
        case c3 => unfold maxLen; omega
        case c4 => omega
        case c5 => simp; omega
        intro v' w1 hown' hgrow _
        have hK1 : Keep w w1 := (hK.alloc _).grown hgrow ho.ge
        clear hgrow
        go_wp2
        go_roundw
        case rel => exact ⟨k + 1, by omega, by go_num, by rw [HM.out]; exact own_hit hown', hK1⟩
        case measure => simp [intOf]; omega
    · obtain rfl : k = 12 := by omega
      go_wp2
      go_ret
      exact ⟨_, rfl, ho, hK⟩
theorem implMembers_any (s : Int) (w : World) :
    Calls Tryz.prog 100 #[.int .i64 s] w fun e w' => ∃ v', e = .returned v' ∧ Own w' w.heap.size v' (mem s 12) ∧ Keep w w' := by
  go_enter Tryz.func100, Tryz.ntmps100
  go_wp2_with (go_at_call 152; refine (chosen_has _ _).mono ?_; rintro e w' ⟨v', rfl, ho, hK⟩)
  go_ret
  exact ⟨_, rfl, ho, hK⟩
end Go.Proofs.YtkbkdlaknmgjpaaGreat

/- Lists of lists of numbers in memory: that can be read ('RdL'); that grow, each part in a block apart from the row's ('AppL'). -/
namespace Go.Proofs.YtkbkdlaknmgjpaaGreat
open Go.ChangeShapes Go.WideShapes Go.ChangeAt Go.RowKit

def RdL (w : World) (v : Value) (zss : List (List Int)) : Prop :=
  ∃ (a : Option Addr) (cap : Nat), v = .slice a zss.length cap ∧
    (zss = [] ∨ ∃ b off, a = some ⟨b, off, none⟩ ∧ b < w.heap.size ∧ ∀ i, i < zss.length → ∃ vi, w.cell? ⟨b, off + i, none⟩ = some vi ∧ Rd w vi (zss.getD i []))
theorem RdL.keep {w w' : World} {v : Value} {zss : List (List Int)} (h : RdL w v zss) (k : Keep w w') : RdL w' v zss := by
  obtain ⟨a, cap, hv, h⟩ := h
  refine ⟨a, cap, hv, ?_⟩
  rcases h with h | ⟨b, off, ha, hb, hc⟩
  · exact .inl h
  · refine .inr ⟨b, off, ha, Nat.lt_of_lt_of_le hb k.size, fun i hi => ?_⟩
    obtain ⟨vi, h1, h2⟩ := hc i hi
    exact ⟨vi, (k.cell hb).trans h1, h2.keep k⟩
theorem Rd.keptR {w w' : World} {v : Value} {zs : List Int} {row : Option Nat} (h : Rd w v zs) (hg : w.grownBy w' row) (hne : v.ownBlock = none ∨ v.ownBlock ≠ row) : Rd w' v zs := by
  obtain ⟨a, cap, rfl, h⟩ := h
  refine ⟨a, cap, rfl, ?_⟩
  rcases h with h | ⟨b, off, rfl, hb, hc⟩
  · exact .inl h
  · refine .inr ⟨b, off, rfl, Nat.lt_of_lt_of_le hb hg.size, fun i hi => ?_⟩
    rw [World.cell?_of_block (w := w) (hg.block b hb (fun e => by rcases hne with h | h <;> simp [Value.ownBlock] at h; exact h e))]
    exact hc i hi
/-- The room of a slice. -/
def capZ : Value → Nat
  | .slice _ _ c => c
  | _ => 0
theorem Own.capz {w : World} {base : Nat} {v : Value} {zs : List Int} (h : Own w base v zs) : zs.length ≤ capZ v := by
  rcases h.2 with ⟨rfl, hz⟩ | ⟨g, cap, cur, rfl, hb, hg, hc, _⟩
  · rw [hz]; exact Nat.zero_le _
  · exact hc
/-- A list of numbers that can be read, in a block apart from that of x. -/
structure Beside (w : World) (x u : Value) (zs : List Int) : Prop where
  rd : Rd w u zs
  ne : u.ownBlock = none ∨ u.ownBlock ≠ x.ownBlock
  lt : ∀ k, u.ownBlock = some k → k < w.heap.size
  cap : zs.length ≤ capZ u
theorem Beside.keep {w w' : World} {x u : Value} {zs : List Int} (h : Beside w x u zs) (k : Keep w w') : Beside w' x u zs :=
  ⟨h.rd.keep k, h.ne, fun j hj => Nat.lt_of_lt_of_le (h.lt j hj) k.size, h.cap⟩
theorem Beside.grow {w w' : World} {x x' u : Value} {zs : List Int} (h : Beside w x u zs) (hg : w.grownBy w' x.ownBlock) (hb : x'.ownBlock = x.ownBlock ∨ x'.ownBlock = some w.heap.size) : Beside w' x' u zs := by
  refine ⟨h.rd.keptR hg h.ne, ?_, fun j hj => Nat.lt_of_lt_of_le (h.lt j hj) hg.size, h.cap⟩
  rcases hb with hb | hb
  · rw [hb]; exact h.ne
  · cases hu : u.ownBlock with
    | none => exact .inl rfl
    | some k => exact .inr (fun e => by rw [hb] at e; have := h.lt k hu; have := Option.some.inj e; omega)
theorem Own.beside {w' : World} {x u : Value} {zs : List Int} {base : Nat} (h : Own w' base u zs) (hx : ∀ k, x.ownBlock = some k → k < base) : Beside w' x u zs :=
  ⟨h.rd, by
    cases hu : u.ownBlock with
    | none => exact .inl rfl
    | some k => exact .inr (fun e => by have := hx k e.symm; have := h.ge k hu; omega), fun k hk => (World.ownsRow.lt h k hk).2, h.capz⟩
structure AppL (w : World) (base : Nat) (x : Value) (vs : List Value) (zss : List (List Int)) : Prop where
  row : w.ownsRow base 25 1 x zss.length vs
  each : ∀ i u, vs[i]? = some u → Beside w x u (zss.getD i [])
theorem AppL.keep {w w' : World} {base : Nat} {x : Value} {vs : List Value} {zss : List (List Int)} (h : AppL w base x vs zss) (k : Keep w w') : AppL w' base x vs zss :=
  ⟨World.ownsRow.kept h.row k.grownBy (by cases x.ownBlock <;> simp), fun i u hu => (h.each i u hu).keep k⟩
theorem AppL.lt {w : World} {base : Nat} {x : Value} {vs : List Value} {zss : List (List Int)} (h : AppL w base x vs zss) : ∀ k, x.ownBlock = some k → base ≤ k ∧ k < w.heap.size := World.ownsRow.lt h.row
theorem AppL.rd {w : World} {base : Nat} {x : Value} {vs : List Value} {zss : List (List Int)} (h : AppL w base x vs zss) : RdL w x zss := by
  have hl := h.row.1
  have hlt := h.lt
  have h2 := h.row
  rcases h.row.2 with ⟨rfl, hz⟩ | ⟨g, cap, cur, rfl, hb, hg, _⟩
  · exact ⟨none, 0, by rw [hz], .inl (List.eq_nil_of_length_eq_zero hz)⟩
  · refine ⟨_, _, rfl, .inr ⟨g, 0, rfl, (hlt g rfl).2, fun i hi => ?_⟩⟩
    have hi' : i < vs.length := by omega
    refine ⟨vs[i], ?_, (h.each i _ (List.getElem?_eq_getElem hi')).rd⟩
    rw [Nat.zero_add, World.ownsRow.cellAt h2 i (by omega), List.getElem?_eq_getElem hi']
/-- .. with the room of each list. -/
def RdLC (w : World) (v : Value) (zss : List (List Int)) : Prop :=
  ∃ (a : Option Addr) (cap : Nat), v = .slice a zss.length cap ∧
    (zss = [] ∨ ∃ b off, a = some ⟨b, off, none⟩ ∧ b < w.heap.size ∧ ∀ i, i < zss.length → ∃ vi, w.cell? ⟨b, off + i, none⟩ = some vi ∧ Rd w vi (zss.getD i []) ∧ (zss.getD i []).length ≤ capZ vi)
theorem RdLC.rd {w : World} {v : Value} {zss : List (List Int)} (h : RdLC w v zss) : RdL w v zss := by
  obtain ⟨a, cap, hv, h⟩ := h
  refine ⟨a, cap, hv, ?_⟩
  rcases h with h | ⟨b, off, ha, hb, hc⟩
  · exact .inl h
  · refine .inr ⟨b, off, ha, hb, fun i hi => ?_⟩
    obtain ⟨vi, h1, h2, _⟩ := hc i hi
    exact ⟨vi, h1, h2⟩
theorem AppL.rdc {w : World} {base : Nat} {x : Value} {vs : List Value} {zss : List (List Int)} (h : AppL w base x vs zss) : RdLC w x zss := by
  have hl := h.row.1
  have hlt := h.lt
  have h2 := h.row
  rcases h.row.2 with ⟨rfl, hz⟩ | ⟨g, cap, cur, rfl, hb, hg, _⟩
  · exact ⟨none, 0, by rw [hz], .inl (List.eq_nil_of_length_eq_zero hz)⟩
  · refine ⟨_, _, rfl, .inr ⟨g, 0, rfl, (hlt g rfl).2, fun i hi => ?_⟩⟩
    have hi' : i < vs.length := by omega
    have hE := h.each i _ (List.getElem?_eq_getElem hi')
    refine ⟨vs[i], ?_, hE.rd, hE.cap⟩
    rw [Nat.zero_add, World.ownsRow.cellAt h2 i (by omega), List.getElem?_eq_getElem hi']
theorem appL_empty (w : World) : AppL (w.alloc (.cells #[] 25)) w.heap.size (.slice (some ⟨w.heap.size, 0, none⟩) 0 0) [] [] :=
  ⟨World.ownsRow_lit w #[] 0 (Nat.le_refl _) (by decide) (by simp), by simp⟩
theorem AppL.push {w w' : World} {base : Nat} {x x' u : Value} {vs : List Value} {zss : List (List Int)} {zs : List Int} (h : AppL w base x vs zss) (hu : Beside w x u zs)
    (ho : w'.ownsRow base 25 1 x' (zss.length + 1) (vs ++ [u])) (hg : w.grownBy w' x.ownBlock) (hb : x'.ownBlock = x.ownBlock ∨ x'.ownBlock = some w.heap.size) : AppL w' base x' (vs ++ [u]) (zss ++ [zs]) := by
  have hl := h.row.1
  refine ⟨by rw [List.length_append]; exact ho, fun i y hy => ?_⟩
  by_cases hi : i < vs.length
  · rw [List.getElem?_append_left hi] at hy
    have := (h.each i y hy).grow hg hb
    rw [List.getD_eq_getElem?_getD, List.getElem?_append_left (by omega), ← List.getD_eq_getElem?_getD]
    exact this
  · have hi2 : i = vs.length := by
      have := (List.getElem?_eq_some_iff.1 hy).1
      simp at this
      omega
    subst hi2
    rw [List.getElem?_append_right (Nat.le_refl _), Nat.sub_self] at hy
    simp only [List.getElem?_cons_zero, Option.some.injEq] at hy
    subst hy
    rw [List.getD_eq_getElem?_getD, List.getElem?_append_right (by omega), show vs.length - zss.length = 0 by omega]
    exact hu.grow hg hb
theorem Tryz.infoL : (Tryz.prog.info? 25).map (fun i => (i.zero, i.size, i.bytes)) = some (some (.slice none 0 0), 1, 24) := by kernel_rfl
end Go.Proofs.YtkbkdlaknmgjpaaGreat

/- Contract of the program's linesIn: the lines of a web, one by one. -/
namespace Go.Proofs.YtkbkdlaknmgjpaaGreat
open Go.ChangeShapes Go.WideShapes Go.ChangeAt Go.RowKit

theorem linI_hit (k : Nat) (ms : List Int) (m : Nat) (hm : m < ms.length) : linI k (ms.take (m + 1)) = linI k (ms.take m) ++ [((k : Int), ms.getD m 0)] := by
  unfold linI
  rw [take_snoc ms m hm, List.map_append]
  rfl
theorem app_start {w : World} {base : Nat} {x : Value} {P : List (Int × Int)} (h : AppLn w base x P) (k : Nat) (ms : List Int) : AppLn w base x (P ++ linI k (ms.take 0)) := by
  simpa [linI] using h
set_option maxRecDepth 100000 in
set_option maxHeartbeats 2000000 in
theorem linesIn_any (w : World) (v : Value) (zs : List Int) (h : Rd w v zs) (hn : zs.length ≤ 12) :
    Calls Tryz.prog 48 #[v] w fun e w' => ∃ v', e = .returned v' ∧ AppLn w' w.heap.size v' (linL zs) ∧ Keep w w' := by
  obtain ⟨j0, hj, hy0, hy1, hy2⟩ := info_parts Tryz.infoLn
  have A0 : AppLn (w.alloc (.cells #[] 65)) w.heap.size (.slice (some ⟨w.heap.size, 0, none⟩) 0 0) [] := appT_empty w
  have HL : Hid (linL zs = linK zs zs.length) := Lib.hid rfl
  obtain ⟨a, cap, rfl, h⟩ := h
  go_enter Tryz.func48, Tryz.ntmps48
  go_wp2
  go_loopw [3, 11] (fun x i wr => ∃ k : Nat, k ≤ zs.length ∧ i = .int .i64 k ∧ AppLn wr w.heap.size x (linK zs k) ∧ Keep w wr) (fun _ i _ => zs.length - (intOf i).toNat)
  case atStart => exact ⟨0, Nat.zero_le _, rfl, A0, (Keep.refl _).alloc _⟩
  case round =>
    obtain ⟨k, hk, rfl, ho, hK⟩ := hrel
    clear A0
    by_cases hlt : k < zs.length
    · rcases h with h | ⟨b, off, rfl, hb, hc⟩
      · exfalso; rw [h] at hlt; simp at hlt
      have d1 := (hK.cell hb).trans (hc k hlt)
      have hbw : b < wr.heap.size := Nat.lt_of_lt_of_le hb hK.size
      clear hc
      have HP : Hid (linK zs (k + 1) = linK zs k ++ linI k (mem (zs.getD k 0) 12)) := Lib.hid rfl
      have hml := mem_len (zs.getD k 0) 12
      have hll := lin_len zs k
      have i1 : (0 : Int) ≤ (k : Int) := Int.natCast_nonneg _
      have i2 : (k : Int) < (zs.length : Int) := by omega
      generalize zs.getD k 0 = s at *
      generalize linK zs k = P at *
      go_wp2_with fail
      refine (implMembers_any _ _).mono ?_
      rintro e w2 ⟨vm, rfl, om, k2⟩
      generalize mem s 12 = ms at *
      have B2 := om.beside (fun g hg => (ho.lt g hg).2)
      have ho2 := app_start (ho.keep k2) k ms
      have hK2 := hK.trans k2
      obtain ⟨am, cm, rfl, -⟩ := id B2.rd
      clear om k2 ho hK d1 hbw
      go_wp2
      go_loopw [3, 19] (fun x i wr => ∃ m : Nat, m ≤ ms.length ∧ i = .int .i64 m ∧ AppLn wr w.heap.size x (P ++ linI k (ms.take m)) ∧ Keep w wr ∧ Beside wr x (.slice am ms.length cm) ms) (fun _ i _ => ms.length - (intOf i).toNat)
      case atStart => exact ⟨0, Nat.zero_le _, rfl, ho2, hK2, B2⟩
      case round =>
        clear ho2 hK2 B2
        obtain ⟨m, hm, rfl, ho, hK, B⟩ := hrel
        by_cases hmt : m < ms.length
        · obtain ⟨a', c', he', hR'⟩ := id B.rd
          simp only [Value.slice.injEq, true_and] at he'
          obtain ⟨rfl, rfl⟩ := he'
          rcases hR' with h0 | ⟨bm, om, rfl, hbm, hcm⟩
          · exfalso; rw [h0] at hmt; simp at hmt
          have d1 := hcm m hmt
          clear hcm
          have HM : Hid (P ++ linI k (ms.take (m + 1)) = P ++ linI k (ms.take m) ++ [((k : Int), ms.getD m 0)]) := Lib.hid (by rw [linI_hit k ms m hmt, List.append_assoc])
          have hql : (P ++ linI k (ms.take m)).length ≤ 300 := by
            rw [List.length_append, linI, List.length_map, List.length_take]
            omega
          generalize P ++ linI k (ms.take m) = Q at *
          generalize ms.getD m 0 = y at *
          have j1 : (0 : Int) ≤ (m : Int) := Int.natCast_nonneg _
          have j2 : (m : Int) < (ms.length : Int) := by omega
          have hsz := hK.size
          have ho3 := ho.keep ((Keep.refl wr).alloc (lnO k y))
          have K3 := hK.alloc (lnO k y)
          have B3 := B.keep ((Keep.refl wr).alloc (lnO k y))
          go_wp2_with (at_builtin; refine wpList_append_own_at _ rfl _ _ 61 rfl w.heap.size 65 j0 (.agg #[.int .i64 0, .int .i64 0]) 2 16 Tryz.underlying61 hj hy0 hy1 hy2 rfl (by decide) _ _ _ rfl ho3 ⟨_, 0, none⟩ 1 1 (cLn ((k : Int), y)) rfl rfl ?c1 ?c2 ?c3 ?c4 ?c5 ?_)
          case c1 => exact cLn_new _ _ rfl _ _
          case c2 => exact cLn_one _
          case c3 => unfold maxLen; omega
          case c4 => omega
          case c5 => simp; omega
          intro v' w1 hown' hgrow _ hblk
          have B4 := B3.grow hgrow (by rw [heap_size]; exact hblk)
          have K4 := K3.grown hgrow ho3.ge
          have A4 := appT_hit hown'
          rw [← HM.out] at A4
          clear hgrow hown' hblk ho3 K3 B3 B hK ho d1 HM
          go_wp2
          go_roundw
          case rel => exact ⟨m + 1, by omega, by go_num, A4, K4, B4⟩
          case measure => simp [intOf]; omega
        · obtain rfl : m = ms.length := by omega
          rw [List.take_length, ← HP.out] at ho
          go_wp2
          go_roundw
          case rel => exact ⟨k + 1, by omega, by go_num, ho, hK⟩
          case measure => simp [intOf]; omega
    · obtain rfl : k = zs.length := by omega
      go_wp2
      go_ret
      exact ⟨_, rfl, by rw [HL.out]; exact ho, hK⟩
end Go.Proofs.YtkbkdlaknmgjpaaGreat

/- Contracts of the program's test on a line (is it between two clerks), of 'only' at that test, and of FromOthers. -/
namespace Go.Proofs.YtkbkdlaknmgjpaaGreat
open Go.ChangeShapes Go.WideShapes Go.ChangeAt Go.RowKit

set_option maxRecDepth 100000 in
set_option maxHeartbeats 1000000 in
theorem other_any (w : World) (v : Value) (es : List Ev) (h : RdE w v es) (A : Nat) (hA : w.cell? ⟨A, 0, none⟩ = some v) (hAl : A < w.heap.size) (i j : Nat) (hi : i < es.length) (hj : j < es.length) :
    Calls Tryz.prog 50 #[.agg #[.int .i64 i, .int .i64 j], .pointer (some ⟨A, 0, none⟩)] w fun e w' => e = .returned (.bool (othP es ((i : Int), (j : Int)))) ∧ Keep w w' := by
  obtain ⟨a, c, rfl, h⟩ := h
  rcases h with h | ⟨b, off, rfl, hb, hc⟩
  · exfalso; rw [h] at hi; simp at hi
  have K0 : Keep w (w.alloc (lnO i j)) := (Keep.refl w).alloc _
  have a1 := (K0.cell hAl).trans hA
  have AI := (hc i _ (evs_get hi)).keep hb K0
  have AJ := (hc j _ (evs_get hj)).keep hb K0
  have HP : Hid (othP es ((i : Int), (j : Int)) = ((es.getD i zE).1 != (es.getD j zE).1)) := Lib.hid (by unfold othP; dsimp only; rw [Int.toNat_natCast, Int.toNat_natCast])
  clear hc hA
  generalize othP es ((i : Int), (j : Int)) = T at *
  generalize es.getD i zE = x at *
  generalize es.getD j zE = y at *
  obtain ⟨x0, x1, x2, x3, x4, x5⟩ := x
  obtain ⟨y0, y1, y2, y3, y4, y5⟩ := y
  obtain ⟨A3, -, -, -, -, -⟩ := atE AI
  obtain ⟨B3, -, -, -, -, -⟩ := atE AJ
  clear AI AJ
  have i1 : (0 : Int) ≤ (i : Int) := Int.natCast_nonneg _
  have i2 : (i : Int) < (es.length : Int) := by omega
  have j1 : (0 : Int) ≤ (j : Int) := Int.natCast_nonneg _
  have j2 : (j : Int) < (es.length : Int) := by omega
  have l1 := box_cell (w := w) (cs := #[.int .i64 i, .int .i64 j]) (t := 65) (Keep.refl _) 0
  have l2 := box_cell (w := w) (cs := #[.int .i64 i, .int .i64 j]) (t := 65) (Keep.refl _) 1
  go_enter Tryz.func50, Tryz.ntmps50
  go_wp2
  go_quiet (fail)
  go_wp2
  go_ret
  exact ⟨ret_bool (by rw [HP.out]), K0.drewN _⟩
set_option maxRecDepth 100000 in
set_option maxHeartbeats 2000000 in
theorem only_any (w : World) (v u : Value) (l : List (Int × Int)) (es : List Ev) (hl : RdLn w v l) (hn : l.length ≤ 144) (h : RdE w u es) (A : Nat) (hA : w.cell? ⟨A, 0, none⟩ = some u) (hAl : A < w.heap.size) (hin : ∀ x ∈ l, ∃ i j : Nat, x = ((i : Int), (j : Int)) ∧ i < es.length ∧ j < es.length) :
    Calls Tryz.prog 49 #[v, .func (Fn.func 50) #[] #[.pointer (some ⟨A, 0, none⟩)]] w fun e w' => ∃ v', e = .returned v' ∧ AppLn w' w.heap.size v' (l.filter (othP es)) ∧ Keep w w' := by
  obtain ⟨j0, hj, hy0, hy1, hy2⟩ := info_parts Tryz.infoLn
  have A0 : AppLn (w.alloc (.cells #[] 65)) w.heap.size (.slice (some ⟨w.heap.size, 0, none⟩) 0 0) [] := appT_empty w
  have C := fun (W : World) (k : Keep w W) (i q : Nat) (hi : i < es.length) (hq : q < es.length) => other_any W u es (h.keep k) A ((k.cell hAl).trans hA) (Nat.lt_of_lt_of_le hAl k.size) i q hi hq
  have HIN := Lib.hid hin
  have HC := Lib.hid C
  clear hin C h hA
  obtain ⟨a, c, rfl, hl⟩ := hl
  go_enter Tryz.func49, Tryz.ntmps49
  go_wp2
  go_loopw [5, 11] (fun x i wr => ∃ k : Nat, k ≤ l.length ∧ i = .int .i64 k ∧ AppLn wr w.heap.size x ((l.take k).filter (othP es)) ∧ Keep w wr) (fun _ i _ => l.length - (intOf i).toNat)
  case atStart => exact ⟨0, Nat.zero_le _, rfl, A0, (Keep.refl _).alloc _⟩
  case round =>
    obtain ⟨k, hk, rfl, ho, hK⟩ := hrel
    clear A0
    by_cases hlt : k < l.length
    · rcases hl with h | ⟨b, off, rfl, hb, hc⟩
      · exfalso; rw [h] at hlt; simp at hlt
      have AT := (hc k _ (ln_get hlt)).keep hb hK
      have hbw : b < wr.heap.size := Nat.lt_of_lt_of_le hb hK.size
      clear hc
      have hmem : l.getD k (0, 0) ∈ l := by
        rw [List.getD_eq_getElem?_getD, List.getElem?_eq_getElem hlt]
        exact List.getElem_mem hlt
      obtain ⟨i, q, hx, hi, hq⟩ := HIN.out _ hmem
      clear hmem
      have HP : Hid ((l.take (k + 1)).filter (othP es) = (l.take k).filter (othP es) ++ if othP es ((i : Int), (q : Int)) = true then [((i : Int), (q : Int))] else []) := Lib.hid (by
        rw [List.take_succ_eq_append_getElem hlt, List.filter_append]
        have e : l[k] = ((i : Int), (q : Int)) := by
          rw [List.getD_eq_getElem?_getD, List.getElem?_eq_getElem hlt] at hx
          exact hx
        rw [e, List.filter_cons, List.filter_nil])
      rw [hx] at AT
      clear hx
      obtain ⟨d1, d2⟩ := atLn AT
      clear AT
      have hll : ((l.take k).filter (othP es)).length ≤ 144 := by
        have := List.length_filter_le (othP es) (l.take k)
        rw [List.length_take] at this
        omega
      generalize (l.take k).filter (othP es) = P at *
      have i1 : (0 : Int) ≤ (k : Int) := Int.natCast_nonneg _
      have i2 : (k : Int) < (l.length : Int) := by omega
      have C := HC.out _ (hK.alloc (lnO i q)) i q hi hq
      generalize othP es ((i : Int), (q : Int)) = T at *
      go_wp2_with fail
      refine C.mono ?_
      rintro e w2 ⟨rfl, k2⟩
      have b0 := box_cell k2 0
      have b1 := box_cell k2 1
      simp at b0 b1
      have K1 := (Keep.refl wr).alloc (lnO i q) |>.trans k2
      have ho2 := ho.keep K1
      have hK2 := hK.trans K1
      have z2 := box_size k2
      clear ho hK k2 K1 d1 d2 C
      cases T
      · rw [if_neg (by simp), List.append_nil] at HP
        go_wp2
        go_roundw
        case rel => exact ⟨k + 1, by omega, by go_num, by rw [HP.out]; exact ho2, hK2⟩
        case measure => simp [intOf]; omega
      · rw [if_pos rfl] at HP
        have hsz := hK2.size
        have ho3 := ho2.keep ((Keep.refl w2).alloc (lnO i q))
        have K3 := hK2.alloc (lnO i q)
        go_wp2_with (at_builtin; refine wpList_append_own_at _ rfl _ _ 61 rfl w.heap.size 65 j0 (.agg #[.int .i64 0, .int .i64 0]) 2 16 Tryz.underlying61 hj hy0 hy1 hy2 rfl (by decide) _ _ _ rfl ho3 ⟨_, 0, none⟩ 1 1 (cLn ((i : Int), (q : Int))) rfl rfl ?c1 ?c2 ?c3 ?c4 ?c5 ?_)
        case c1 => exact cLn_new _ _ rfl _ _
        case c2 => exact cLn_one _
        case c3 => unfold maxLen; omega
        case c4 => omega
        case c5 => simp; omega
        intro v' w1 hown' hgrow _ _
        have K4 := K3.grown hgrow ho3.ge
        have A4 := appT_hit hown'
        rw [← HP.out] at A4
        clear hgrow hown' ho3 K3 hK2 ho2 HP b0 b1
        go_wp2
        go_roundw
        case rel => exact ⟨k + 1, by omega, by go_num, A4, K4⟩
        case measure => simp [intOf]; omega
    · obtain rfl : k = l.length := by omega
      rw [List.take_length] at ho
      go_wp2
      go_ret
      exact ⟨_, rfl, ho, hK⟩
end Go.Proofs.YtkbkdlaknmgjpaaGreat
