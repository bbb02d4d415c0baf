/- Contracts of the program's clerks: isRight, clerksOf. -/
import Derived.Test.YtefdhogmjijkgaaClerkT
import Derived.Test.YtefdhogmjijkgaaHeldBy
import Derived.Maps.AppendAt
import Derived.Laws.OwnMore
import Derived.OwnWalk
namespace Go.Proofs.Ytefdhogmjijkgaa
open Go.ChangeShapes Go.WideShapes Go.ChangeAt Go.RowKit

abbrev boxC (v : Value) (t : Int) : Obj := .cells #[v, .int .i64 t] 90
theorem right_true {ds : List Dd} {t : Int} (h5 : ds.length ≤ 5) (ha : ds.all okD = true) (ht : togK ds ds.length = true) (h0 : (bits .and .i64 (gC ds) t == 0) = true) : rightB ds t = true := by
  rw [rightB, decide_eq_true h5, ha, ht, h0]; rfl
set_option maxRecDepth 100000 in
set_option maxHeartbeats 8000000 in
theorem isRight_any (w : World) (v : Value) (t : Int) (ds : List Dd) (h : RdD w v ds) (hx : ds.length ≤ 1048576) :
    Calls Try.prog 89 #[.agg #[v, .int .i64 t]] w fun e w' => e = .returned (.bool (rightB ds t)) ∧ Keep w w' := by
  have KK : Keep w ((w.alloc (boxC v t)).drew) := ((Keep.refl w).alloc _).drew
  have z1 : w.heap.size < ((w.alloc (boxC v t)).drew).heap.size := by rw [heap_drew, heap_size]; omega
  obtain ⟨a, c, hv, -⟩ := id h
  subst hv
  by_cases h5 : ds.length ≤ 5
  · have e5 : decide (ds.length ≤ 5) = true := decide_eq_true h5
    have e5' : decide ((ds.length : Int) ≤ 5) = true := decide_eq_true (by omega)
    have g5 : (ds.length : Int) ≤ 5 := by omega
    cases ha : ds.all okD
    · have HE : Hid (rightB ds t = false) := Lib.hid (by rw [rightB, ha]; simp)
      go_enter Try.func89, Try.ntmps89
      go_wp2
      refine wp_region_held_drew (S := (fun w' => w'.cell? ⟨w.heap.size, 0, none⟩ = some (.slice a ds.length (ds.length + c)) ∧ w'.cell? ⟨w.heap.size, 1, none⟩ = some (.int .i64 t))) (by kernel_rfl) ?_ (fun hHeld => ?_)
      · go_keep
      refine takeH 0 3 (v := ?_) rfl rfl (by kernel_rfl) (by kernel_rfl) (by kernel_rfl) (fun _ _ _ h => h) (by rfl) ?_ (by assumption) ?_
      rotate_left
      · intro wx hSw
        try dsimp only at hSw
        go_simp
        with_reducible rfl
      simp only [Act.put, List.setIfInBounds_toArray, List.set_cons_zero, List.set_cons_succ]
      refine takeH 1 4 (v := ?_) rfl rfl (by kernel_rfl) (by kernel_rfl) (by kernel_rfl) (fun _ _ _ h => h) (by rfl) ?_ (by assumption) ?_
      rotate_left
      · intro wx hSw
        try dsimp only at hSw
        go_simp
        with_reducible rfl
      simp only [Act.put, List.setIfInBounds_toArray, List.set_cons_zero, List.set_cons_succ]
      refine wpAnyH_ready (rs := [2]) (by kernel_rfl) (by simp) ?_
      refine AllReadyH.cons rfl (fun K hK => ?_) AllReadyH.nil
      go_simp
      refine (count_any _ _ _ _).mono ?_
      rintro e wz ⟨rfl, rfl⟩
      go_wp2_with fail
      refine hK.out _ _ ?_ (fun hHeld => ?_)
      · exact hHeld
      clear hK K
      refine takeH 3 6 (v := ?_) rfl rfl (by kernel_rfl) (by kernel_rfl) (by kernel_rfl) (fun _ _ _ h => h) (by rfl) ?_ (by assumption) ?_
      rotate_left
      · intro wx hSw
        try dsimp only at hSw
        go_simp
        with_reducible rfl
      simp only [Act.put, List.setIfInBounds_toArray, List.set_cons_zero, List.set_cons_succ]
      refine takeH 4 7 (v := ?_) rfl rfl (by kernel_rfl) (by kernel_rfl) (by kernel_rfl) (fun _ _ _ h => h) (by rfl) ?_ (by assumption) ?_
      rotate_left
      · intro wx hSw
        try dsimp only at hSw
        go_simp
        with_reducible rfl
      simp only [Act.put, List.setIfInBounds_toArray, List.set_cons_zero, List.set_cons_succ]
      refine takeH 5 8 (v := ?_) rfl rfl (by kernel_rfl) (by kernel_rfl) (by kernel_rfl) (fun _ _ _ h => h) (by rfl) ?_ (by assumption) ?_
      rotate_left
      · intro wx hSw
        try dsimp only at hSw
        go_simp
        with_reducible rfl
      simp only [Act.put, List.setIfInBounds_toArray, List.set_cons_zero, List.set_cons_succ]
      refine takeH 6 9 (v := ?_) rfl rfl (by kernel_rfl) (by kernel_rfl) (by kernel_rfl) (fun _ _ _ h => h) (by rfl) ?_ (by assumption) ?_
      rotate_left
      · intro wx hSw
        try dsimp only at hSw
        go_simp
        with_reducible rfl
      simp only [Act.put, List.setIfInBounds_toArray, List.set_cons_zero, List.set_cons_succ]
      refine wpAnyH_ready (rs := [7]) (by kernel_rfl) (by simp) ?_
      refine AllReadyH.cons rfl (fun K hK => ?_) AllReadyH.nil
      go_simp
      refine (areRight_any _ _ _ (h.keep KK) hx).mono ?_
      rw [ha]
      rintro e wz1 ⟨rfl, kk⟩
      have z0 := z1
      have KK := KK.trans kk
      have z1 := Nat.lt_of_lt_of_le z1 kk.size
      go_wp2_with fail
      refine hK.out _ _ ?_ (fun hHeld => ?_)
      · exact ⟨(kk.cell z0).trans hHeld.1, (kk.cell z0).trans hHeld.2⟩
      clear hK K
      refine takeH 8 11 (v := ?_) rfl rfl (by kernel_rfl) (by kernel_rfl) (by kernel_rfl) (fun _ _ _ h => h) (by rfl) ?_ (by assumption) ?_
      rotate_left
      · intro wx hSw
        try dsimp only at hSw
        go_simp
        with_reducible rfl
      simp only [Act.put, List.setIfInBounds_toArray, List.set_cons_zero, List.set_cons_succ]
      refine takeH 9 12 (v := ?_) rfl rfl (by kernel_rfl) (by kernel_rfl) (by kernel_rfl) (fun _ _ _ h => h) (by rfl) ?_ (by assumption) ?_
      rotate_left
      · intro wx hSw
        try dsimp only at hSw
        go_simp
        with_reducible rfl
      simp only [Act.put, List.setIfInBounds_toArray, List.set_cons_zero, List.set_cons_succ]
      refine skipH 10 13 rfl rfl (by kernel_rfl) (by kernel_rfl) (by kernel_rfl) (fun _ _ _ h => h) (by rfl) (by assumption) ?_
      simp only [Act.put, List.setIfInBounds_toArray, List.set_cons_zero, List.set_cons_succ]
      refine skipH 11 14 rfl rfl (by kernel_rfl) (by kernel_rfl) (by kernel_rfl) (fun _ _ _ h => h) (by rfl) (by assumption) ?_
      simp only [Act.put, List.setIfInBounds_toArray, List.set_cons_zero, List.set_cons_succ]
      refine skipH 12 15 rfl rfl (by kernel_rfl) (by kernel_rfl) (by kernel_rfl) (fun _ _ _ h => h) (by rfl) (by assumption) ?_
      simp only [Act.put, List.setIfInBounds_toArray, List.set_cons_zero, List.set_cons_succ]
      refine takeH 13 16 (v := ?_) rfl rfl (by kernel_rfl) (by kernel_rfl) (by kernel_rfl) (fun _ _ _ h => h) (by rfl) ?_ (by assumption) ?_
      rotate_left
      · intro wx hSw
        try dsimp only at hSw
        go_simp
        with_reducible rfl
      simp only [Act.put, List.setIfInBounds_toArray, List.set_cons_zero, List.set_cons_succ]
      refine takeH 14 17 (v := ?_) rfl rfl (by kernel_rfl) (by kernel_rfl) (by kernel_rfl) (fun _ _ _ h => h) (by rfl) ?_ (by assumption) ?_
      rotate_left
      · intro wx hSw
        try dsimp only at hSw
        go_simp
        with_reducible rfl
      simp only [Act.put, List.setIfInBounds_toArray, List.set_cons_zero, List.set_cons_succ]
      refine skipH 15 18 rfl rfl (by kernel_rfl) (by kernel_rfl) (by kernel_rfl) (fun _ _ _ h => h) (by rfl) (by assumption) ?_
      simp only [Act.put, List.setIfInBounds_toArray, List.set_cons_zero, List.set_cons_succ]
      refine skipH 16 19 rfl rfl (by kernel_rfl) (by kernel_rfl) (by kernel_rfl) (fun _ _ _ h => h) (by rfl) (by assumption) ?_
      simp only [Act.put, List.setIfInBounds_toArray, List.set_cons_zero, List.set_cons_succ]
      refine skipH 17 20 rfl rfl (by kernel_rfl) (by kernel_rfl) (by kernel_rfl) (fun _ _ _ h => h) (by rfl) (by assumption) ?_
      simp only [Act.put, List.setIfInBounds_toArray, List.set_cons_zero, List.set_cons_succ]
      refine skipH 18 21 rfl rfl (by kernel_rfl) (by kernel_rfl) (by kernel_rfl) (fun _ _ _ h => h) (by rfl) (by assumption) ?_
      simp only [Act.put, List.setIfInBounds_toArray, List.set_cons_zero, List.set_cons_succ]
      refine skipH 19 22 rfl rfl (by kernel_rfl) (by kernel_rfl) (by kernel_rfl) (fun _ _ _ h => h) (by rfl) (by assumption) ?_
      simp only [Act.put, List.setIfInBounds_toArray, List.set_cons_zero, List.set_cons_succ]
      refine skipH 20 23 rfl rfl (by kernel_rfl) (by kernel_rfl) (by kernel_rfl) (fun _ _ _ h => h) (by rfl) (by assumption) ?_
      simp only [Act.put, List.setIfInBounds_toArray, List.set_cons_zero, List.set_cons_succ]
      refine skipH 21 24 rfl rfl (by kernel_rfl) (by kernel_rfl) (by kernel_rfl) (fun _ _ _ h => h) (by rfl) (by assumption) ?_
      simp only [Act.put, List.setIfInBounds_toArray, List.set_cons_zero, List.set_cons_succ]
      refine takeH 22 25 (v := ?_) rfl rfl (by kernel_rfl) (by kernel_rfl) (by kernel_rfl) (fun _ _ _ h => h) (by rfl) ?_ (by assumption) ?_
      rotate_left
      · intro wx hSw
        try dsimp only at hSw
        go_simp
        with_reducible rfl
      simp only [Act.put, List.setIfInBounds_toArray, List.set_cons_zero, List.set_cons_succ]
      refine takeH 23 2 (v := ?_) rfl rfl (by kernel_rfl) (by kernel_rfl) (by kernel_rfl) (fun _ _ _ h => h) (by rfl) ?_ (by assumption) ?_
      rotate_left
      · intro wx hSw
        try dsimp only at hSw
        go_simp
        with_reducible rfl
      simp only [Act.put, List.setIfInBounds_toArray, List.set_cons_zero, List.set_cons_succ]
      refine wpAnyH_done (by kernel_rfl) ?_ _
      go_wp2
      go_ret
      exact ⟨by rw [HE.out]; rfl, KK⟩
    · cases ht : togK ds ds.length
      · have HE : Hid (rightB ds t = false) := Lib.hid (by rw [rightB, ht]; simp)
        go_enter Try.func89, Try.ntmps89
        go_wp2
        refine wp_region_held_drew (S := (fun w' => w'.cell? ⟨w.heap.size, 0, none⟩ = some (.slice a ds.length (ds.length + c)) ∧ w'.cell? ⟨w.heap.size, 1, none⟩ = some (.int .i64 t))) (by kernel_rfl) ?_ (fun hHeld => ?_)
        · go_keep
        refine takeH 0 3 (v := ?_) rfl rfl (by kernel_rfl) (by kernel_rfl) (by kernel_rfl) (fun _ _ _ h => h) (by rfl) ?_ (by assumption) ?_
        rotate_left
        · intro wx hSw
          try dsimp only at hSw
          go_simp
          with_reducible rfl
        simp only [Act.put, List.setIfInBounds_toArray, List.set_cons_zero, List.set_cons_succ]
        refine takeH 1 4 (v := ?_) rfl rfl (by kernel_rfl) (by kernel_rfl) (by kernel_rfl) (fun _ _ _ h => h) (by rfl) ?_ (by assumption) ?_
        rotate_left
        · intro wx hSw
          try dsimp only at hSw
          go_simp
          with_reducible rfl
        simp only [Act.put, List.setIfInBounds_toArray, List.set_cons_zero, List.set_cons_succ]
        refine wpAnyH_ready (rs := [2]) (by kernel_rfl) (by simp) ?_
        refine AllReadyH.cons rfl (fun K hK => ?_) AllReadyH.nil
        go_simp
        refine (count_any _ _ _ _).mono ?_
        rintro e wz ⟨rfl, rfl⟩
        go_wp2_with fail
        refine hK.out _ _ ?_ (fun hHeld => ?_)
        · exact hHeld
        clear hK K
        refine takeH 3 6 (v := ?_) rfl rfl (by kernel_rfl) (by kernel_rfl) (by kernel_rfl) (fun _ _ _ h => h) (by rfl) ?_ (by assumption) ?_
        rotate_left
        · intro wx hSw
          try dsimp only at hSw
          go_simp
          with_reducible rfl
        simp only [Act.put, List.setIfInBounds_toArray, List.set_cons_zero, List.set_cons_succ]
        refine takeH 4 7 (v := ?_) rfl rfl (by kernel_rfl) (by kernel_rfl) (by kernel_rfl) (fun _ _ _ h => h) (by rfl) ?_ (by assumption) ?_
        rotate_left
        · intro wx hSw
          try dsimp only at hSw
          go_simp
          with_reducible rfl
        simp only [Act.put, List.setIfInBounds_toArray, List.set_cons_zero, List.set_cons_succ]
        refine takeH 5 8 (v := ?_) rfl rfl (by kernel_rfl) (by kernel_rfl) (by kernel_rfl) (fun _ _ _ h => h) (by rfl) ?_ (by assumption) ?_
        rotate_left
        · intro wx hSw
          try dsimp only at hSw
          go_simp
          with_reducible rfl
        simp only [Act.put, List.setIfInBounds_toArray, List.set_cons_zero, List.set_cons_succ]
        refine takeH 6 9 (v := ?_) rfl rfl (by kernel_rfl) (by kernel_rfl) (by kernel_rfl) (fun _ _ _ h => h) (by rfl) ?_ (by assumption) ?_
        rotate_left
        · intro wx hSw
          try dsimp only at hSw
          go_simp
          with_reducible rfl
        simp only [Act.put, List.setIfInBounds_toArray, List.set_cons_zero, List.set_cons_succ]
        refine wpAnyH_ready (rs := [7]) (by kernel_rfl) (by simp) ?_
        refine AllReadyH.cons rfl (fun K hK => ?_) AllReadyH.nil
        go_simp
        refine (areRight_any _ _ _ (h.keep KK) hx).mono ?_
        rw [ha]
        rintro e wz1 ⟨rfl, kk⟩
        have z0 := z1
        have KK := KK.trans kk
        have z1 := Nat.lt_of_lt_of_le z1 kk.size
        go_wp2_with fail
        refine hK.out _ _ ?_ (fun hHeld => ?_)
        · exact ⟨(kk.cell z0).trans hHeld.1, (kk.cell z0).trans hHeld.2⟩
        clear hK K
        refine takeH 8 11 (v := ?_) rfl rfl (by kernel_rfl) (by kernel_rfl) (by kernel_rfl) (fun _ _ _ h => h) (by rfl) ?_ (by assumption) ?_
        rotate_left
        · intro wx hSw
          try dsimp only at hSw
          go_simp
          with_reducible rfl
        simp only [Act.put, List.setIfInBounds_toArray, List.set_cons_zero, List.set_cons_succ]
        refine takeH 9 12 (v := ?_) rfl rfl (by kernel_rfl) (by kernel_rfl) (by kernel_rfl) (fun _ _ _ h => h) (by rfl) ?_ (by assumption) ?_
        rotate_left
        · intro wx hSw
          try dsimp only at hSw
          go_simp
          with_reducible rfl
        simp only [Act.put, List.setIfInBounds_toArray, List.set_cons_zero, List.set_cons_succ]
        refine takeH 10 13 (v := ?_) rfl rfl (by kernel_rfl) (by kernel_rfl) (by kernel_rfl) (fun _ _ _ h => h) (by rfl) ?_ (by assumption) ?_
        rotate_left
        · intro wx hSw
          try dsimp only at hSw
          go_simp
          with_reducible rfl
        simp only [Act.put, List.setIfInBounds_toArray, List.set_cons_zero, List.set_cons_succ]
        refine takeH 11 14 (v := ?_) rfl rfl (by kernel_rfl) (by kernel_rfl) (by kernel_rfl) (fun _ _ _ h => h) (by rfl) ?_ (by assumption) ?_
        rotate_left
        · intro wx hSw
          try dsimp only at hSw
          go_simp
          with_reducible rfl
        simp only [Act.put, List.setIfInBounds_toArray, List.set_cons_zero, List.set_cons_succ]
        refine wpAnyH_ready (rs := [12]) (by kernel_rfl) (by simp) ?_
        refine AllReadyH.cons rfl (fun K hK => ?_) AllReadyH.nil
        go_simp
        refine (areTogether_any _ _ _ (h.keep KK) hx).mono ?_
        rw [ht]
        rintro e wz2 ⟨rfl, kk⟩
        have z0 := z1
        have KK := KK.trans kk
        have z1 := Nat.lt_of_lt_of_le z1 kk.size
        go_wp2_with fail
        refine hK.out _ _ ?_ (fun hHeld => ?_)
        · exact ⟨(kk.cell z0).trans hHeld.1, (kk.cell z0).trans hHeld.2⟩
        clear hK K
        refine takeH 13 16 (v := ?_) rfl rfl (by kernel_rfl) (by kernel_rfl) (by kernel_rfl) (fun _ _ _ h => h) (by rfl) ?_ (by assumption) ?_
        rotate_left
        · intro wx hSw
          try dsimp only at hSw
          go_simp
          with_reducible rfl
        simp only [Act.put, List.setIfInBounds_toArray, List.set_cons_zero, List.set_cons_succ]
        refine takeH 14 17 (v := ?_) rfl rfl (by kernel_rfl) (by kernel_rfl) (by kernel_rfl) (fun _ _ _ h => h) (by rfl) ?_ (by assumption) ?_
        rotate_left
        · intro wx hSw
          try dsimp only at hSw
          go_simp
          with_reducible rfl
        simp only [Act.put, List.setIfInBounds_toArray, List.set_cons_zero, List.set_cons_succ]
        refine skipH 15 18 rfl rfl (by kernel_rfl) (by kernel_rfl) (by kernel_rfl) (fun _ _ _ h => h) (by rfl) (by assumption) ?_
        simp only [Act.put, List.setIfInBounds_toArray, List.set_cons_zero, List.set_cons_succ]
        refine skipH 16 19 rfl rfl (by kernel_rfl) (by kernel_rfl) (by kernel_rfl) (fun _ _ _ h => h) (by rfl) (by assumption) ?_
        simp only [Act.put, List.setIfInBounds_toArray, List.set_cons_zero, List.set_cons_succ]
        refine skipH 17 20 rfl rfl (by kernel_rfl) (by kernel_rfl) (by kernel_rfl) (fun _ _ _ h => h) (by rfl) (by assumption) ?_
        simp only [Act.put, List.setIfInBounds_toArray, List.set_cons_zero, List.set_cons_succ]
        refine skipH 18 21 rfl rfl (by kernel_rfl) (by kernel_rfl) (by kernel_rfl) (fun _ _ _ h => h) (by rfl) (by assumption) ?_
        simp only [Act.put, List.setIfInBounds_toArray, List.set_cons_zero, List.set_cons_succ]
        refine skipH 19 22 rfl rfl (by kernel_rfl) (by kernel_rfl) (by kernel_rfl) (fun _ _ _ h => h) (by rfl) (by assumption) ?_
        simp only [Act.put, List.setIfInBounds_toArray, List.set_cons_zero, List.set_cons_succ]
        refine skipH 20 23 rfl rfl (by kernel_rfl) (by kernel_rfl) (by kernel_rfl) (fun _ _ _ h => h) (by rfl) (by assumption) ?_
        simp only [Act.put, List.setIfInBounds_toArray, List.set_cons_zero, List.set_cons_succ]
        refine skipH 21 24 rfl rfl (by kernel_rfl) (by kernel_rfl) (by kernel_rfl) (fun _ _ _ h => h) (by rfl) (by assumption) ?_
        simp only [Act.put, List.setIfInBounds_toArray, List.set_cons_zero, List.set_cons_succ]
        refine takeH 22 25 (v := ?_) rfl rfl (by kernel_rfl) (by kernel_rfl) (by kernel_rfl) (fun _ _ _ h => h) (by rfl) ?_ (by assumption) ?_
        rotate_left
        · intro wx hSw
          try dsimp only at hSw
          go_simp
          with_reducible rfl
        simp only [Act.put, List.setIfInBounds_toArray, List.set_cons_zero, List.set_cons_succ]
        refine takeH 23 2 (v := ?_) rfl rfl (by kernel_rfl) (by kernel_rfl) (by kernel_rfl) (fun _ _ _ h => h) (by rfl) ?_ (by assumption) ?_
        rotate_left
        · intro wx hSw
          try dsimp only at hSw
          go_simp
          with_reducible rfl
        simp only [Act.put, List.setIfInBounds_toArray, List.set_cons_zero, List.set_cons_succ]
        refine wpAnyH_done (by kernel_rfl) ?_ _
        go_wp2
        go_ret
        exact ⟨by rw [HE.out]; rfl, KK⟩
      · cases h0 : (bits .and .i64 (gC ds) t == 0)
        · have HE : Hid (rightB ds t = false) := Lib.hid (by rw [rightB, h0]; simp)
          go_enter Try.func89, Try.ntmps89
          go_wp2
          go_region_held3 (fun w' => w'.cell? ⟨w.heap.size, 0, none⟩ = some (.slice a ds.length (ds.length + c)) ∧ w'.cell? ⟨w.heap.size, 1, none⟩ = some (.int .i64 t))
            (first | go_keep | (go_split_ands; refine ⟨?_, ?_⟩ <;> (rw [kk.cell (by assumption)]; assumption)))
            ((first
              | (go_at_call 90; refine (count_any _ _ _ _).mono ?_; rintro e wz ⟨rfl, rfl⟩)
              | (go_at_call 96; refine (areRight_any _ _ _ (h.keep KK) hx).mono ?_; rintro e wz ⟨rfl, kk⟩; have KK := KK.trans kk; have z1 := Nat.lt_of_lt_of_le z1 kk.size)
              | (go_at_call 97; refine (areTogether_any _ _ _ (h.keep KK) hx).mono ?_; rintro e wz ⟨rfl, kk⟩; have KK := KK.trans kk; have z1 := Nat.lt_of_lt_of_le z1 kk.size)
              | (go_at_call 93; refine (groups_any _ _ _ (h.keep KK) hx).mono ?_; rintro e wz ⟨rfl, kk⟩; have KK := KK.trans kk; have z1 := Nat.lt_of_lt_of_le z1 kk.size)
              | (go_at_call 98; refine (setAnd_bits _ _ _).mono ?_; rintro e wz ⟨rfl, rfl⟩)))
          all_goals
            go_wp2
            go_ret
            exact ⟨by rw [HE.out]; rfl, KK⟩
        · have HE : Hid (rightB ds t = true) := Lib.hid (right_true h5 ha ht h0)
          go_enter Try.func89, Try.ntmps89
          go_wp2
          go_region_held3 (fun w' => w'.cell? ⟨w.heap.size, 0, none⟩ = some (.slice a ds.length (ds.length + c)) ∧ w'.cell? ⟨w.heap.size, 1, none⟩ = some (.int .i64 t))
            (first | go_keep | (go_split_ands; refine ⟨?_, ?_⟩ <;> (rw [kk.cell (by assumption)]; assumption)))
            ((first
              | (go_at_call 90; refine (count_any _ _ _ _).mono ?_; rintro e wz ⟨rfl, rfl⟩)
              | (go_at_call 96; refine (areRight_any _ _ _ (h.keep KK) hx).mono ?_; rintro e wz ⟨rfl, kk⟩; have KK := KK.trans kk; have z1 := Nat.lt_of_lt_of_le z1 kk.size)
              | (go_at_call 97; refine (areTogether_any _ _ _ (h.keep KK) hx).mono ?_; rintro e wz ⟨rfl, kk⟩; have KK := KK.trans kk; have z1 := Nat.lt_of_lt_of_le z1 kk.size)
              | (go_at_call 93; refine (groups_any _ _ _ (h.keep KK) hx).mono ?_; rintro e wz ⟨rfl, kk⟩; have KK := KK.trans kk; have z1 := Nat.lt_of_lt_of_le z1 kk.size)
              | (go_at_call 98; refine (setAnd_bits _ _ _).mono ?_; rintro e wz ⟨rfl, rfl⟩)))
          all_goals
            go_wp2
            go_ret
            exact ⟨by rw [HE.out]; rfl, KK⟩
  · have e5 : decide (ds.length ≤ 5) = false := decide_eq_false h5
    have e5' : decide ((ds.length : Int) ≤ 5) = false := decide_eq_false (by omega)
    have HE : Hid (rightB ds t = false) := Lib.hid (by rw [rightB, e5]; rfl)
    go_enter Try.func89, Try.ntmps89
    go_wp2
    go_quiet ((go_at_call 90; exact Calls.quiet_of_same (count_any _ _ _ _)))
    go_wp2
    go_ret
    exact ⟨by rw [HE.out]; rfl, ((Keep.refl w).alloc _).drewN _⟩
end Go.Proofs.Ytefdhogmjijkgaa
