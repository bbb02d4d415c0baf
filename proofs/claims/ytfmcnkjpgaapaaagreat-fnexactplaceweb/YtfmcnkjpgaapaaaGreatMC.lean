/- Several texts in one. -/
import Derived.Test.YtfmcnkjpgaapaaaGreatMB
import Derived.Maps.AppendAt
import Derived.Laws.OwnMore
import Derived.OwnWalk
import Derived.Deep.CutRange
import Derived.Outline
import Derived.Lib.Hide
import Derived.RangeFuncBox
import Derived.RangeFuncCalls
import Derived.RangeFuncLeaves
import Derived.BigRegion
import Derived.RegionTactic
import Derived.Deep.RegionHeld3
import Derived.Deep.QuietTactic
import Derived.BigQuiet
import Derived.Test.YtfmcnkjpgaapaaaGreatMA
/- Contracts of the program's clerks: isRight, clerksOf. -/
namespace Go.Proofs.YtfmcnkjpgaapaaaGreat
open Go.ChangeShapes Go.WideShapes Go.ChangeAt Go.RowKit

abbrev boxC (v : Value) (t : Int) : Obj := .cells #[v, .int .i64 t] 110
theorem right_true {ds : List Dd} {t : Int} (h5 : ds.length ≤ 5) (ha : ds.all okD = true) (ht : togK ds ds.length = true) (h0 : (bits .and .i64 (gC ds) t == 0) = true) : rightB ds t = true := by
  rw [rightB, decide_eq_true h5, ha, ht, h0]; rfl
set_option maxRecDepth 100000 in
set_option maxHeartbeats 8000000 in
theorem isRight_any (w : World) (v : Value) (t : Int) (ds : List Dd) (h : RdD w v ds) (hx : ds.length ≤ 1048576) :
    Calls Tryz.prog 120 #[.agg #[v, .int .i64 t]] w fun e w' => e = .returned (.bool (rightB ds t)) ∧ Keep w w' := by
  have KK : Keep w ((w.alloc (boxC v t)).drew) := ((Keep.refl w).alloc _).drew
  have z1 : w.heap.size < ((w.alloc (boxC v t)).drew).heap.size := by rw [heap_drew, heap_size]; omega
  obtain ⟨a, c, hv, -⟩ := id h
  subst hv
  by_cases h5 : ds.length ≤ 5
  · have e5 : decide (ds.length ≤ 5) = true := decide_eq_true h5
    have e5' : decide ((ds.length : Int) ≤ 5) = true := decide_eq_true (by omega)
    have g5 : (ds.length : Int) ≤ 5 := by omega
    cases ha : ds.all okD
    · have HE : Hid (rightB ds t = false) := Lib.hid (by rw [rightB, ha]; simp)
      go_enter Tryz.func120, Tryz.ntmps120
      go_wp2
      refine wp_region_held_drew (S := (fun w' => w'.cell? ⟨w.heap.size, 0, none⟩ = some (.slice a ds.length (ds.length + c)) ∧ w'.cell? ⟨w.heap.size, 1, none⟩ = some (.int .i64 t))) (by kernel_rfl) ?_ (fun hHeld => ?_)
      · go_keep
      refine takeH 0 3 (v := ?_) rfl rfl (by kernel_rfl) (by kernel_rfl) (by kernel_rfl) (fun _ _ _ h => h) (by rfl) ?_ (by assumption) ?_
      rotate_left
      · intro wx hSw
        try dsimp only at hSw
        go_simp
        with_reducible rfl
      simp only [Act.put, List.setIfInBounds_toArray, List.set_cons_zero, List.set_cons_succ]
      refine takeH 1 4 (v := ?_) rfl rfl (by kernel_rfl) (by kernel_rfl) (by kernel_rfl) (fun _ _ _ h => h) (by rfl) ?_ (by assumption) ?_
      rotate_left
      · intro wx hSw
        try dsimp only at hSw
        go_simp
        with_reducible rfl
      simp only [Act.put, List.setIfInBounds_toArray, List.set_cons_zero, List.set_cons_succ]
      refine wpAnyH_ready (rs := [2]) (by kernel_rfl) (by simp) ?_
      refine AllReadyH.cons rfl (fun K hK => ?_) AllReadyH.nil
      go_simp
      refine (count_any _ _ _ _).mono ?_
      rintro e wz ⟨rfl, rfl⟩
      go_wp2_with fail
      refine hK.out _ _ ?_ (fun hHeld => ?_)
      · exact hHeld
      clear hK K
      refine takeH 3 6 (v := ?_) rfl rfl (by kernel_rfl) (by kernel_rfl) (by kernel_rfl) (fun _ _ _ h => h) (by rfl) ?_ (by assumption) ?_
      rotate_left
      · intro wx hSw
        try dsimp only at hSw
        go_simp
        with_reducible rfl
      simp only [Act.put, List.setIfInBounds_toArray, List.set_cons_zero, List.set_cons_succ]
      refine takeH 4 7 (v := ?_) rfl rfl (by kernel_rfl) (by kernel_rfl) (by kernel_rfl) (fun _ _ _ h => h) (by rfl) ?_ (by assumption) ?_
      rotate_left
      · intro wx hSw
        try dsimp only at hSw
        go_simp
        with_reducible rfl
      simp only [Act.put, List.setIfInBounds_toArray, List.set_cons_zero, List.set_cons_succ]
      refine takeH 5 8 (v := ?_) rfl rfl (by kernel_rfl) (by kernel_rfl) (by kernel_rfl) (fun _ _ _ h => h) (by rfl) ?_ (by assumption) ?_
      rotate_left
      · intro wx hSw
        try dsimp only at hSw
        go_simp
        with_reducible rfl
      simp only [Act.put, List.setIfInBounds_toArray, List.set_cons_zero, List.set_cons_succ]
      refine takeH 6 9 (v := ?_) rfl rfl (by kernel_rfl) (by kernel_rfl) (by kernel_rfl) (fun _ _ _ h => h) (by rfl) ?_ (by assumption) ?_
      rotate_left
      · intro wx hSw
        try dsimp only at hSw
        go_simp
        with_reducible rfl
      simp only [Act.put, List.setIfInBounds_toArray, List.set_cons_zero, List.set_cons_succ]
      refine wpAnyH_ready (rs := [7]) (by kernel_rfl) (by simp) ?_
      refine AllReadyH.cons rfl (fun K hK => ?_) AllReadyH.nil
      go_simp
      refine (areRight_any _ _ _ (h.keep KK) hx).mono ?_
      rw [ha]
      rintro e wz1 ⟨rfl, kk⟩
      have z0 := z1
      have KK := KK.trans kk
      have z1 := Nat.lt_of_lt_of_le z1 kk.size
      go_wp2_with fail
      refine hK.out _ _ ?_ (fun hHeld => ?_)
      · exact ⟨(kk.cell z0).trans hHeld.1, (kk.cell z0).trans hHeld.2⟩
      clear hK K
      refine takeH 8 11 (v := ?_) rfl rfl (by kernel_rfl) (by kernel_rfl) (by kernel_rfl) (fun _ _ _ h => h) (by rfl) ?_ (by assumption) ?_
      rotate_left
      · intro wx hSw
        try dsimp only at hSw
        go_simp
        with_reducible rfl
      simp only [Act.put, List.setIfInBounds_toArray, List.set_cons_zero, List.set_cons_succ]
      refine takeH 9 12 (v := ?_) rfl rfl (by kernel_rfl) (by kernel_rfl) (by kernel_rfl) (fun _ _ _ h => h) (by rfl) ?_ (by assumption) ?_
      rotate_left
      · intro wx hSw
        try dsimp only at hSw
        go_simp
        with_reducible rfl
      simp only [Act.put, List.setIfInBounds_toArray, List.set_cons_zero, List.set_cons_succ]
      refine skipH 10 13 rfl rfl (by kernel_rfl) (by kernel_rfl) (by kernel_rfl) (fun _ _ _ h => h) (by rfl) (by assumption) ?_
      simp only [Act.put, List.setIfInBounds_toArray, List.set_cons_zero, List.set_cons_succ]
      refine skipH 11 14 rfl rfl (by kernel_rfl) (by kernel_rfl) (by kernel_rfl) (fun _ _ _ h => h) (by rfl) (by assumption) ?_
      simp only [Act.put, List.setIfInBounds_toArray, List.set_cons_zero, List.set_cons_succ]
      refine skipH 12 15 rfl rfl (by kernel_rfl) (by kernel_rfl) (by kernel_rfl) (fun _ _ _ h => h) (by rfl) (by assumption) ?_
      simp only [Act.put, List.setIfInBounds_toArray, List.set_cons_zero, List.set_cons_succ]
      refine takeH 13 16 (v := ?_) rfl rfl (by kernel_rfl) (by kernel_rfl) (by kernel_rfl) (fun _ _ _ h => h) (by rfl) ?_ (by assumption) ?_
      rotate_left
      · intro wx hSw
        try dsimp only at hSw
        go_simp
        with_reducible rfl
      simp only [Act.put, List.setIfInBounds_toArray, List.set_cons_zero, List.set_cons_succ]
      refine takeH 14 17 (v := ?_) rfl rfl (by kernel_rfl) (by kernel_rfl) (by kernel_rfl) (fun _ _ _ h => h) (by rfl) ?_ (by assumption) ?_
      rotate_left
      · intro wx hSw
        try dsimp only at hSw
        go_simp
        with_reducible rfl
      simp only [Act.put, List.setIfInBounds_toArray, List.set_cons_zero, List.set_cons_succ]
      refine skipH 15 18 rfl rfl (by kernel_rfl) (by kernel_rfl) (by kernel_rfl) (fun _ _ _ h => h) (by rfl) (by assumption) ?_
      simp only [Act.put, List.setIfInBounds_toArray, List.set_cons_zero, List.set_cons_succ]
      refine skipH 16 19 rfl rfl (by kernel_rfl) (by kernel_rfl) (by kernel_rfl) (fun _ _ _ h => h) (by rfl) (by assumption) ?_
      simp only [Act.put, List.setIfInBounds_toArray, List.set_cons_zero, List.set_cons_succ]
      refine skipH 17 20 rfl rfl (by kernel_rfl) (by kernel_rfl) (by kernel_rfl) (fun _ _ _ h => h) (by rfl) (by assumption) ?_
      simp only [Act.put, List.setIfInBounds_toArray, List.set_cons_zero, List.set_cons_succ]
      refine skipH 18 21 rfl rfl (by kernel_rfl) (by kernel_rfl) (by kernel_rfl) (fun _ _ _ h => h) (by rfl) (by assumption) ?_
      simp only [Act.put, List.setIfInBounds_toArray, List.set_cons_zero, List.set_cons_succ]
      refine skipH 19 22 rfl rfl (by kernel_rfl) (by kernel_rfl) (by kernel_rfl) (fun _ _ _ h => h) (by rfl) (by assumption) ?_
      simp only [Act.put, List.setIfInBounds_toArray, List.set_cons_zero, List.set_cons_succ]
      refine skipH 20 23 rfl rfl (by kernel_rfl) (by kernel_rfl) (by kernel_rfl) (fun _ _ _ h => h) (by rfl) (by assumption) ?_
      simp only [Act.put, List.setIfInBounds_toArray, List.set_cons_zero, List.set_cons_succ]
      refine skipH 21 24 rfl rfl (by kernel_rfl) (by kernel_rfl) (by kernel_rfl) (fun _ _ _ h => h) (by rfl) (by assumption) ?_
      simp only [Act.put, List.setIfInBounds_toArray, List.set_cons_zero, List.set_cons_succ]
      refine takeH 22 25 (v := ?_) rfl rfl (by kernel_rfl) (by kernel_rfl) (by kernel_rfl) (fun _ _ _ h => h) (by rfl) ?_ (by assumption) ?_
      rotate_left
      · intro wx hSw
        try dsimp only at hSw
        go_simp
        with_reducible rfl
      simp only [Act.put, List.setIfInBounds_toArray, List.set_cons_zero, List.set_cons_succ]
      refine takeH 23 2 (v := ?_) rfl rfl (by kernel_rfl) (by kernel_rfl) (by kernel_rfl) (fun _ _ _ h => h) (by rfl) ?_ (by assumption) ?_
      rotate_left
      · intro wx hSw
        try dsimp only at hSw
        go_simp
        with_reducible rfl
      simp only [Act.put, List.setIfInBounds_toArray, List.set_cons_zero, List.set_cons_succ]
      refine wpAnyH_done (by kernel_rfl) ?_ _
      go_wp2
      go_ret
      exact ⟨by rw [HE.out]; rfl, KK⟩
    · cases ht : togK ds ds.length
      · have HE : Hid (rightB ds t = false) := Lib.hid (by rw [rightB, ht]; simp)
        go_enter Tryz.func120, Tryz.ntmps120
        go_wp2
        refine wp_region_held_drew (S := (fun w' => w'.cell? ⟨w.heap.size, 0, none⟩ = some (.slice a ds.length (ds.length + c)) ∧ w'.cell? ⟨w.heap.size, 1, none⟩ = some (.int .i64 t))) (by kernel_rfl) ?_ (fun hHeld => ?_)
        · go_keep
        refine takeH 0 3 (v := ?_) rfl rfl (by kernel_rfl) (by kernel_rfl) (by kernel_rfl) (fun _ _ _ h => h) (by rfl) ?_ (by assumption) ?_
        rotate_left
        · intro wx hSw
          try dsimp only at hSw
          go_simp
          with_reducible rfl
        simp only [Act.put, List.setIfInBounds_toArray, List.set_cons_zero, List.set_cons_succ]
        refine takeH 1 4 (v := ?_) rfl rfl (by kernel_rfl) (by kernel_rfl) (by kernel_rfl) (fun _ _ _ h => h) (by rfl) ?_ (by assumption) ?_
        rotate_left
        · intro wx hSw
          try dsimp only at hSw
          go_simp
          with_reducible rfl
        simp only [Act.put, List.setIfInBounds_toArray, List.set_cons_zero, List.set_cons_succ]
        refine wpAnyH_ready (rs := [2]) (by kernel_rfl) (by simp) ?_
        refine AllReadyH.cons rfl (fun K hK => ?_) AllReadyH.nil
        go_simp
        refine (count_any _ _ _ _).mono ?_
        rintro e wz ⟨rfl, rfl⟩
        go_wp2_with fail
        refine hK.out _ _ ?_ (fun hHeld => ?_)
        · exact hHeld
        clear hK K
        refine takeH 3 6 (v := ?_) rfl rfl (by kernel_rfl) (by kernel_rfl) (by kernel_rfl) (fun _ _ _ h => h) (by rfl) ?_ (by assumption) ?_
        rotate_left
        · intro wx hSw
          try dsimp only at hSw
          go_simp
          with_reducible rfl
        simp only [Act.put, List.setIfInBounds_toArray, List.set_cons_zero, List.set_cons_succ]
        refine takeH 4 7 (v := ?_) rfl rfl (by kernel_rfl) (by kernel_rfl) (by kernel_rfl) (fun _ _ _ h => h) (by rfl) ?_ (by assumption) ?_
        rotate_left
        · intro wx hSw
          try dsimp only at hSw
          go_simp
          with_reducible rfl
        simp only [Act.put, List.setIfInBounds_toArray, List.set_cons_zero, List.set_cons_succ]
        refine takeH 5 8 (v := ?_) rfl rfl (by kernel_rfl) (by kernel_rfl) (by kernel_rfl) (fun _ _ _ h => h) (by rfl) ?_ (by assumption) ?_
        rotate_left
        · intro wx hSw
          try dsimp only at hSw
          go_simp
          with_reducible rfl
        simp only [Act.put, List.setIfInBounds_toArray, List.set_cons_zero, List.set_cons_succ]
        refine takeH 6 9 (v := ?_) rfl rfl (by kernel_rfl) (by kernel_rfl) (by kernel_rfl) (fun _ _ _ h => h) (by rfl) ?_ (by assumption) ?_
        rotate_left
        · intro wx hSw
          try dsimp only at hSw
          go_simp
          with_reducible rfl
        simp only [Act.put, List.setIfInBounds_toArray, List.set_cons_zero, List.set_cons_succ]
        refine wpAnyH_ready (rs := [7]) (by kernel_rfl) (by simp) ?_
        refine AllReadyH.cons rfl (fun K hK => ?_) AllReadyH.nil
        go_simp
        refine (areRight_any _ _ _ (h.keep KK) hx).mono ?_
        rw [ha]
        rintro e wz1 ⟨rfl, kk⟩
        have z0 := z1
        have KK := KK.trans kk
        have z1 := Nat.lt_of_lt_of_le z1 kk.size
        go_wp2_with fail
        refine hK.out _ _ ?_ (fun hHeld => ?_)
        · exact ⟨(kk.cell z0).trans hHeld.1, (kk.cell z0).trans hHeld.2⟩
        clear hK K
        refine takeH 8 11 (v := ?_) rfl rfl (by kernel_rfl) (by kernel_rfl) (by kernel_rfl) (fun _ _ _ h => h) (by rfl) ?_ (by assumption) ?_
        rotate_left
        · intro wx hSw
          try dsimp only at hSw
          go_simp
          with_reducible rfl
        simp only [Act.put, List.setIfInBounds_toArray, List.set_cons_zero, List.set_cons_succ]
        refine takeH 9 12 (v := ?_) rfl rfl (by kernel_rfl) (by kernel_rfl) (by kernel_rfl) (fun _ _ _ h => h) (by rfl) ?_ (by assumption) ?_
        rotate_left
        · intro wx hSw
          try dsimp only at hSw
          go_simp
          with_reducible rfl
        simp only [Act.put, List.setIfInBounds_toArray, List.set_cons_zero, List.set_cons_succ]
        refine takeH 10 13 (v := ?_) rfl rfl (by kernel_rfl) (by kernel_rfl) (by kernel_rfl) (fun _ _ _ h => h) (by rfl) ?_ (by assumption) ?_
        rotate_left
        · intro wx hSw
          try dsimp only at hSw
          go_simp
          with_reducible rfl
        simp only [Act.put, List.setIfInBounds_toArray, List.set_cons_zero, List.set_cons_succ]
        refine takeH 11 14 (v := ?_) rfl rfl (by kernel_rfl) (by kernel_rfl) (by kernel_rfl) (fun _ _ _ h => h) (by rfl) ?_ (by assumption) ?_
        rotate_left
        · intro wx hSw
          try dsimp only at hSw
          go_simp
          with_reducible rfl
        simp only [Act.put, List.setIfInBounds_toArray, List.set_cons_zero, List.set_cons_succ]
        refine wpAnyH_ready (rs := [12]) (by kernel_rfl) (by simp) ?_
        refine AllReadyH.cons rfl (fun K hK => ?_) AllReadyH.nil
        go_simp
        refine (areTogether_any _ _ _ (h.keep KK) hx).mono ?_
        rw [ht]
        rintro e wz2 ⟨rfl, kk⟩
        have z0 := z1
        have KK := KK.trans kk
        have z1 := Nat.lt_of_lt_of_le z1 kk.size
        go_wp2_with fail
        refine hK.out _ _ ?_ (fun hHeld => ?_)
        · exact ⟨(kk.cell z0).trans hHeld.1, (kk.cell z0).trans hHeld.2⟩
        clear hK K
        refine takeH 13 16 (v := ?_) rfl rfl (by kernel_rfl) (by kernel_rfl) (by kernel_rfl) (fun _ _ _ h => h) (by rfl) ?_ (by assumption) ?_
        rotate_left
        · intro wx hSw
          try dsimp only at hSw
          go_simp
          with_reducible rfl
        simp only [Act.put, List.setIfInBounds_toArray, List.set_cons_zero, List.set_cons_succ]
        refine takeH 14 17 (v := ?_) rfl rfl (by kernel_rfl) (by kernel_rfl) (by kernel_rfl) (fun _ _ _ h => h) (by rfl) ?_ (by assumption) ?_
        rotate_left
        · intro wx hSw
          try dsimp only at hSw
          go_simp
          with_reducible rfl
        simp only [Act.put, List.setIfInBounds_toArray, List.set_cons_zero, List.set_cons_succ]
        refine skipH 15 18 rfl rfl (by kernel_rfl) (by kernel_rfl) (by kernel_rfl) (fun _ _ _ h => h) (by rfl) (by assumption) ?_
        simp only [Act.put, List.setIfInBounds_toArray, List.set_cons_zero, List.set_cons_succ]
        refine skipH 16 19 rfl rfl (by kernel_rfl) (by kernel_rfl) (by kernel_rfl) (fun _ _ _ h => h) (by rfl) (by assumption) ?_
        simp only [Act.put, List.setIfInBounds_toArray, List.set_cons_zero, List.set_cons_succ]
        refine skipH 17 20 rfl rfl (by kernel_rfl) (by kernel_rfl) (by kernel_rfl) (fun _ _ _ h => h) (by rfl) (by assumption) ?_
        simp only [Act.put, List.setIfInBounds_toArray, List.set_cons_zero, List.set_cons_succ]
        refine skipH 18 21 rfl rfl (by kernel_rfl) (by kernel_rfl) (by kernel_rfl) (fun _ _ _ h => h) (by rfl) (by assumption) ?_
        simp only [Act.put, List.setIfInBounds_toArray, List.set_cons_zero, List.set_cons_succ]
        refine skipH 19 22 rfl rfl (by kernel_rfl) (by kernel_rfl) (by kernel_rfl) (fun _ _ _ h => h) (by rfl) (by assumption) ?_
        simp only [Act.put, List.setIfInBounds_toArray, List.set_cons_zero, List.set_cons_succ]
        refine skipH 20 23 rfl rfl (by kernel_rfl) (by kernel_rfl) (by kernel_rfl) (fun _ _ _ h => h) (by rfl) (by assumption) ?_
        simp only [Act.put, List.setIfInBounds_toArray, List.set_cons_zero, List.set_cons_succ]
        refine skipH 21 24 rfl rfl (by kernel_rfl) (by kernel_rfl) (by kernel_rfl) (fun _ _ _ h => h) (by rfl) (by assumption) ?_
        simp only [Act.put, List.setIfInBounds_toArray, List.set_cons_zero, List.set_cons_succ]
        refine takeH 22 25 (v := ?_) rfl rfl (by kernel_rfl) (by kernel_rfl) (by kernel_rfl) (fun _ _ _ h => h) (by rfl) ?_ (by assumption) ?_
        rotate_left
        · intro wx hSw
          try dsimp only at hSw
          go_simp
          with_reducible rfl
        simp only [Act.put, List.setIfInBounds_toArray, List.set_cons_zero, List.set_cons_succ]
        refine takeH 23 2 (v := ?_) rfl rfl (by kernel_rfl) (by kernel_rfl) (by kernel_rfl) (fun _ _ _ h => h) (by rfl) ?_ (by assumption) ?_
        rotate_left
        · intro wx hSw
          try dsimp only at hSw
          go_simp
          with_reducible rfl
        simp only [Act.put, List.setIfInBounds_toArray, List.set_cons_zero, List.set_cons_succ]
        refine wpAnyH_done (by kernel_rfl) ?_ _
        go_wp2
        go_ret
        exact ⟨by rw [HE.out]; rfl, KK⟩
      · cases h0 : (bits .and .i64 (gC ds) t == 0)
        · have HE : Hid (rightB ds t = false) := Lib.hid (by rw [rightB, h0]; simp)
          go_enter Tryz.func120, Tryz.ntmps120
          go_wp2
          go_region_held3 (fun w' => w'.cell? ⟨w.heap.size, 0, none⟩ = some (.slice a ds.length (ds.length + c)) ∧ w'.cell? ⟨w.heap.size, 1, none⟩ = some (.int .i64 t))
            (first | go_keep | (go_split_ands; refine ⟨?_, ?_⟩ <;> (rw [kk.cell (by assumption)]; assumption)))
            ((first
              | (go_at_call 121; refine (count_any _ _ _ _).mono ?_; rintro e wz ⟨rfl, rfl⟩)
              | (go_at_call 135; refine (areRight_any _ _ _ (h.keep KK) hx).mono ?_; rintro e wz ⟨rfl, kk⟩; have KK := KK.trans kk; have z1 := Nat.lt_of_lt_of_le z1 kk.size)
              | (go_at_call 136; refine (areTogether_any _ _ _ (h.keep KK) hx).mono ?_; rintro e wz ⟨rfl, kk⟩; have KK := KK.trans kk; have z1 := Nat.lt_of_lt_of_le z1 kk.size)
              | (go_at_call 124; refine (groups_any _ _ _ (h.keep KK) hx).mono ?_; rintro e wz ⟨rfl, kk⟩; have KK := KK.trans kk; have z1 := Nat.lt_of_lt_of_le z1 kk.size)
              | (go_at_call 137; refine (setAnd_bits _ _ _).mono ?_; rintro e wz ⟨rfl, rfl⟩)))
          all_goals
            go_wp2
            go_ret
            exact ⟨by rw [HE.out]; rfl, KK⟩
        · have HE : Hid (rightB ds t = true) := Lib.hid (right_true h5 ha ht h0)
          go_enter Tryz.func120, Tryz.ntmps120
          go_wp2
          go_region_held3 (fun w' => w'.cell? ⟨w.heap.size, 0, none⟩ = some (.slice a ds.length (ds.length + c)) ∧ w'.cell? ⟨w.heap.size, 1, none⟩ = some (.int .i64 t))
            (first | go_keep | (go_split_ands; refine ⟨?_, ?_⟩ <;> (rw [kk.cell (by assumption)]; assumption)))
            ((first
              | (go_at_call 121; refine (count_any _ _ _ _).mono ?_; rintro e wz ⟨rfl, rfl⟩)
              | (go_at_call 135; refine (areRight_any _ _ _ (h.keep KK) hx).mono ?_; rintro e wz ⟨rfl, kk⟩; have KK := KK.trans kk; have z1 := Nat.lt_of_lt_of_le z1 kk.size)
              | (go_at_call 136; refine (areTogether_any _ _ _ (h.keep KK) hx).mono ?_; rintro e wz ⟨rfl, kk⟩; have KK := KK.trans kk; have z1 := Nat.lt_of_lt_of_le z1 kk.size)
              | (go_at_call 124; refine (groups_any _ _ _ (h.keep KK) hx).mono ?_; rintro e wz ⟨rfl, kk⟩; have KK := KK.trans kk; have z1 := Nat.lt_of_lt_of_le z1 kk.size)
              | (go_at_call 137; refine (setAnd_bits _ _ _).mono ?_; rintro e wz ⟨rfl, rfl⟩)))
          all_goals
            go_wp2
            go_ret
            exact ⟨by rw [HE.out]; rfl, KK⟩
  · have e5 : decide (ds.length ≤ 5) = false := decide_eq_false h5
    have e5' : decide ((ds.length : Int) ≤ 5) = false := decide_eq_false (by omega)
    have HE : Hid (rightB ds t = false) := Lib.hid (by rw [rightB, e5]; rfl)
    go_enter Tryz.func120, Tryz.ntmps120
    go_wp2
    go_quiet ((go_at_call 121; exact Calls.quiet_of_same (count_any _ _ _ _)))
    go_wp2
    go_ret
    exact ⟨by rw [HE.out]; rfl, ((Keep.refl w).alloc _).drewN _⟩
end Go.Proofs.YtfmcnkjpgaapaaaGreat

/- Contract of the program's clerksOf: a new list of clerks, each with its deeds and the Groups of those ahead. -/
namespace Go.Proofs.YtfmcnkjpgaapaaaGreat
open Go.ChangeShapes Go.WideShapes Go.ChangeAt Go.RowKit

theorem Tryz.infoC : (Tryz.prog.info? 110).map (fun i => (i.zero, i.size, i.bytes)) = some (some (.agg #[.slice none 0 0, .int .i64 0]), 2, 32) := by kernel_rfl
abbrev boxC2 (v : Value) (t : Int) : Obj := .cells #[v, .int .i64 t] 110
/-- Clerks that can be read. -/
def RdC (w : World) (v : Value) (dss : List (List Dd)) : Prop :=
  ∃ (a : Option Addr) (cap : Nat), v = .slice a dss.length cap ∧
    (dss = [] ∨ ∃ b, a = some ⟨b, 0, none⟩ ∧ b < w.heap.size ∧ ∀ i, i < dss.length → ∃ vi, w.cell? ⟨b, i * 2, none⟩ = some vi ∧ RdD w vi (dss.getD i []) ∧ w.cell? ⟨b, i * 2 + 1, none⟩ = some (.int .i64 (takW dss i)))
theorem RdC.keep {w w' : World} {v : Value} {dss : List (List Dd)} (h : RdC w v dss) (k : Keep w w') : RdC w' v dss := by
  obtain ⟨a, cap, hv, h⟩ := h
  refine ⟨a, cap, hv, ?_⟩
  rcases h with h | ⟨b, ha, hb, hc⟩
  · exact .inl h
  · refine .inr ⟨b, ha, Nat.lt_of_lt_of_le hb k.size, fun i hi => ?_⟩
    obtain ⟨vi, h1, h2, h3⟩ := hc i hi
    exact ⟨vi, (k.cell hb).trans h1, h2.keep k, (k.cell hb).trans h3⟩
def cellC (V : Nat → Value) (dss : List (List Dd)) (k : Nat) : List Value := (List.range k).flatMap fun i => [V i, .int .i64 (takW dss i)]
theorem cellC_more (V : Nat → Value) (dss : List (List Dd)) (k : Nat) : cellC V dss (k + 1) = cellC V dss k ++ [V k, .int .i64 (takW dss k)] := by
  unfold cellC; rw [List.range_succ, List.flatMap_append]; simp
theorem cellC_len (V : Nat → Value) (dss : List (List Dd)) : ∀ k, (cellC V dss k).length = k * 2
  | 0 => rfl
  | k + 1 => by rw [cellC_more, List.length_append, cellC_len V dss k]; simp; omega
theorem cellC_at (V : Nat → Value) (dss : List (List Dd)) : ∀ k i, i < k → (cellC V dss k)[i * 2]? = some (V i) ∧ (cellC V dss k)[i * 2 + 1]? = some (.int .i64 (takW dss i))
  | 0, i, h => by omega
  | k + 1, i, h => by
    rw [cellC_more]
    by_cases e : i < k
    · have ih := cellC_at V dss k i e
      have hl := cellC_len V dss k
      rw [List.getElem?_append_left (by omega), List.getElem?_append_left (by omega)]
      exact ih
    · obtain rfl : i = k := by omega
      have hl := cellC_len V dss i
      rw [List.getElem?_append_right (by omega), List.getElem?_append_right (by omega), hl]
      simp
theorem rdC_of {w0 w : World} {base : Nat} {v : Value} {V : Nat → Value} {dss : List (List Dd)} (h : w.ownsRow base 110 2 v dss.length (cellC V dss dss.length)) (k : Keep w0 w) (hV : ∀ i, i < dss.length → RdD w0 (V i) (dss.getD i [])) : RdC w v dss := by
  have h2 := h
  have hlt := World.ownsRow.lt h
  rcases h.2 with ⟨rfl, hn⟩ | ⟨g, cap, cur, rfl, hb, hg, _, _, hs, _⟩
  · have : dss = [] := List.eq_nil_of_length_eq_zero hn
    subst this
    exact ⟨none, 0, rfl, .inl rfl⟩
  · refine ⟨_, _, rfl, .inr ⟨g, rfl, (hlt g rfl).2, fun i hi => ?_⟩⟩
    have hc := cellC_at V dss dss.length i hi
    have c1 := World.ownsRow.cellAt h2 (i * 2) (by omega)
    have c2 := World.ownsRow.cellAt h2 (i * 2 + 1) (by omega)
    exact ⟨V i, by rw [c1, hc.1], (hV i hi).keep k, by rw [c2, hc.2]⟩
set_option maxRecDepth 100000 in
set_option maxHeartbeats 4000000 in
theorem clerksOf_own (w0 w : World) (kw : Keep w0 w) (v : Value) (dss : List (List Dd)) (h : RdW w0 v dss) (hx : dss.length ≤ 3) (hm : ∀ i, i < dss.length → (dss.getD i []).length ≤ 1048576) :
    Calls Tryz.prog 96 #[v] w fun e w' => ∃ v', e = .returned v' ∧ (∃ V : Nat → Value, w'.ownsRow w.heap.size 110 2 v' dss.length (cellC V dss dss.length) ∧ ∀ i, i < dss.length → RdD w0 (V i) (dss.getD i [])) ∧ Keep w w' := by
  obtain ⟨a, c, rfl, h⟩ := h
  have start : (w.alloc (.cells #[] 110)).ownsRow w.heap.size 110 2 (.slice (some ⟨w.heap.size, 0, none⟩) 0 0) 0 [] := World.ownsRow_lit w #[] 0 (Nat.le_refl _) (by decide) rfl
  obtain ⟨i0, hi, hz0, hz1, hz2⟩ := info_parts Tryz.infoC
  obtain ⟨V, hV⟩ : ∃ V : Nat → Value, ∀ i, i < dss.length → RdD w0 (V i) (dss.getD i []) ∧ ∀ b o, a = some ⟨b, o, none⟩ → b < w0.heap.size ∧ w0.cell? ⟨b, o + i, none⟩ = some (V i) := by
    rcases h with h | ⟨b, o, rfl, hb, hc⟩
    · exact ⟨fun _ => Value.bool false, fun i hi => by rw [h] at hi; simp at hi⟩
    · obtain ⟨V, hV⟩ := Deep.choose_lt hc
      refine ⟨V, fun i hi => ⟨(hV i hi).2, fun b' o' e => ?_⟩⟩
      simp only [Option.some.injEq, Addr.mk.injEq, and_true] at e
      obtain ⟨rfl, rfl⟩ := e
      exact ⟨hb, (hV i hi).1⟩
  have hA : dss.length = 0 ∨ ∃ b o, a = some ⟨b, o, none⟩ := by
    rcases h with h | ⟨b, o, rfl, hb, hc⟩
    · left; rw [h]; rfl
    · exact .inr ⟨b, o, rfl⟩
  clear h
  go_enter Tryz.func96, Tryz.ntmps96
  go_wp2
  go_loopw [3, 4, 11] (fun x t i wr => ∃ k : Nat, k ≤ dss.length ∧ i = .int .i64 k ∧ t = .int .i64 (takW dss k) ∧ wr.ownsRow w.heap.size 110 2 x k (cellC V dss k) ∧ Keep w wr) (fun _ _ i _ => dss.length - (intOf i).toNat)
  case atStart => exact ⟨0, Nat.zero_le _, rfl, rfl, start, (Keep.refl w).alloc _⟩
  case round =>
    obtain ⟨k, hk, rfl, rfl, ho, hK⟩ := hrel
    clear start
    by_cases hlt : k < dss.length
    · obtain ⟨b, o, rfl⟩ : ∃ b o, a = some ⟨b, o, none⟩ := hA.resolve_left (by omega)
      obtain ⟨hR, hC⟩ := hV k hlt
      obtain ⟨hb, hC⟩ := hC b o rfl
      have hmk := hm k hlt
      have HM := Lib.hid (cellC_more V dss k)
      have HT : Hid (takW dss (k + 1) = bits .or .i64 (takW dss k) (gC (dss.getD k []))) := Lib.hid rfl
      have HV := Lib.hid hV
      clear hV hm hA
      obtain ⟨ds, hds⟩ : ∃ ds, ds = dss.getD k [] := ⟨_, rfl⟩
      rw [← hds] at hR hmk HT
      clear hds
      generalize takW dss k = t at HM HT
      have hK0 := kw.trans hK
      have d1 := (hK0.cell hb).trans hC
      have R1 := hR.keep hK0
      obtain ⟨u, hu⟩ : ∃ u, u = V k := ⟨_, rfl⟩
      rw [← hu] at d1 R1 HM
      have R0 := hR
      rw [← hu] at R0
      clear hu hC hR
      obtain ⟨ai, ci, rfl, -⟩ := id R1
      have hbw : b < wr.heap.size := Nat.lt_of_lt_of_le hb hK0.size
      have hsz := hK.size
      have i1 : (0 : Int) ≤ (k : Int) := Int.natCast_nonneg _
      have i2 : (k : Int) < (dss.length : Int) := by omega
      have ho2 := World.ownsRow.kept ho (((Keep.refl wr).alloc (boxC2 (.slice ai ds.length (ds.length + ci)) t)).alloc (.cells #[.slice ai ds.length (ds.length + ci), .int .i64 t] 110)).grownBy (by cases u3.ownBlock <;> simp)
      go_wp2_with (at_builtin; refine wpList_append_own_at _ rfl _ _ 106 rfl w.heap.size 110 i0 (.agg #[.slice none 0 0, .int .i64 0]) 2 32 Tryz.underlying106 hi hz0 hz1 hz2 rfl (by decide) _ _ _ rfl ho2 ⟨_, 0, none⟩ 1 1 [.slice ai ds.length (ds.length + ci), .int .i64 t] rfl rfl ?c1 ?c2 ?c3 ?c4 ?c5 ?_)
      case c1 =>
        intro j u hj
        match j, hj with
        | 0, hj => simp at hj; subst hj; simp [Addr.add]
        | 1, hj => simp at hj; subst hj; simp [Addr.add]
        | n + 2, hj => simp at hj
      case c2 => intro u hu; simp at hu; rcases hu with rfl | rfl <;> rfl
      case c3 => unfold maxLen; first | omega | (simp; omega)
      case c4 => first | omega | (simp; omega)
      case c5 => first | omega | (simp; omega)
      intro v' w2 hown' hgrow _ _
      rw [← HM.out] at hown'
      have hK2 : Keep w w2 := ((hK.alloc _).alloc _).grown hgrow (fun g hg => (World.ownsRow.lt ho g hg).1)
      have hbox : w2.heap[wr.heap.size]? = some (boxC2 (.slice ai ds.length (ds.length + ci)) t) :=
        (hgrow.block wr.heap.size (by rw [heap_size, heap_size]; omega) (fun e => by have := (World.ownsRow.lt ho _ e.symm).2; omega)).trans (by rw [heap_at, if_neg (by rw [heap_size]; omega), heap_at, if_pos rfl])
      have b0 : w2.cell? ⟨wr.heap.size, 0, none⟩ = some (.slice ai ds.length (ds.length + ci)) := by rw [cell_of_row w2 _ 0 _ _ (0, 0) hbox]; rfl
      have R2 := R0.keep (kw.trans hK2)
      clear hgrow hbox
      go_wp2_with fail
      refine (groups_any _ _ _ R2 hmk).mono ?_
      rintro e w3 ⟨rfl, k3⟩
      have ho3 := World.ownsRow.kept hown' k3.grownBy (by cases v'.ownBlock <;> simp)
      go_wp2_with fail
      refine (setOr_bits _ _ _).mono ?_
      rintro e w4 ⟨rfl, rfl⟩
      go_wp2
      go_roundw
      case rel => exact ⟨k + 1, by omega, by go_num, by rw [HT.out], ho3, hK2.trans k3⟩
      case measure => simp [intOf]; omega
    · obtain rfl : k = dss.length := by omega
      go_wp2
      go_ret
      exact ⟨_, rfl, ⟨V, ho, fun i hi => (hV i hi).1⟩, hK⟩
theorem clerksOf_any (w : World) (v : Value) (dss : List (List Dd)) (h : RdW w v dss) (hx : dss.length ≤ 3) (hm : ∀ i, i < dss.length → (dss.getD i []).length ≤ 1048576) :
    Calls Tryz.prog 96 #[v] w fun e w' => ∃ v', e = .returned v' ∧ RdC w' v' dss ∧ Keep w w' :=
  (clerksOf_own w w (Keep.refl w) v dss h hx hm).mono fun _ _ ⟨v', he, ⟨_, ho, hV⟩, hK⟩ => ⟨v', he, rdC_of ho hK hV, hK⟩
/-- The clerks lie in a block of their own, their deeds where they lay ahead of it. -/
def ClksAt (w0 wc w : World) (v : Value) (dss : List (List Dd)) : Prop :=
  ∃ (b c : Nat) (V : Nat → Value), v = .slice (some ⟨b, 0, none⟩) dss.length c ∧ wc.heap.size ≤ b ∧ b < w.heap.size ∧
    ∀ i, i < dss.length → RdD w0 (V i) (dss.getD i []) ∧ w.cell? ⟨b, i * 2, none⟩ = some (V i) ∧ w.cell? ⟨b, i * 2 + 1, none⟩ = some (.int .i64 (takW dss i))
theorem clerksOf_at (w0 w : World) (kw : Keep w0 w) (v : Value) (dss : List (List Dd)) (h : RdW w0 v dss) (h1 : 1 ≤ dss.length) (hx : dss.length ≤ 3) (hm : ∀ i, i < dss.length → (dss.getD i []).length ≤ 1048576) :
    Calls Tryz.prog 96 #[v] w fun e w' => ∃ v', e = .returned v' ∧ ClksAt w0 w w' v' dss ∧ Keep w w' := by
  refine (clerksOf_own w0 w kw v dss h hx hm).mono fun _ w' ⟨v', he, ⟨V, ho, hV⟩, hK⟩ => ⟨v', he, ?_, hK⟩
  have hlt := World.ownsRow.lt ho
  have h2 := ho
  rcases ho.2 with ⟨_, hn⟩ | ⟨g, cap, cur, rfl, hb, hg, _, _, hs, _⟩
  · omega
  · refine ⟨g, cap, V, rfl, hb, (hlt g rfl).2, fun i hi => ?_⟩
    have hc := cellC_at V dss dss.length i hi
    have c1 := World.ownsRow.cellAt h2 (i * 2) (by omega)
    have c2 := World.ownsRow.cellAt h2 (i * 2 + 1) (by omega)
    exact ⟨hV i hi, by rw [c1, hc.1], by rw [c2, hc.2]⟩
end Go.Proofs.YtfmcnkjpgaapaaaGreat

/- Contract of the program's WorkOk. -/
namespace Go.Proofs.YtfmcnkjpgaapaaaGreat
open Go.ChangeShapes Go.WideShapes Go.ChangeAt Go.RowKit

theorem lenW_moreC (d : List Dd) : ∀ l : List (List Dd), lenW (l ++ [d]) = lenW l + d.length
  | [] => by simp [lenW]
  | x :: r => by rw [List.cons_append, lenW, lenW, lenW_moreC d r]; omega
theorem take_moreC {α : Type} (l : List α) (k : Nat) (z : α) (h : k < l.length) : l.take (k + 1) = l.take k ++ [l.getD k z] := by
  rw [List.take_add_one, List.getElem?_eq_getElem h, List.getD_eq_getElem?_getD, List.getElem?_eq_getElem h]
  rfl
theorem rightB_len {ds : List Dd} {t : Int} (h : rightB ds t = true) : ds.length ≤ 5 := by
  simp only [rightB, Bool.and_eq_true, decide_eq_true_eq] at h
  exact h.1.1.1
set_option maxRecDepth 100000 in
set_option maxHeartbeats 4000000 in
theorem implWorkOk_any (w : World) (v : Value) (dss : List (List Dd)) (h : RdW w v dss) (hx : dss.length ≤ 1048576) (hm : ∀ i, i < dss.length → (dss.getD i []).length ≤ 1048576) :
    Calls Tryz.prog 93 #[v] w fun e w' => e = .returned (.bool (workB dss)) ∧ Keep w w' := by
  have RW := h
  obtain ⟨a, c, rfl, h⟩ := h
  clear h
  have HW := Lib.hid (work_rights dss)
  cases hb : inB (dss.length : Int) 1 3
  · have HE : Hid (workB dss = false) := by
      refine Lib.hid ?_
      simp [inB] at hb
      rw [HW.out, decide_eq_false (by omega)]
      rfl
    go_enter Tryz.func93, Tryz.ntmps93
    go_wp2_with (go_at_call 119; refine (isFrom_any _ _ _ _).mono ?_; rintro e w' ⟨rfl, rfl⟩)
    go_ret
    exact ⟨by rw [HE.out]; rfl, Keep.refl _⟩
  · have h13 : 1 ≤ dss.length ∧ dss.length ≤ 3 := by simp [inB] at hb; omega
    have HW2 : Hid (workB dss = (rightsW dss dss.length && decide (lenW dss ≤ 12) && decide (evW dss dss.length ≤ 6))) := Lib.hid (by rw [HW.out, decide_eq_true h13]; rfl)
    have h3 := h13.2
    clear h13 HW
    go_enter Tryz.func93, Tryz.ntmps93
    go_wp2_with fail
    refine (isFrom_any _ _ _ _).mono ?_
    rintro e w' ⟨rfl, rfl⟩
    go_wp2_with fail
    refine (clerksOf_any _ _ _ RW h3 hm).mono ?_
    rintro e w1 ⟨v1, rfl, rc, k1⟩
    clear hb RW
    obtain ⟨a1, c1, rfl, rc⟩ := rc
    go_wp2
    go_loopw [3, 4, 14] (fun n m i wr => ∃ k x : Nat, ∃ y : Int, k ≤ dss.length ∧ n = .int .i64 x ∧ m = .int .i64 y ∧ i = .int .i64 k ∧ Hid (x = lenW (dss.take k) ∧ y = evW dss k ∧ rightsW dss k = true) ∧ x ≤ 5 * k ∧ 0 ≤ y ∧ y ≤ 10 * k ∧ Keep w1 wr) (fun _ _ i _ => dss.length - (intOf i).toNat)
    case atStart => exact ⟨0, 0, 0, Nat.zero_le _, rfl, rfl, rfl, Lib.hid ⟨by simp [lenW], rfl, rfl⟩, by omega, by omega, by omega, Keep.refl _⟩
    case round =>
      obtain ⟨k, x, y, hk, rfl, rfl, rfl, hM, x5, y0, y1, hK⟩ := hrel
      by_cases hlt : k < dss.length
      · rcases rc with h | ⟨b, rfl, hb, hc⟩
        · exfalso; rw [h] at hlt; simp at hlt
        obtain ⟨vi, e1, r1, e2⟩ := hc k hlt
        have hmk := hm k hlt
        clear hc hm
        have HR : Hid (rightsW dss (k + 1) = (rightsW dss k && rightB (dss.getD k []) (takW dss k))) := Lib.hid rfl
        have HV : Hid (evW dss (k + 1) = evW dss k + evK (dss.getD k []) (dss.getD k []).length) := Lib.hid rfl
        have HN : Hid (lenW (dss.take (k + 1)) = lenW (dss.take k) + (dss.getD k []).length) := Lib.hid (by rw [take_moreC dss k [] hlt, lenW_moreC])
        obtain ⟨ds, hds⟩ : ∃ ds, ds = dss.getD k [] := ⟨_, rfl⟩
        rw [← hds] at r1 hmk HR HV HN
        clear hds
        generalize takW dss k = t at e2 HR
        have d1 := (hK.cell hb).trans e1
        have d2 := (hK.cell hb).trans e2
        have r1 := r1.keep hK
        obtain ⟨ai, ci, rfl, -⟩ := id r1
        have hbw : b < wr.heap.size := Nat.lt_of_lt_of_le hb hK.size
        have i1 : (0 : Int) ≤ (k : Int) := Int.natCast_nonneg _
        have i2 : (k : Int) < (dss.length : Int) := by omega
        clear e1 e2
        cases hr : rightB ds t
        · have HE : Hid (workB dss = false) := Lib.hid (by
            rw [HW2.out, rightsW_false (k := k + 1) (by rw [HR.out, hr]; simp) _ hlt]
            rfl)
          have HRR := Lib.hid hr
          clear hr
          go_wp2_with fail
          refine (isRight_any _ _ _ _ (r1.keep ((Keep.refl _).alloc _)) hmk).mono ?_
          rw [HRR.out]
          rintro e wz ⟨rfl, kk⟩
          go_wp2
          go_ret
          exact ⟨by rw [HE.out]; rfl, k1.trans ((hK.alloc _).trans kk)⟩
        · have l5 := rightB_len hr
          have HRR := Lib.hid hr
          have EK := evK_in ds ds.length
          clear hr
          go_wp2_with fail
          refine (isRight_any _ _ _ _ (r1.keep ((Keep.refl _).alloc _)) hmk).mono ?_
          rw [HRR.out]
          rintro e wz ⟨rfl, kk⟩
          have b0 : wz.cell? ⟨wr.heap.size, 0, none⟩ = some (.slice ai ds.length (ds.length + ci)) := box_cell kk 0
          have bs : wr.heap.size < wz.heap.size := box_size kk
          have r2 := r1.keep (((Keep.refl _).alloc _).trans kk)
          have hKz := (hK.alloc (.cells #[.slice ai ds.length (ds.length + ci), .int .i64 t] 110)).trans kk
          clear d1 d2 kk
          go_wp2_with fail
          refine (count_any _ _ _ _).mono ?_
          rintro e w3 ⟨rfl, rfl⟩
          go_wp2_with fail
          refine (events_any _ _ _ r2 hmk).mono ?_
          rintro e w4 ⟨rfl, k4⟩
          have HH : Hid (x + ds.length = lenW (dss.take (k + 1)) ∧ y + evK ds ds.length = evW dss (k + 1) ∧ rightsW dss (k + 1) = true) := Lib.hid ⟨by rw [HN.out, hM.out.1], by rw [HV.out, hM.out.2.1], by rw [HR.out, hM.out.2.2, HRR.out]; rfl⟩
          generalize evK ds ds.length = ev at EK HH
          go_wp2
          go_roundw
          case rel => exact ⟨k + 1, x + ds.length, y + ev, by omega, by go_num, by go_num, by go_num, HH, by omega, by omega, by omega, hKz.trans k4⟩
          case measure => simp [intOf]; omega
      · obtain rfl : k = dss.length := by omega
        rw [List.take_length] at hM
        have HE : Hid (workB dss = (decide (x ≤ 12) && decide (y ≤ 6))) := Lib.hid (by rw [HW2.out, hM.out.2.2, hM.out.1, hM.out.2.1]; rfl)
        clear hM HW2 rc hm
        by_cases h12 : x ≤ 12
        · have e12 : (x : Int) ≤ 12 := by omega
          by_cases h6 : y ≤ 6
          · go_wp2
            go_ret
            exact ⟨by rw [HE.out, decide_eq_true h12, decide_eq_true h6]; rfl, k1.trans hK⟩
          · have e6 : (6 : Int) < y := by omega
            go_wp2
            go_ret
            exact ⟨by rw [HE.out, decide_eq_true h12, decide_eq_false (show ¬ y ≤ 6 by omega)]; rfl, k1.trans hK⟩
        · have e12 : (12 : Int) < (x : Int) := by omega
          go_wp2
          go_ret
          exact ⟨by rw [HE.out, decide_eq_false (show ¬ x ≤ 12 by omega)]; rfl, k1.trans hK⟩
end Go.Proofs.YtfmcnkjpgaapaaaGreat

/- Contract of the program's EventsOf: the events of a right work, in order; of all else nothing. (Written by mkevi.py.) -/
namespace Go.Proofs.YtfmcnkjpgaapaaaGreat
open Go.ChangeShapes Go.WideShapes Go.ChangeAt Go.RowKit

theorem workB_useE {dss : List (List Dd)} (h : workB dss = true) : 1 ≤ dss.length ∧ dss.length ≤ 3 ∧ ∀ i, i < dss.length → okL (dss.getD i []) = true := by
  simp only [workB, Bool.and_eq_true, decide_eq_true_eq] at h
  obtain ⟨⟨⟨⟨h1, h2⟩, _⟩, _⟩, _⟩ := h
  exact ⟨h1.1, h1.2, fun i hi => all_get [] h2 i hi⟩
abbrev cO (v : Value) (t : Int) : Obj := .cells #[v, .int .i64 t] 110
abbrev dO (k p v g : Int) : Obj := .cells #[.int .i64 k, .int .i64 p, .int .i64 v, .int .i64 g] 82
set_option maxRecDepth 100000 in
set_option maxHeartbeats 8000000 in
theorem implEventsOf_any (w : World) (v : Value) (dss : List (List Dd)) (h : RdW w v dss) (hx : dss.length ≤ 1048576) (hm : ∀ i, i < dss.length → (dss.getD i []).length ≤ 1048576) :
    Calls Tryz.prog 63 #[v] w fun e w' => ∃ v', e = .returned v' ∧ AppE w' w.heap.size v' (eventsB dss) ∧ Keep w w' := by
  cases hb : workB dss
  · have HE : Hid (eventsB dss = []) := Lib.hid (by rw [eventsB, hb]; rfl)
    have O : ∀ w1 : World, Keep w w1 → AppE (w1.alloc (.cells #[] 39)) w.heap.size (.slice (some ⟨w1.heap.size, 0, none⟩) 0 0) [] := fun w1 k1 => World.ownsRow_lit w1 #[] 0 k1.size (by decide) (by simp)
    go_enter Tryz.func63, Tryz.ntmps63
    go_wp2_with fail
    refine (implWorkOk_any _ _ _ h hx hm).mono ?_
    rintro e w1 ⟨rfl, k1⟩
    go_wp2
    go_ret
    exact ⟨_, rfl, by rw [HE.out]; exact O w1 k1, k1.alloc _⟩
  · obtain ⟨h1, h3, u2⟩ := workB_useE hb
    have HE : Hid (eventsB dss = evsP dss dss.length) := Lib.hid (by rw [eventsB, if_pos hb, (evsP_same hb dss.length (Nat.le_refl _)).1])
    obtain ⟨j0, hj, hy0, hy1, hy2⟩ := info_parts Tryz.infoE
    go_enter Tryz.func63, Tryz.ntmps63
    go_wp2_with fail
    refine (implWorkOk_any _ _ _ h hx hm).mono ?_
    rintro e w0 ⟨rfl, k0⟩
    go_wp2_with fail
    refine (beginnings_any _).mono ?_
    rintro e w1 ⟨x1, rfl, a1, k1⟩
    go_wp2_with fail
    refine (clerksOf_at w _ (k0.trans k1) _ _ h h1 h3 hm).mono ?_
    rintro e w2 ⟨v2, rfl, rc, k2⟩
    have K01 : Keep w0 w2 := k1.trans k2
    have hsz0 := k0.size
    clear hb h hm hx
    obtain ⟨b, c1, V, rfl, hbl, hbu, hc⟩ := rc
    have HR : ∀ i, i < dss.length → RdD w (V i) (dss.getD i []) := fun i hi => (hc i hi).1
    obtain ⟨ob, hob⟩ : ∃ ob, w2.heap[b]? = some ob := ⟨_, Array.getElem?_eq_getElem hbu⟩
    have HC : ∀ wq : World, wq.heap[b]? = some ob → ∀ i, i < dss.length → wq.cell? ⟨b, i * 2, none⟩ = some (V i) ∧ wq.cell? ⟨b, i * 2 + 1, none⟩ = some (.int .i64 (takW dss i)) := fun wq hq i hi => by
      have e : wq.heap[b]? = w2.heap[b]? := hq.trans hob.symm
      have f : ∀ j, wq.cell? ⟨b, j, none⟩ = w2.cell? ⟨b, j, none⟩ := fun j => by simp only [World.cell?, e]
      exact ⟨(f _).trans (hc i hi).2.1, (f _).trans (hc i hi).2.2⟩
    clear hc
    have L0 : LP w0 w2 x1 evBeg [(b, ob)] := LP.add ⟨a1.keep k2, K01, by simp⟩ b ob (fun e => by have := (a1.lt _ e).2; omega) hob
    clear a1 hob hbl
    go_wp2
    go_loopw [3, 20] (fun x i wr => ∃ k : Nat, ∃ es : List Ev, k ≤ dss.length ∧ i = .int .i64 k ∧ Hid (es = evsP dss k) ∧ 1 ≤ es.length ∧ es.length ≤ 3 + 10 * k ∧ LP w0 wr x es [(b, ob)]) (fun _ i _ => dss.length - (intOf i).toNat)
    case atStart => exact ⟨0, evBeg, Nat.zero_le _, rfl, Lib.hid rfl, by decide, by decide, L0⟩
    case round =>
      clear L0 K01 k2 hbu
      obtain ⟨k, es, hk, rfl, hE, he1, hel, hL⟩ := hrel
      by_cases hlt : k < dss.length
      · have r1 := HR k hlt
        have hKw : Keep w wr := k0.trans hL.keep
        obtain ⟨d1, d2⟩ := HC wr (hL.held b ob (by simp)).2 k hlt
        have hbw := hL.lt (n := b) (o := ob) (by simp)
        have okk := u2 k hlt
        have HV : Hid (evsP dss (k + 1) = clkP k (dss.getD k []) es (dss.getD k []).length) := Lib.hid (by rw [evsP, hE.out])
        obtain ⟨ds, hds⟩ : ∃ ds, ds = dss.getD k [] := ⟨_, rfl⟩
        rw [← hds] at r1 okk HV
        clear hds
        generalize takW dss k = t at d2
        obtain ⟨u, hu⟩ : ∃ u, u = V k := ⟨_, rfl⟩
        rw [← hu] at d1 r1
        clear hu
        have R1 := r1
        obtain ⟨ai, ci, rfl, r1⟩ := r1
        have hl5 : ds.length ≤ 5 := by simp [okL] at okk; omega
        have i1 : (0 : Int) ≤ (k : Int) := Int.natCast_nonneg _
        have i2 : (k : Int) < (dss.length : Int) := by omega
        obtain ⟨wo, hwo⟩ : ∃ wo : World, wo = wr := ⟨_, rfl⟩
        subst hwo
        have L1 := hL.new (cO (.slice ai ds.length (ds.length + ci)) t)
        go_wp2
        go_loopw [3, 28] (fun x i wq => ∃ q : Nat, ∃ evs : List Ev, q ≤ ds.length ∧ i = .int .i64 q ∧ Hid (evs = clkP k ds es q) ∧ 1 ≤ evs.length ∧ evs.length ≤ 3 + 10 * k + 2 * q ∧ LP w0 wq x evs [(wo.heap.size, cO (.slice ai ds.length (ds.length + ci)) t), (b, ob)]) (fun _ i _ => ds.length - (intOf i).toNat)
        case atStart => exact ⟨0, es, Nat.zero_le _, rfl, Lib.hid rfl, he1, by omega, L1⟩
        case round =>
          clear L1 d1 d2
          obtain ⟨q, evs, hq, rfl, hC, hv1, hev, hI⟩ := hrel
          by_cases hlq : q < ds.length
          · have hKq : Keep w wr := k0.trans hI.keep
            have R2 := R1.keep hKq
            rcases r1 with h | ⟨b2, o2, rfl, hb2, hc2⟩
            · exfalso; rw [h] at hlq; simp at hlq
            have AT := (hc2 q hlq).keep hb2 hKq
            have okq : okD (ds.getD q zD) = true := by
              simp only [okL, Bool.and_eq_true] at okk
              exact all_get zD okk.1 q hlq
            clear hc2 okk
            have hb3 : b2 < wr.heap.size := Nat.lt_of_lt_of_le hb2 hKq.size
            have HST : Hid (clkP k ds es (q + 1) = evs ++ oneE k q (ds.getD q zD) (ncE evs (goB ds q))) := Lib.hid (by rw [clkP, hC.out])
            clear hC
            obtain ⟨d, hd⟩ : ∃ d, d = ds.getD q zD := ⟨_, rfl⟩
            rw [← hd] at AT okq HST
            clear hd
            have KD := okD_kindE okq
            obtain ⟨x0, x1, x2, x3⟩ := d
            obtain ⟨A0, A1, A2, A3⟩ := AT
            simp only at A0 A1 A2 A3 KD
            have j1 : (0 : Int) ≤ (q : Int) := Int.natCast_nonneg _
            have j2 : (q : Int) < (ds.length : Int) := by omega
            have z5 := hI.lt (n := wo.heap.size) (o := cO (.slice (some ⟨b2, o2, none⟩) ds.length (ds.length + ci)) t) (by simp)
            have c5 : wr.cell? ⟨wo.heap.size, 0, none⟩ = some (.slice (some ⟨b2, o2, none⟩) ds.length (ds.length + ci)) := (hI.held wo.heap.size (cO (.slice (some ⟨b2, o2, none⟩) ds.length (ds.length + ci)) t) (by simp)) |>.2 |> fun h => cell_of_row wr _ 0 _ _ (0, 0) h
            clear okq
            rcases KD with rfl | rfl | rfl | rfl
            · have HS : Hid (clkP k ds es (q + 1) = evs ++ oneE k q (1, x1, x2, x3) (ncE evs (goB ds q))) := HST
              clear HST
              have L2 := hI.new (dO 1 x1 x2 x3)
              have K2 : Keep wr (wr.alloc (dO 1 x1 x2 x3)) := (Keep.refl wr).alloc _
              have R3 := R2.keep K2
              go_wp2_with fail
              refine (goesOn_any _ _ _ R3 q hlq (by omega)).mono ?_
              rintro e w3 ⟨rfl, k3⟩
              have L3 := L2.more k3
              go_wp2_with fail
              refine (nextClass_any _ _ _ L3.app.rd (by omega) hv1 _).mono ?_
              generalize goB ds q = go at HS
              generalize hcl : ncE evs go = cl at HS
              clear hcl
              rintro e w4 ⟨rfl, k4⟩
              have L4 := L3.more k4
              have z7 := L4.lt (n := wr.heap.size) (o := dO 1 x1 x2 x3) (by simp)
              have s0 : w4.cell? ⟨wr.heap.size, 0, none⟩ = some (.int .i64 1) := L4.cell (n := wr.heap.size) (cs := #[.int .i64 1, .int .i64 x1, .int .i64 x2, .int .i64 x3]) (t := 82) (by simp) 0
              have s1 : w4.cell? ⟨wr.heap.size, 1, none⟩ = some (.int .i64 x1) := L4.cell (n := wr.heap.size) (cs := #[.int .i64 1, .int .i64 x1, .int .i64 x2, .int .i64 x3]) (t := 82) (by simp) 1
              have s2 : w4.cell? ⟨wr.heap.size, 2, none⟩ = some (.int .i64 x2) := L4.cell (n := wr.heap.size) (cs := #[.int .i64 1, .int .i64 x1, .int .i64 x2, .int .i64 x3]) (t := 82) (by simp) 2
              have s3 : w4.cell? ⟨wr.heap.size, 3, none⟩ = some (.int .i64 x3) := L4.cell (n := wr.heap.size) (cs := #[.int .i64 1, .int .i64 x1, .int .i64 x2, .int .i64 x3]) (t := 82) (by simp) 3
              clear A0 A1 A2 A3 c5 L2 L3 R3 K2
              go_wp2_with fail
              refine (shapes_rd _ _ _ _).mono ?_
              rintro e w5 ⟨B, rfl, hB, hBl, k5⟩
              have L5 := L4.later k5 hBl hB
              clear L4 s0 s1 s2 s3 z7 hI
              have z8 := L5.lt (n := B) (o := .cells #[rdV x1] 116) (by simp)
              have c6 : w5.cell? ⟨B, 0, none⟩ = some (rdV x1) := L5.cell (n := B) (cs := #[rdV x1]) (t := 116) (by simp) 0
              go_wp2
              refine wp_loop_rounds 2 ?_
              rw [rounds_succ]
              go_wp2_with fail
              refine (eventOf_rd _ _).mono ?_
              rintro e wa0 ⟨rfl, ka0⟩
              have La0 := L5.more ka0
              have Lb0 := (La0.more ((Keep.refl wa0).alloc (eO k q true x1 0 cl))).more ((Keep.refl _).alloc (eO k q true x1 0 cl))
              have hs0 : w0.heap.size ≤ wa0.heap.size := La0.keep.size
              go_wp2_with (at_builtin; refine wpList_append_own_at _ rfl _ _ 34 rfl w0.heap.size 39 j0 (.agg #[.int .i64 0, .int .i64 0, .bool false, .int .i64 0, .int .i64 0, .int .i64 0]) 6 48 Tryz.underlying34 hj hy0 hy1 hy2 rfl (by decide) _ _ _ rfl Lb0.app ⟨_, 0, none⟩ 1 1 (cE ((k : Int), (q : Int), true, x1, 0, cl)) rfl rfl ?c1_0 ?c2_0 ?c3_0 ?c4_0 ?c5_0 ?_)
              case c1_0 => exact cE_newP _ _ (heap_size _ _) _ _ _ _ _ _
              case c2_0 => exact cE_oneP _
              case c3_0 => unfold maxLen; first | omega | (simp; omega)
              case c4_0 => first | omega | (simp; omega)
              case c5_0 => first | omega | (simp; omega)
              intro v0' wb0 hown' hgrow _ hblk
              have Lc0 := Lb0.hit _ hown' hgrow (by rw [heap_size, heap_size]; exact hblk)
              clear hgrow hown' hblk Lb0 La0 L5
              go_wp2
              rw [rounds_succ]
              go_wp2
              go_roundw
              case rel => exact ⟨q + 1, _, by omega, by go_num, Lib.hid (by rw [HS.out]; simp [oneE]), by first | omega | (simp <;> omega), by first | omega | (simp <;> omega), Lc0.less (fun y hy => by simp only [List.mem_cons, List.not_mem_nil, or_false] at hy ⊢; rcases hy with rfl | rfl <;> simp)⟩
              case measure => simp [intOf]; omega
            · have HS : Hid (clkP k ds es (q + 1) = evs ++ oneE k q (2, x1, x2, x3) (ncE evs (goB ds q))) := HST
              clear HST
              have L2 := hI.new (dO 2 x1 x2 x3)
              have K2 : Keep wr (wr.alloc (dO 2 x1 x2 x3)) := (Keep.refl wr).alloc _
              have R3 := R2.keep K2
              go_wp2_with fail
              refine (goesOn_any _ _ _ R3 q hlq (by omega)).mono ?_
              rintro e w3 ⟨rfl, k3⟩
              have L3 := L2.more k3
              go_wp2_with fail
              refine (nextClass_any _ _ _ L3.app.rd (by omega) hv1 _).mono ?_
              generalize goB ds q = go at HS
              generalize hcl : ncE evs go = cl at HS
              clear hcl
              rintro e w4 ⟨rfl, k4⟩
              have L4 := L3.more k4
              have z7 := L4.lt (n := wr.heap.size) (o := dO 2 x1 x2 x3) (by simp)
              have s0 : w4.cell? ⟨wr.heap.size, 0, none⟩ = some (.int .i64 2) := L4.cell (n := wr.heap.size) (cs := #[.int .i64 2, .int .i64 x1, .int .i64 x2, .int .i64 x3]) (t := 82) (by simp) 0
              have s1 : w4.cell? ⟨wr.heap.size, 1, none⟩ = some (.int .i64 x1) := L4.cell (n := wr.heap.size) (cs := #[.int .i64 2, .int .i64 x1, .int .i64 x2, .int .i64 x3]) (t := 82) (by simp) 1
              have s2 : w4.cell? ⟨wr.heap.size, 2, none⟩ = some (.int .i64 x2) := L4.cell (n := wr.heap.size) (cs := #[.int .i64 2, .int .i64 x1, .int .i64 x2, .int .i64 x3]) (t := 82) (by simp) 2
              have s3 : w4.cell? ⟨wr.heap.size, 3, none⟩ = some (.int .i64 x3) := L4.cell (n := wr.heap.size) (cs := #[.int .i64 2, .int .i64 x1, .int .i64 x2, .int .i64 x3]) (t := 82) (by simp) 3
              clear A0 A1 A2 A3 c5 L2 L3 R3 K2
              go_wp2_with fail
              refine (shapes_wr _ _ _ _).mono ?_
              rintro e w5 ⟨B, rfl, hB, hBl, k5⟩
              have L5 := L4.later k5 hBl hB
              clear L4 s0 s1 s2 s3 z7 hI
              have z8 := L5.lt (n := B) (o := .cells #[wrV x1 x2] 116) (by simp)
              have c6 : w5.cell? ⟨B, 0, none⟩ = some (wrV x1 x2) := L5.cell (n := B) (cs := #[wrV x1 x2]) (t := 116) (by simp) 0
              go_wp2
              refine wp_loop_rounds 2 ?_
              rw [rounds_succ]
              go_wp2_with fail
              refine (eventOf_wr _ _ _).mono ?_
              rintro e wa0 ⟨rfl, ka0⟩
              have La0 := L5.more ka0
              have Lb0 := (La0.more ((Keep.refl wa0).alloc (eO k q false x1 x2 cl))).more ((Keep.refl _).alloc (eO k q false x1 x2 cl))
              have hs0 : w0.heap.size ≤ wa0.heap.size := La0.keep.size
              go_wp2_with (at_builtin; refine wpList_append_own_at _ rfl _ _ 34 rfl w0.heap.size 39 j0 (.agg #[.int .i64 0, .int .i64 0, .bool false, .int .i64 0, .int .i64 0, .int .i64 0]) 6 48 Tryz.underlying34 hj hy0 hy1 hy2 rfl (by decide) _ _ _ rfl Lb0.app ⟨_, 0, none⟩ 1 1 (cE ((k : Int), (q : Int), false, x1, x2, cl)) rfl rfl ?c1_0 ?c2_0 ?c3_0 ?c4_0 ?c5_0 ?_)
              case c1_0 => exact cE_newP _ _ (heap_size _ _) _ _ _ _ _ _
              case c2_0 => exact cE_oneP _
              case c3_0 => unfold maxLen; first | omega | (simp; omega)
              case c4_0 => first | omega | (simp; omega)
              case c5_0 => first | omega | (simp; omega)
              intro v0' wb0 hown' hgrow _ hblk
              have Lc0 := Lb0.hit _ hown' hgrow (by rw [heap_size, heap_size]; exact hblk)
              clear hgrow hown' hblk Lb0 La0 L5
              go_wp2
              rw [rounds_succ]
              go_wp2
              go_roundw
              case rel => exact ⟨q + 1, _, by omega, by go_num, Lib.hid (by rw [HS.out]; simp [oneE]), by first | omega | (simp <;> omega), by first | omega | (simp <;> omega), Lc0.less (fun y hy => by simp only [List.mem_cons, List.not_mem_nil, or_false] at hy ⊢; rcases hy with rfl | rfl <;> simp)⟩
              case measure => simp [intOf]; omega
            · have HS : Hid (clkP k ds es (q + 1) = evs ++ oneE k q (3, x1, x2, x3) (ncE evs (goB ds q))) := HST
              clear HST
              have L2 := hI.new (dO 3 x1 x2 x3)
              have K2 : Keep wr (wr.alloc (dO 3 x1 x2 x3)) := (Keep.refl wr).alloc _
              have R3 := R2.keep K2
              go_wp2_with fail
              refine (goesOn_any _ _ _ R3 q hlq (by omega)).mono ?_
              rintro e w3 ⟨rfl, k3⟩
              have L3 := L2.more k3
              go_wp2_with fail
              refine (nextClass_any _ _ _ L3.app.rd (by omega) hv1 _).mono ?_
              generalize goB ds q = go at HS
              generalize hcl : ncE evs go = cl at HS
              clear hcl
              rintro e w4 ⟨rfl, k4⟩
              have L4 := L3.more k4
              have z7 := L4.lt (n := wr.heap.size) (o := dO 3 x1 x2 x3) (by simp)
              have s0 : w4.cell? ⟨wr.heap.size, 0, none⟩ = some (.int .i64 3) := L4.cell (n := wr.heap.size) (cs := #[.int .i64 3, .int .i64 x1, .int .i64 x2, .int .i64 x3]) (t := 82) (by simp) 0
              have s1 : w4.cell? ⟨wr.heap.size, 1, none⟩ = some (.int .i64 x1) := L4.cell (n := wr.heap.size) (cs := #[.int .i64 3, .int .i64 x1, .int .i64 x2, .int .i64 x3]) (t := 82) (by simp) 1
              have s2 : w4.cell? ⟨wr.heap.size, 2, none⟩ = some (.int .i64 x2) := L4.cell (n := wr.heap.size) (cs := #[.int .i64 3, .int .i64 x1, .int .i64 x2, .int .i64 x3]) (t := 82) (by simp) 2
              have s3 : w4.cell? ⟨wr.heap.size, 3, none⟩ = some (.int .i64 x3) := L4.cell (n := wr.heap.size) (cs := #[.int .i64 3, .int .i64 x1, .int .i64 x2, .int .i64 x3]) (t := 82) (by simp) 3
              clear A0 A1 A2 A3 c5 L2 L3 R3 K2
              go_wp2_with fail
              refine (shapes_sw _ _ _ _).mono ?_
              rintro e w5 ⟨B, rfl, hB, hBl, k5⟩
              have L5 := L4.later k5 hBl hB
              clear L4 s0 s1 s2 s3 z7 hI
              have z8 := L5.lt (n := B) (o := .cells #[rdV x1, wrV x1 x2] 116) (by simp)
              have c6 : w5.cell? ⟨B, 0, none⟩ = some (rdV x1) := L5.cell (n := B) (cs := #[rdV x1, wrV x1 x2]) (t := 116) (by simp) 0
              have c7 : w5.cell? ⟨B, 1, none⟩ = some (wrV x1 x2) := L5.cell (n := B) (cs := #[rdV x1, wrV x1 x2]) (t := 116) (by simp) 1
              go_wp2
              refine wp_loop_rounds 3 ?_
              rw [rounds_succ]
              go_wp2_with fail
              refine (eventOf_rd _ _).mono ?_
              rintro e wa0 ⟨rfl, ka0⟩
              have La0 := L5.more ka0
              have Lb0 := (La0.more ((Keep.refl wa0).alloc (eO k q true x1 0 cl))).more ((Keep.refl _).alloc (eO k q true x1 0 cl))
              have hs0 : w0.heap.size ≤ wa0.heap.size := La0.keep.size
              go_wp2_with (at_builtin; refine wpList_append_own_at _ rfl _ _ 34 rfl w0.heap.size 39 j0 (.agg #[.int .i64 0, .int .i64 0, .bool false, .int .i64 0, .int .i64 0, .int .i64 0]) 6 48 Tryz.underlying34 hj hy0 hy1 hy2 rfl (by decide) _ _ _ rfl Lb0.app ⟨_, 0, none⟩ 1 1 (cE ((k : Int), (q : Int), true, x1, 0, cl)) rfl rfl ?c1_0 ?c2_0 ?c3_0 ?c4_0 ?c5_0 ?_)
              case c1_0 => exact cE_newP _ _ (heap_size _ _) _ _ _ _ _ _
              case c2_0 => exact cE_oneP _
              case c3_0 => unfold maxLen; first | omega | (simp; omega)
              case c4_0 => first | omega | (simp; omega)
              case c5_0 => first | omega | (simp; omega)
              intro v0' wb0 hown' hgrow _ hblk
              have Lc0 := Lb0.hit _ hown' hgrow (by rw [heap_size, heap_size]; exact hblk)
              clear hgrow hown' hblk Lb0 La0 L5
              obtain ⟨ev1, hev1⟩ : ∃ ev1, ev1 = evs ++ [((k : Int), (q : Int), true, x1, 0, cl)] := ⟨_, rfl⟩
              rw [← hev1] at Lc0
              have HV1 := Lib.hid hev1
              have hl1 : ev1.length ≤ evs.length + 1 := by rw [hev1]; simp
              clear hev1
              clear c6 c7 z8
              have z8 := Lc0.lt (n := B) (o := .cells #[rdV x1, wrV x1 x2] 116) (by simp)
              have c7 : wb0.cell? ⟨B, 1, none⟩ = some (wrV x1 x2) := Lc0.cell (n := B) (cs := #[rdV x1, wrV x1 x2]) (t := 116) (by simp) 1
              go_wp2
              rw [rounds_succ]
              go_wp2_with fail
              refine (eventOf_wr _ _ _).mono ?_
              rintro e wa1 ⟨rfl, ka1⟩
              have La1 := Lc0.more ka1
              have Lb1 := (La1.more ((Keep.refl wa1).alloc (eO k q false x1 x2 cl))).more ((Keep.refl _).alloc (eO k q false x1 x2 cl))
              have hs1 : w0.heap.size ≤ wa1.heap.size := La1.keep.size
              go_wp2_with (at_builtin; refine wpList_append_own_at _ rfl _ _ 34 rfl w0.heap.size 39 j0 (.agg #[.int .i64 0, .int .i64 0, .bool false, .int .i64 0, .int .i64 0, .int .i64 0]) 6 48 Tryz.underlying34 hj hy0 hy1 hy2 rfl (by decide) _ _ _ rfl Lb1.app ⟨_, 0, none⟩ 1 1 (cE ((k : Int), (q : Int), false, x1, x2, cl)) rfl rfl ?c1_1 ?c2_1 ?c3_1 ?c4_1 ?c5_1 ?_)
              case c1_1 => exact cE_newP _ _ (heap_size _ _) _ _ _ _ _ _
              case c2_1 => exact cE_oneP _
              case c3_1 => unfold maxLen; first | omega | (simp; omega)
              case c4_1 => first | omega | (simp; omega)
              case c5_1 => first | omega | (simp; omega)
              intro v1' wb1 hown' hgrow _ hblk
              have Lc1 := Lb1.hit _ hown' hgrow (by rw [heap_size, heap_size]; exact hblk)
              clear hgrow hown' hblk Lb1 La1 Lc0
              go_wp2
              rw [rounds_succ]
              go_wp2
              go_roundw
              case rel => exact ⟨q + 1, _, by omega, by go_num, Lib.hid (by rw [HS.out, HV1.out]; simp [oneE]), by first | omega | (simp <;> omega), by first | omega | (simp <;> omega), Lc1.less (fun y hy => by simp only [List.mem_cons, List.not_mem_nil, or_false] at hy ⊢; rcases hy with rfl | rfl <;> simp)⟩
              case measure => simp [intOf]; omega
            · have HS : Hid (clkP k ds es (q + 1) = evs ++ oneE k q (4, x1, x2, x3) (ncE evs (goB ds q))) := HST
              clear HST
              have L2 := hI.new (dO 4 x1 x2 x3)
              have K2 : Keep wr (wr.alloc (dO 4 x1 x2 x3)) := (Keep.refl wr).alloc _
              have R3 := R2.keep K2
              go_wp2_with fail
              refine (goesOn_any _ _ _ R3 q hlq (by omega)).mono ?_
              rintro e w3 ⟨rfl, k3⟩
              have L3 := L2.more k3
              go_wp2_with fail
              refine (nextClass_any _ _ _ L3.app.rd (by omega) hv1 _).mono ?_
              generalize goB ds q = go at HS
              generalize hcl : ncE evs go = cl at HS
              clear hcl
              rintro e w4 ⟨rfl, k4⟩
              have L4 := L3.more k4
              have z7 := L4.lt (n := wr.heap.size) (o := dO 4 x1 x2 x3) (by simp)
              have s0 : w4.cell? ⟨wr.heap.size, 0, none⟩ = some (.int .i64 4) := L4.cell (n := wr.heap.size) (cs := #[.int .i64 4, .int .i64 x1, .int .i64 x2, .int .i64 x3]) (t := 82) (by simp) 0
              have s1 : w4.cell? ⟨wr.heap.size, 1, none⟩ = some (.int .i64 x1) := L4.cell (n := wr.heap.size) (cs := #[.int .i64 4, .int .i64 x1, .int .i64 x2, .int .i64 x3]) (t := 82) (by simp) 1
              have s2 : w4.cell? ⟨wr.heap.size, 2, none⟩ = some (.int .i64 x2) := L4.cell (n := wr.heap.size) (cs := #[.int .i64 4, .int .i64 x1, .int .i64 x2, .int .i64 x3]) (t := 82) (by simp) 2
              have s3 : w4.cell? ⟨wr.heap.size, 3, none⟩ = some (.int .i64 x3) := L4.cell (n := wr.heap.size) (cs := #[.int .i64 4, .int .i64 x1, .int .i64 x2, .int .i64 x3]) (t := 82) (by simp) 3
              clear A0 A1 A2 A3 c5 L2 L3 R3 K2
              go_wp2_with fail
              refine (shapes_wa _ _ _ _).mono ?_
              rintro e w5 ⟨B, rfl, hB, hBl, k5⟩
              have L5 := L4.later k5 hBl hB
              clear L4 s0 s1 s2 s3 z7 hI
              have z8 := L5.lt (n := B) (o := .cells #[] 116) (by simp)
              go_wp2
              refine wp_loop_rounds 1 ?_
              rw [rounds_succ]
              go_wp2
              go_roundw
              case rel => exact ⟨q + 1, _, by omega, by go_num, Lib.hid (by rw [HS.out]; simp [oneE]), by first | omega | (simp <;> omega), by first | omega | (simp <;> omega), L5.less (fun y hy => by simp only [List.mem_cons, List.not_mem_nil, or_false] at hy ⊢; rcases hy with rfl | rfl <;> simp)⟩
              case measure => simp [intOf]; omega
          · obtain rfl : q = ds.length := by omega
            go_wp2
            go_roundw
            case rel => exact ⟨k + 1, evs, by omega, by go_num, Lib.hid (by rw [HV.out]; exact hC.out), hv1, by omega, hI.less (fun y hy => by simp only [List.mem_cons, List.not_mem_nil, or_false] at hy ⊢; subst hy; simp)⟩
            case measure => simp [intOf]; omega
      · obtain rfl : k = dss.length := by omega
        go_wp2
        go_ret
        exact ⟨_, rfl, by rw [HE.out, ← hE.out]; exact app_base hL.app hsz0, k0.trans hL.keep⟩
end Go.Proofs.YtfmcnkjpgaapaaaGreat

/- Works in memory of one's own: lists of deeds in blocks, what turns them, what leaves them. -/
namespace Go.Proofs.YtfmcnkjpgaapaaaGreat
open Go.ChangeShapes Go.WideShapes Go.ChangeAt Go.RowKit

theorem Tryz.infoD : (Tryz.prog.info? 82).map (fun i => (i.zero, i.size, i.bytes)) = some (some (.agg #[.int .i64 0, .int .i64 0, .int .i64 0, .int .i64 0]), 4, 32) := by kernel_rfl
/-- Block g is a plain row of at least n cells. -/
def Blk (w : World) (g n : Nat) : Prop := ∃ cur t, w.heap[g]? = some (.cells cur t (0, 0)) ∧ n ≤ cur.size
theorem Blk.free {w : World} {g n : Nat} (h : Blk w g n) (i : Nat) : w.frozen? ⟨g, i, none⟩ = false := by
  obtain ⟨cur, t, h, _⟩ := h
  exact frozen_of_row w g i cur t h
theorem Blk.cell {w : World} {g n : Nat} (h : Blk w g n) {i : Nat} (hi : i < n) : ∃ u, w.cell? ⟨g, i, none⟩ = some u := by
  obtain ⟨cur, t, h, hn⟩ := h
  exact ⟨cur[i]'(by omega), by rw [cell_of_row w g i cur t (0, 0) h, Array.getElem?_eq_getElem (by omega)]⟩
theorem Blk.lt {w : World} {g n : Nat} (h : Blk w g n) : g < w.heap.size := by
  obtain ⟨cur, t, h, _⟩ := h
  exact (Array.getElem?_eq_some_iff.1 h).1
theorem Blk.set {w : World} {g n : Nat} (h : Blk w g n) (i : Nat) (x : Value) : Blk (w.setCell ⟨g, i, none⟩ x) g n := by
  obtain ⟨cur, t, h, hn⟩ := h
  exact ⟨cur.setIfInBounds i x, t, heap_setCell_same w g i cur t x h, by simpa using hn⟩
theorem Blk.kept {w w' : World} {g n : Nat} {row : Option Nat} (h : Blk w g n) (hg : w.grownBy w' row) (hne : row ≠ some g) : Blk w' g n := by
  have hl := h.lt
  obtain ⟨cur, t, h, hn⟩ := h
  exact ⟨cur, t, (hg.block g hl (fun e => hne e.symm)).trans h, hn⟩
/-- A list of deeds in a block of one's own. -/
def OwnD (w : World) (base : Nat) (v : Value) (ds : List Dd) : Prop :=
  ∃ (a : Option Addr) (cap : Nat), v = .slice a ds.length (ds.length + cap) ∧ (ds = [] ∨ ∃ g, a = some ⟨g, 0, none⟩ ∧ base ≤ g ∧ Blk w g (ds.length * 4) ∧ ∀ i, i < ds.length → AtD w g (i * 4) (ds.getD i zD))
theorem OwnD.rd {w : World} {base : Nat} {v : Value} {ds : List Dd} (h : OwnD w base v ds) : RdD w v ds := by
  obtain ⟨a, cap, hv, h⟩ := h
  refine ⟨a, cap, hv, ?_⟩
  rcases h with h | ⟨g, ha, _, hb, hc⟩
  · exact .inl h
  · exact .inr ⟨g, 0, ha, hb.lt, fun i hi => by rw [Nat.zero_add]; exact hc i hi⟩
theorem putD {w : World} {g o : Nat} {d : Dd} {b' o' : Nat} {d' : Dd} (h : AtD w b' o' d') (hne : b' ≠ g ∨ o' + 4 ≤ o ∨ o + 4 ≤ o') :
    AtD ((((w.setCell ⟨g, o, none⟩ (.int .i64 d.1)).setCell ⟨g, o + 1, none⟩ (.int .i64 d.2.1)).setCell ⟨g, o + 2, none⟩ (.int .i64 d.2.2.1)).setCell ⟨g, o + 3, none⟩ (.int .i64 d.2.2.2)) b' o' d' := by
  have key : ∀ (w : World) (j : Nat) (x : Value) (q : Nat), q < o' + 4 → o' ≤ q → o ≤ j → j < o + 4 → (w.setCell ⟨g, j, none⟩ x).cell? ⟨b', q, none⟩ = w.cell? ⟨b', q, none⟩ := by
    intro w j x q h1 h2 h3 h4
    refine World.cell?_setCell_other _ _ _ _ (fun e => ?_)
    have e1 : g = b' ∧ j = q := by simpa using e
    omega
  unfold AtD at *
  refine ⟨?_, ?_, ?_, ?_⟩
  all_goals
    rw [key _ _ _ _ (by omega) (by omega) (by omega) (by omega), key _ _ _ _ (by omega) (by omega) (by omega) (by omega), key _ _ _ _ (by omega) (by omega) (by omega) (by omega), key _ _ _ _ (by omega) (by omega) (by omega) (by omega)]
  · exact h.1
  · exact h.2.1
  · exact h.2.2.1
  · exact h.2.2.2
theorem putD_same {w : World} {g o n : Nat} {d : Dd} (hb : Blk w g n) (ho : o + 4 ≤ n) :
    AtD ((((w.setCell ⟨g, o, none⟩ (.int .i64 d.1)).setCell ⟨g, o + 1, none⟩ (.int .i64 d.2.1)).setCell ⟨g, o + 2, none⟩ (.int .i64 d.2.2.1)).setCell ⟨g, o + 3, none⟩ (.int .i64 d.2.2.2)) g o d := by
  have oth : ∀ (w : World) (j q : Nat) (x : Value), j ≠ q → (w.setCell ⟨g, j, none⟩ x).cell? ⟨g, q, none⟩ = w.cell? ⟨g, q, none⟩ := by
    intro w j q x h
    exact World.cell?_setCell_other _ _ _ _ (by intro e; apply h; injection e)
  have h1 := hb.set o (.int .i64 d.1)
  have h2 := h1.set (o + 1) (.int .i64 d.2.1)
  have h3 := h2.set (o + 2) (.int .i64 d.2.2.1)
  obtain ⟨u0, e0⟩ := hb.cell (show o < n by omega)
  obtain ⟨u1, e1⟩ := h1.cell (show o + 1 < n by omega)
  obtain ⟨u2, e2⟩ := h2.cell (show o + 2 < n by omega)
  obtain ⟨u3, e3⟩ := h3.cell (show o + 3 < n by omega)
  refine ⟨?_, ?_, ?_, ?_⟩
  · rw [oth _ _ _ _ (by omega), oth _ _ _ _ (by omega), oth _ _ _ _ (by omega), World.cell?_setCell_same _ _ _ e0]
  · rw [oth _ _ _ _ (by omega), oth _ _ _ _ (by omega), World.cell?_setCell_same _ _ _ e1]
  · rw [oth _ _ _ _ (by omega), World.cell?_setCell_same _ _ _ e2]
  · rw [World.cell?_setCell_same _ _ _ e3]
theorem Blk.ofOwn {w : World} {base e size g n : Nat} {xs : List Value} (h : w.ownsRow base e size (.slice (some ⟨g, 0, none⟩) n n) n xs) : Blk w g (n * size) := by
  rcases h.2 with ⟨hv, _⟩ | ⟨g', cap, cur, hv, _, hg, _, _, hs, _⟩
  · cases hv
  · simp only [Value.slice.injEq, Option.some.injEq, Addr.mk.injEq, and_true, true_and] at hv
    obtain ⟨rfl, rfl⟩ := hv
    exact ⟨cur, e, hg, by rw [hs]; exact Nat.le_refl _⟩
theorem OwnD.keep {w w' : World} {base : Nat} {v : Value} {ds : List Dd} (h : OwnD w base v ds) (k : Keep w w') : OwnD w' base v ds := by
  obtain ⟨a, cap, hv, h⟩ := h
  refine ⟨a, cap, hv, ?_⟩
  rcases h with h | ⟨g, ha, hb, hB, hc⟩
  · exact .inl h
  · exact .inr ⟨g, ha, hb, hB.kept k.grownBy (by simp), fun i hi => (hc i hi).keep hB.lt k⟩
theorem OwnD.kept {w w' : World} {base : Nat} {v : Value} {ds : List Dd} {row : Option Nat} (h : OwnD w base v ds) (hg : w.grownBy w' row) (hne : ds = [] ∨ v.ownBlock ≠ row) : OwnD w' base v ds := by
  obtain ⟨a, cap, rfl, h⟩ := h
  refine ⟨a, cap, rfl, ?_⟩
  rcases h with h | ⟨g, rfl, hb, hB, hc⟩
  · exact .inl h
  · rcases hne with hne | hne
    · exact .inl hne
    · have hne' : row ≠ some g := fun e => hne (by simp [Value.ownBlock, e])
      have hcell : ∀ j, w'.cell? ⟨g, j, none⟩ = w.cell? ⟨g, j, none⟩ := fun j => World.cell?_of_block (w := w) (hg.block g hB.lt (fun e => hne' e.symm))
      exact .inr ⟨g, rfl, hb, hB.kept hg hne', fun i hi => ⟨(hcell _).trans (hc i hi).1, (hcell _).trans (hc i hi).2.1, (hcell _).trans (hc i hi).2.2.1, (hcell _).trans (hc i hi).2.2.2⟩⟩
theorem OwnD.mono {w : World} {base base' : Nat} {v : Value} {ds : List Dd} (h : OwnD w base v ds) (hb : base' ≤ base) : OwnD w base' v ds := by
  obtain ⟨a, cap, hv, h⟩ := h
  refine ⟨a, cap, hv, ?_⟩
  rcases h with h | ⟨g, ha, hg, rest⟩
  · exact .inl h
  · exact .inr ⟨g, ha, Nat.le_trans hb hg, rest⟩
theorem OwnD.block {w : World} {base : Nat} {v : Value} {ds : List Dd} (h : OwnD w base v ds) (hne : ds ≠ []) : ∃ g, v.ownBlock = some g ∧ base ≤ g ∧ g < w.heap.size := by
  obtain ⟨a, cap, rfl, h⟩ := h
  rcases h with h | ⟨g, rfl, hb, hB, _⟩
  · exact absurd h hne
  · exact ⟨g, rfl, hb, hB.lt⟩
/-- The values of a row of slices lie each in a block of its own, and none in the row's. -/
def Apart (g n : Nat) (V : Nat → Value) (D : Nat → List Dd) : Prop :=
  (∀ i, i < n → D i ≠ [] → (V i).ownBlock ≠ some g) ∧ ∀ i j, i < j → j < n → D i ≠ [] → D j ≠ [] → (V i).ownBlock ≠ (V j).ownBlock
/-- A work in memory of one's own. -/
def OwnW (w : World) (base : Nat) (v : Value) (dss : List (List Dd)) : Prop :=
  ∃ (a : Option Addr) (cap : Nat), v = .slice a dss.length cap ∧ (dss = [] ∨ ∃ (g : Nat) (V : Nat → Value), a = some ⟨g, 0, none⟩ ∧ base ≤ g ∧ Blk w g dss.length ∧
    (∀ i, i < dss.length → w.cell? ⟨g, i, none⟩ = some (V i) ∧ OwnD w base (V i) (dss.getD i [])) ∧ Apart g dss.length V (fun i => dss.getD i []))
theorem OwnW.rd {w : World} {base : Nat} {v : Value} {dss : List (List Dd)} (h : OwnW w base v dss) : RdW w v dss := by
  obtain ⟨a, cap, hv, h⟩ := h
  refine ⟨a, cap, hv, ?_⟩
  rcases h with h | ⟨g, V, ha, _, hb, hc, _⟩
  · exact .inl h
  · exact .inr ⟨g, 0, ha, hb.lt, fun i hi => ⟨V i, by rw [Nat.zero_add]; exact (hc i hi).1, (hc i hi).2.rd⟩⟩
theorem Tryz.infoDS : (Tryz.prog.info? 63).map (fun i => (i.zero, i.size, i.bytes)) = some (some (.slice none 0 0), 1, 24) := by kernel_rfl
theorem set_far {w : World} {g i b j : Nat} {x : Value} (h : b ≠ g) : (w.setCell ⟨g, i, none⟩ x).cell? ⟨b, j, none⟩ = w.cell? ⟨b, j, none⟩ :=
  World.cell?_setCell_other _ _ _ _ (fun e => h (by injection e with e1; exact e1.symm))
theorem grown_put (w : World) (g j : Nat) (v : Value) : w.grownBy (w.setCell ⟨g, j, none⟩ v) (some g) :=
  ⟨rfl, rfl, rfl, by simp, fun k _ hk => heap_setCell_other w ⟨g, j, none⟩ k v (fun e => hk (by simp [e]))⟩
def mkD (k : Int) (i : Nat) : Dd := (k + 4 * i, k + 4 * i + 1, k + 4 * i + 1 + 1, k + 4 * i + 1 + 1 + 1)
def mksD (k : Int) (n : Nat) : List Dd := (List.range n).map (mkD k)
theorem mksD_len (k : Int) (n : Nat) : (mksD k n).length = n := by simp [mksD]
theorem mksD_get (k : Int) (n i : Nat) (h : i < n) : (mksD k n).getD i zD = mkD k i := range_getD _ _ _ _ h
/-- The block that a list of deeds has (an empty one: none). -/
def ownO (v : Value) (ds : List Dd) : Option Nat := if ds = [] then none else v.ownBlock
theorem cell_same {w w' : World} {b : Nat} (h : w'.heap[b]? = w.heap[b]?) (o : Nat) : w'.cell? ⟨b, o, none⟩ = w.cell? ⟨b, o, none⟩ := by
  simp only [World.cell?, h]
theorem AtD.same {w w' : World} {b o : Nat} {d : Dd} (h : AtD w b o d) (hh : w'.heap[b]? = w.heap[b]?) : AtD w' b o d :=
  ⟨(cell_same hh _).trans h.1, (cell_same hh _).trans h.2.1, (cell_same hh _).trans h.2.2.1, (cell_same hh _).trans h.2.2.2⟩
theorem Blk.same {w w' : World} {g n : Nat} (h : Blk w g n) (hh : w'.heap[g]? = w.heap[g]?) : Blk w' g n := by
  obtain ⟨cur, t, h, hn⟩ := h
  exact ⟨cur, t, hh.trans h, hn⟩
theorem OwnD.same {w w' : World} {base : Nat} {v : Value} {ds : List Dd} (h : OwnD w base v ds) (hh : ∀ g, ownO v ds = some g → g < w.heap.size → base ≤ g → w'.heap[g]? = w.heap[g]?) : OwnD w' base v ds := by
  obtain ⟨a, cap, rfl, h⟩ := h
  refine ⟨a, cap, rfl, ?_⟩
  rcases h with h | ⟨g, rfl, hb, hB, hA⟩
  · exact .inl h
  · by_cases h0 : ds = []
    · exact .inl h0
    · have e := hh g (by rw [ownO, if_neg h0]; rfl) hB.lt hb
      exact .inr ⟨g, rfl, hb, hB.same e, fun i hi => (hA i hi).same e⟩
theorem OwnD.keptO {w w' : World} {base : Nat} {v : Value} {ds : List Dd} {row : Option Nat} (h : OwnD w base v ds) (hg : w.grownBy w' row) (hne : ownO v ds = none ∨ ownO v ds ≠ row) : OwnD w' base v ds :=
  h.same (fun g hgg hlt _ => hg.block g hlt (by
    rcases hne with e | e
    · rw [e] at hgg; cases hgg
    · rw [hgg] at e; exact e))
/-- All that has turned lies from block lo to before block hi. -/
structure Only (lo hi : Nat) (w w' : World) : Prop where
  os : w'.os = w.os
  tape : w'.tape = w.tape
  output : w'.output = w.output
  size : w.heap.size ≤ w'.heap.size
  block : ∀ b, b < w.heap.size → (b < lo ∨ hi ≤ b) → w'.heap[b]? = w.heap[b]?
theorem Only.refl (lo hi : Nat) (w : World) : Only lo hi w w := ⟨rfl, rfl, rfl, Nat.le_refl _, fun _ _ _ => rfl⟩
theorem Only.grown {lo hi : Nat} {a w w' : World} {row : Option Nat} (h : Only lo hi a w) (hg : w.grownBy w' row) (hr : ∀ k, row = some k → lo ≤ k ∧ k < hi) : Only lo hi a w' :=
  ⟨hg.os.trans h.os, hg.tape.trans h.tape, hg.output.trans h.output, Nat.le_trans h.size hg.size, fun b hb ho => (hg.block b (Nat.lt_of_lt_of_le hb h.size) (fun e => by have := hr b e.symm; omega)).trans (h.block b hb ho)⟩
theorem Keep.only {a w w' : World} {lo hi : Nat} (h : Keep a w) (k : Only lo hi w w') (hl : a.heap.size ≤ lo) : Keep a w' :=
  ⟨k.os.trans (Below.os h), k.tape.trans (Below.tape h), k.output.trans (Below.output h), Nat.le_trans (Below.size h) k.size, fun b hb => (k.block b (Nat.lt_of_lt_of_le hb h.size) (.inl (Nat.lt_of_lt_of_le hb hl))).trans (Below.block h b hb)⟩
theorem OwnW.only {w w' : World} {base lo hi : Nat} {v : Value} {dss : List (List Dd)} (h : OwnW w base v dss) (k : Only lo hi w w') (hb : hi ≤ base) : OwnW w' base v dss := by
  obtain ⟨a, cap, rfl, h⟩ := h
  refine ⟨a, cap, rfl, ?_⟩
  rcases h with h | ⟨g, V, rfl, hg, hB, hc, hA⟩
  · exact .inl h
  · have e := k.block g hB.lt (.inr (Nat.le_trans hb hg))
    exact .inr ⟨g, V, rfl, hg, hB.same e, fun i hi => ⟨(cell_same e _).trans (hc i hi).1, (hc i hi).2.same (fun b _ hlt hbb => k.block b hlt (.inr (Nat.le_trans hb hbb)))⟩, hA⟩
theorem OwnW.base_le {w : World} {base base' : Nat} {v : Value} {dss : List (List Dd)} (h : OwnW w base v dss) (hb : base' ≤ base) : OwnW w base' v dss := by
  obtain ⟨a, cap, hv, h⟩ := h
  refine ⟨a, cap, hv, ?_⟩
  rcases h with h | ⟨g, V, ha, hg, hB, hc, hA⟩
  · exact .inl h
  · exact .inr ⟨g, V, ha, Nat.le_trans hb hg, hB, fun i hi => ⟨(hc i hi).1, (hc i hi).2.mono hb⟩, hA⟩
def mksW (k : Int) : List (List Dd) → List (List Dd)
  | [] => []
  | d :: r => mksD k d.length :: mksW (k + 4 * d.length) r
theorem mksW_len (k : Int) (dss : List (List Dd)) : (mksW k dss).length = dss.length := by
  induction dss generalizing k with
  | nil => rfl
  | cons d r ih => simp [mksW, ih]
theorem mksW_get (k : Int) : ∀ (dss : List (List Dd)) (i : Nat), i < dss.length → (mksW k dss).getD i [] = mksD (k + 4 * (lenW (dss.take i) : Nat)) (dss.getD i []).length
  | [], i, h => by simp at h
  | d :: r, 0, h => by simp [mksW, lenW]
  | d :: r, i + 1, h => by
    have ih := mksW_get (k + 4 * d.length) r i (by simpa using h)
    simp only [mksW, List.getD_cons_succ, List.take_succ_cons, lenW] at ih ⊢
    rw [ih]
    congr 1
    omega
theorem lenW_snocM (d : List Dd) : ∀ l : List (List Dd), lenW (l ++ [d]) = lenW l + d.length
  | [] => by simp [lenW]
  | x :: r => by rw [List.cons_append, lenW, lenW, lenW_snocM d r]; omega
theorem take_moreM {α : Type} (l : List α) (k : Nat) (z : α) (h : k < l.length) : l.take (k + 1) = l.take k ++ [l.getD k z] := by
  rw [List.take_add_one, List.getElem?_eq_getElem h, List.getD_eq_getElem?_getD, List.getElem?_eq_getElem h]
  rfl
theorem lenW_take_le (dss : List (List Dd)) : ∀ i, i ≤ dss.length → lenW (dss.take i) ≤ lenW dss := by
  induction dss with
  | nil => intro i _; simp
  | cons d r ih =>
    intro i hi
    cases i with
    | zero => simp [lenW]
    | succ i => simp only [List.take_succ_cons, lenW]; have := ih i (by simpa using hi); omega
theorem lenW_one (dss : List (List Dd)) (i : Nat) (h : i < dss.length) : lenW (dss.take i) + (dss.getD i []).length ≤ lenW dss := by
  have := lenW_take_le dss (i + 1) h
  rw [take_moreM dss i [] h, lenW_snocM] at this
  exact this
theorem mksD_nil {k : Int} {n : Nat} : mksD k n = [] ↔ n = 0 := by
  constructor
  · intro h; have := mksD_len k n; rw [h] at this; simpa using this.symm
  · rintro rfl; rfl
end Go.Proofs.YtfmcnkjpgaapaaaGreat

/- How long a work's events are; a list of events that others' turns leave. -/
namespace Go.Proofs.YtfmcnkjpgaapaaaGreat
open Go.ChangeShapes Go.WideShapes Go.ChangeAt Go.RowKit

theorem eventsB_len9 (dss : List (List Dd)) : (eventsB dss).length ≤ 9 := by
  unfold eventsB
  split
  · rename_i h
    simp only [workB, Bool.and_eq_true, decide_eq_true_eq] at h
    obtain ⟨⟨⟨⟨_, h2⟩, _⟩, h4⟩, _⟩ := h
    have := evsW_len (fun i hi => all_get [] h2 i hi) dss.length (Nat.le_refl _)
    omega
  · simp
theorem eventsB_len (dss : List (List Dd)) : (eventsB dss).length ≤ 1048576 := by
  have := eventsB_len9 dss
  omega
theorem appE_only {w w' : World} {base lo hi : Nat} {v : Value} {es : List Ev} (h : AppE w base v es) (k : Only lo hi w w') (hb : hi ≤ base) : AppE w' base v es := by
  have hlt := h.lt
  refine ⟨h.1, ?_⟩
  rcases h.2 with h | ⟨g, cap, cur, hv, hg, hh, rest⟩
  · exact .inl h
  · subst hv
    exact .inr ⟨g, cap, cur, rfl, hg, (k.block g (hlt g rfl).2 (.inr (Nat.le_trans hb hg))).trans hh, rest⟩
end Go.Proofs.YtfmcnkjpgaapaaaGreat

/- Contracts of the program's lines of a work: one helper that takes any number of tests. -/
namespace Go.Proofs.YtfmcnkjpgaapaaaGreat
open Go.ChangeShapes Go.WideShapes Go.ChangeAt Go.RowKit

theorem cell_blk {w w' : World} {b : Nat} (h : w'.heap[b]? = w.heap[b]?) (o : Nat) : w'.cell? ⟨b, o, none⟩ = w.cell? ⟨b, o, none⟩ := by simp only [World.cell?, h]
theorem grown_row {w w' : World} (h : w.grownBy w' none) (row : Option Nat) : w.grownBy w' row := ⟨h.os, h.tape, h.output, h.size, fun k hk _ => h.block k hk (by simp)⟩
abbrev tQ (T : Ev → Ev → Bool) (es : List Ev) (i j : Nat) : Bool := isbE (es.getD i zE) (es.getD j zE) && T (es.getD i zE) (es.getD j zE)
set_option maxRecDepth 100000 in
set_option maxHeartbeats 4000000 in
theorem linesOf_any (w : World) (v t : Value) (dss : List (List Dd)) (T : Ev → Ev → Bool) (h : RdW w v dss) (hx : dss.length ≤ 1048576) (hm : ∀ i, i < dss.length → (dss.getD i []).length ≤ 1048576)
    (HP : ∀ i j : Nat, i < j → j < (eventsB dss).length → ∀ (x0 x1 : Int) (x2 : Bool) (x3 x4 x5 y0 y1 : Int) (y2 : Bool) (y3 y4 y5 : Int), (eventsB dss).getD i zE = (x0, x1, x2, x3, x4, x5) → (eventsB dss).getD j zE = (y0, y1, y2, y3, y4, y5) →
      isbE (x0, x1, x2, x3, x4, x5) (y0, y1, y2, y3, y4, y5) = true → ∀ w1 : World, Keep w w1 → Calls Tryz.prog 91 #[eA x0 x1 x2 x3 x4 x5, eA y0 y1 y2 y3 y4 y5, t] w1 fun e w' => e = .returned (.bool (T (x0, x1, x2, x3, x4, x5) (y0, y1, y2, y3, y4, y5))) ∧ Keep w1 w') :
    Calls Tryz.prog 60 #[v, t] w fun e w' => ∃ v', e = .returned v' ∧ Row w' w.heap.size v' (colAll (tQ T (eventsB dss)) (eventsB dss).length (eventsB dss).length) ∧ Keep w w' := by
  have L9 := eventsB_len9 dss
  have CE := implEventsOf_any w v dss h hx hm
  clear h hx hm
  generalize eventsB dss = es at L9 HP CE ⊢
  go_enter Tryz.func60, Tryz.ntmps60
  go_wp2_with fail
  refine CE.mono ?_
  rintro e w1 ⟨v1, rfl, a1, k1⟩
  have r1 := a1.rd
  clear a1 CE
  obtain ⟨a, c, rfl, r1⟩ := r1
  have s1 := k1.size
  go_wp2_with fail
  refine (blank_any _ es.length (by omega)).mono ?_
  rintro e w2 ⟨rfl, hR, k2⟩
  have K2 := k1.trans k2
  go_wp2
  go_loopw [18] (fun s wr => ∃ j : Nat, j ≤ es.length ∧ s = .int .i64 j ∧ RowAt wr w1.heap.size (colAll (tQ T es) es.length j) ∧ Keep w1 wr) (fun s _ => es.length - (intOf s).toNat)
  case atStart => exact ⟨0, Nat.zero_le _, rfl, hR, k2⟩
  case round =>
    obtain ⟨j, hj, rfl, hr, hK⟩ := hrel
    clear hR k2 K2
    by_cases hlt : j < es.length
    · rcases r1 with h | ⟨b, off, rfl, hb, hc⟩
      · exfalso; rw [h] at hlt; simp at hlt
      have AJ := (hc j _ (evs_get hlt)).keep hb hK
      have hbw : b < wr.heap.size := Nat.lt_of_lt_of_le hb hK.size
      have HW := Lib.hid (web_colAll (q := tQ T es) (show es.length ≤ 12 by omega) j (by omega)).1
      have HE : Hid (colIn (tQ T es) j (colAll (tQ T es) es.length j) j = colAll (tQ T es) es.length (j + 1)) := Lib.hid rfl
      generalize colAll (tQ T es) es.length j = S0 at *
      obtain ⟨y, hy⟩ : ∃ y, y = es.getD j zE := ⟨_, rfl⟩
      rw [← hy] at AJ
      obtain ⟨y0, y1, y2, y3, y4, y5⟩ := y
      obtain ⟨B0, B1, B2, B3, B4, B5⟩ := atE AJ
      clear AJ
      have i1 : (0 : Int) ≤ (j : Int) := Int.natCast_nonneg _
      have i2 : (j : Int) < (es.length : Int) := by omega
      have i3 : (j : Int) ≤ (es.length : Int) := by omega
      have i4 : (j : Int) ≤ (es.length : Int) + (c : Int) := by omega
      go_wp2
      have i5 : (j : Int) ≤ 9 := by omega
      obtain ⟨wo, rfl⟩ : ∃ wo : World, wo = wr := ⟨_, rfl⟩
      clear B0 B1 B2 B3 B4 B5
      have swo := hK.size
      go_loopw [27] (fun s wr => ∃ i : Nat, i ≤ j ∧ s = .int .i64 i ∧ RowAt wr w1.heap.size (colIn (tQ T es) j S0 i) ∧ (wo.alloc (.cells #[.int .i64 y0, .int .i64 y1, .bool y2, .int .i64 y3, .int .i64 y4, .int .i64 y5] 39)).grownBy wr (some w1.heap.size)) (fun s _ => j - (intOf s).toNat)
      case atStart => exact ⟨0, Nat.zero_le _, rfl, hr.keep ((Keep.refl wo).alloc _), grown_row (Keep.refl _).grownBy _⟩
      case round =>
        have hG := hr.lt
        clear hr
        obtain ⟨i, hi, rfl, hr, hg⟩ := hrel
        have hK' : Keep w1 wr := (hK.alloc _).grown hg (fun k hk => by simp at hk; omega)
        have sz := hg.size
        rw [heap_size] at sz
        by_cases hil : i < j
        · have AI := (hc i _ (evs_get (show i < es.length by omega))).keep hb hK'
          have hbr : b < wr.heap.size := by omega
          have C := fun m => (cell_blk (hg.block wo.heap.size (by rw [heap_size]; omega) (by simp; omega)) m).trans (box_cell (Keep.refl _) m)
          have c0 := C 0
          have c1 := C 1
          have c2 := C 2
          have c3 := C 3
          have c4 := C 4
          have c5 := C 5
          clear C
          simp at c0 c1 c2 c3 c4 c5
          obtain ⟨x, hx⟩ : ∃ x, x = es.getD i zE := ⟨_, rfl⟩
          rw [← hx] at AI
          obtain ⟨x0, x1, x2, x3, x4, x5⟩ := x
          obtain ⟨A0, A1, A2, A3, A4, A5⟩ := atE AI
          clear AI
          have hq : tQ T es i j = (isbE (x0, x1, x2, x3, x4, x5) (y0, y1, y2, y3, y4, y5) && T (x0, x1, x2, x3, x4, x5) (y0, y1, y2, y3, y4, y5)) := by show (_ && _) = _; rw [← hx, ← hy]
          have HM : (isbE (x0, x1, x2, x3, x4, x5) (y0, y1, y2, y3, y4, y5) && T (x0, x1, x2, x3, x4, x5) (y0, y1, y2, y3, y4, y5)) = false → Hid (colIn (tQ T es) j S0 (i + 1) = colIn (tQ T es) j S0 i) := fun hf => Lib.hid (colIn_miss S0 (hq.trans hf))
          have HH : (isbE (x0, x1, x2, x3, x4, x5) (y0, y1, y2, y3, y4, y5) && T (x0, x1, x2, x3, x4, x5) (y0, y1, y2, y3, y4, y5)) = true → Hid (colIn (tQ T es) j S0 (i + 1) = (colIn (tQ T es) j S0 i).set i (gAdd ((colIn (tQ T es) j S0 i).getD i 0) j)) := fun hf => Lib.hid (colIn_hit S0 (hq.trans hf))
          have HLn := (web_colIn (q := tQ T es) hlt HW.out i (by omega)).1.2.1
          have CP := HP i j hil hlt x0 x1 x2 x3 x4 x5 y0 y1 y2 y3 y4 y5 hx.symm hy.symm
          clear hq hx HP hc
          have kw : Keep w wr := k1.trans hK'
          have CI := isBehind_any (wr.alloc (.cells #[.int .i64 x0, .int .i64 x1, .bool x2, .int .i64 x3, .int .i64 x4, .int .i64 x5] 39)) x0 x1 x2 x3 x4 x5 y0 y1 y2 y3 y4 y5
          generalize isbE (x0, x1, x2, x3, x4, x5) (y0, y1, y2, y3, y4, y5) = I at CI CP HM HH
          generalize T (x0, x1, x2, x3, x4, x5) (y0, y1, y2, y3, y4, y5) = TT at CP HM HH
          generalize colIn (tQ T es) j S0 i = S at hr HM HH HLn
          have n1 : (0 : Int) ≤ (i : Int) := Int.natCast_nonneg _
          have n2 : (i : Int) < (j : Int) := by omega
          have hwo : wo.heap.size < wr.heap.size := by omega
          go_wp2_with fail
          refine CI.mono ?_
          rintro e w5 ⟨rfl, k5⟩
          have R5 := (hr.keep ((Keep.refl wr).alloc _)).keep k5
          have g5 := grown_trans hg (grown_row (((Keep.refl wr).alloc _).trans k5).grownBy (some w1.heap.size))
          cases I
          · have HE1 := HM rfl
            clear HM HH
            go_wp2
            go_roundw
            case rel => exact ⟨i + 1, by omega, by go_num, by rw [HE1.out]; exact R5, g5⟩
            case measure => simp [intOf]; omega
          · have F := fun m => box_cell k5 m
            have f0 := F 0
            have f1 := F 1
            have f2 := F 2
            have f3 := F 3
            have f4 := F 4
            have f5 := F 5
            clear F
            simp at f0 f1 f2 f3 f4 f5
            have kq : Keep wr w5 := ((Keep.refl wr).alloc _).trans k5
            have t0 := (kq.cell hwo (o := 0)).trans c0
            have t1 := (kq.cell hwo (o := 1)).trans c1
            have t2 := (kq.cell hwo (o := 2)).trans c2
            have t3 := (kq.cell hwo (o := 3)).trans c3
            have t4 := (kq.cell hwo (o := 4)).trans c4
            have t5 := (kq.cell hwo (o := 5)).trans c5
            clear c0 c1 c2 c3 c4 c5 A0 A1 A2 A3 A4 A5
            go_wp2_with fail
            refine (CP trivial _ (kw.trans kq)).mono ?_
            rintro e w6 ⟨rfl, k6⟩
            have R6 := R5.keep k6
            have g6 := grown_trans g5 (grown_row k6.grownBy (some w1.heap.size))
            clear f0 f1 f2 f3 f4 f5 t0 t1 t2 t3 t4 t5 R5 g5
            cases TT
            · have HE1 := HM rfl
              clear HM HH
              go_wp2
              go_roundw
              case rel => exact ⟨i + 1, by omega, by go_num, by rw [HE1.out]; exact R6, g6⟩
              case measure => simp [intOf]; omega
            · have HE1 := HH rfl
              clear HM HH
              go_wp2_with fail
              refine (line_any w6 w1.heap.size es.length es.length S i j R6 HLn (by omega)).mono ?_
              rintro e w7 ⟨rfl, R7, g7⟩
              go_wp2
              go_roundw
              case rel => exact ⟨i + 1, by omega, by go_num, by rw [HE1.out]; exact R7, grown_trans g6 g7⟩
              case measure => simp [intOf]; omega
        · obtain rfl : i = j := by omega
          go_wp2
          go_roundw
          case rel => exact ⟨i + 1, by omega, by go_num, by rw [← HE.out]; exact hr, (hK.alloc _).grown hg (fun k hk => by simp at hk; omega)⟩
          case measure => simp [intOf]; omega
    · obtain rfl : j = es.length := by omega
      have HL := (web_colAll (q := tQ T es) (show es.length ≤ 12 by omega) es.length (Nat.le_refl _)).1.2.1
      go_wp2
      go_ret
      exact ⟨_, rfl, row_new hr (by omega) HL, k1.trans hK⟩
end Go.Proofs.YtfmcnkjpgaapaaaGreat

/- Contract of the program's test of two events: are they at one place. -/
namespace Go.Proofs.YtfmcnkjpgaapaaaGreat
open Go.ChangeShapes Go.WideShapes Go.ChangeAt Go.RowKit

theorem areAt_any (w : World) (x0 x1 : Int) (x2 : Bool) (x3 x4 x5 y0 y1 : Int) (y2 : Bool) (y3 y4 y5 : Int) :
    Calls Tryz.prog 61 #[eA x0 x1 x2 x3 x4 x5, eA y0 y1 y2 y3 y4 y5] w fun e w' => e = .returned (.bool (onpE (x0, x1, x2, x3, x4, x5) (y0, y1, y2, y3, y4, y5))) ∧ Keep w w' := by
  go_enter Tryz.func61, Tryz.ntmps61
  go_wp2
  go_ret
  exact ⟨rfl, ((Keep.refl w).alloc _).alloc _⟩
end Go.Proofs.YtfmcnkjpgaapaaaGreat

/- Contract of the program's helper that asks for any number of tests, at the one for one place. -/
namespace Go.Proofs.YtfmcnkjpgaapaaaGreat
open Go.ChangeShapes Go.WideShapes Go.ChangeAt Go.RowKit

set_option maxHeartbeats 1000000 in
theorem pass_at (w : World) (g : Nat) (x0 x1 : Int) (x2 : Bool) (x3 x4 x5 y0 y1 : Int) (y2 : Bool) (y3 y4 y5 : Int) (hg : w.cell? ⟨g, 0, none⟩ = some (.func (Fn.func 61) #[] #[])) :
    Calls Tryz.prog 91 #[eA x0 x1 x2 x3 x4 x5, eA y0 y1 y2 y3 y4 y5, .slice (some ⟨g, 0, none⟩) 1 1] w fun e w' => e = .returned (.bool (onpE (x0, x1, x2, x3, x4, x5) (y0, y1, y2, y3, y4, y5))) ∧ Keep w w' := by
  have hgl := block_lt hg
  have C := fun (w1 : World) (_ : Keep w w1) => areAt_any w1 x0 x1 x2 x3 x4 x5 y0 y1 y2 y3 y4 y5
  generalize onpE (x0, x1, x2, x3, x4, x5) (y0, y1, y2, y3, y4, y5) = B at C ⊢
  have C2 := C _ (((Keep.refl w).alloc (.cells #[.int .i64 x0, .int .i64 x1, .bool x2, .int .i64 x3, .int .i64 x4, .int .i64 x5] 39)).alloc (.cells #[.int .i64 y0, .int .i64 y1, .bool y2, .int .i64 y3, .int .i64 y4, .int .i64 y5] 39))
  clear C
  go_enter Tryz.func91, Tryz.ntmps91
  go_wp2_with fail
  refine wp_loop_rounds 2 ?_
  rw [rounds_succ]
  go_wp2_with fail
  refine C2.mono ?_
  rintro e w1 ⟨rfl, k1⟩
  have K := (((Keep.refl w).alloc _).alloc _).trans k1
  cases B
  · go_wp2
    go_ret
    exact ⟨rfl, K⟩
  · go_wp2
    rw [rounds_succ]
    go_wp2
    go_ret
    exact ⟨rfl, K⟩
end Go.Proofs.YtfmcnkjpgaapaaaGreat

/- Contract of the program's AtOnePlace. -/
namespace Go.Proofs.YtfmcnkjpgaapaaaGreat
open Go.ChangeShapes Go.WideShapes Go.ChangeAt Go.RowKit

theorem col_plc (dss : List (List Dd)) : colAll (tQ onpE (eventsB dss)) (eventsB dss).length (eventsB dss).length = plcL (eventsB dss) := by
  cases hb : workB dss with
  | false => rw [eventsB, hb]; rfl
  | true => rw [eventsB, if_pos hb, ← plc_same hb]
set_option maxHeartbeats 1000000 in
theorem implAtOnePlace_any (w : World) (v : Value) (dss : List (List Dd)) (h : RdW w v dss) (hx : dss.length ≤ 1048576) (hm : ∀ i, i < dss.length → (dss.getD i []).length ≤ 1048576) :
    Calls Tryz.prog 33 #[v] w fun e w' => ∃ v', e = .returned v' ∧ Row w' w.heap.size v' (plcL (eventsB dss)) ∧ Keep w w' := by
  have C := fun (w0 : World) (k0 : Keep w w0) (g : Nat) (hg : w0.cell? ⟨g, 0, none⟩ = some (.func (Fn.func 61) #[] #[])) =>
    linesOf_any w0 v (.slice (some ⟨g, 0, none⟩) 1 1) dss onpE (h.keep k0) hx hm (fun i j _ _ x0 x1 x2 x3 x4 x5 y0 y1 y2 y3 y4 y5 _ _ _ w1 k1 => pass_at w1 g x0 x1 x2 x3 x4 x5 y0 y1 y2 y3 y4 y5 ((k1.cell (block_lt hg)).trans hg))
  rw [col_plc] at C
  go_enter Tryz.func33, Tryz.ntmps33
  go_wp2_with fail
  refine (C _ ((Keep.refl w).alloc _) _ ?_).mono ?_
  · simp
  rintro e w1 ⟨v1, rfl, r1, k1⟩
  go_wp2
  go_ret
  exact ⟨_, rfl, r1.base_le (by rw [heap_size]; omega), ((Keep.refl w).alloc _).trans k1⟩
end Go.Proofs.YtfmcnkjpgaapaaaGreat

/- Lists of lists of numbers in memory: that can be read ('RdL'); that grow, each part in a block apart from the row's ('AppL'). -/
namespace Go.Proofs.YtfmcnkjpgaapaaaGreat
open Go.ChangeShapes Go.WideShapes Go.ChangeAt Go.RowKit

def RdL (w : World) (v : Value) (zss : List (List Int)) : Prop :=
  ∃ (a : Option Addr) (cap : Nat), v = .slice a zss.length cap ∧
    (zss = [] ∨ ∃ b off, a = some ⟨b, off, none⟩ ∧ b < w.heap.size ∧ ∀ i, i < zss.length → ∃ vi, w.cell? ⟨b, off + i, none⟩ = some vi ∧ Rd w vi (zss.getD i []))
theorem RdL.keep {w w' : World} {v : Value} {zss : List (List Int)} (h : RdL w v zss) (k : Keep w w') : RdL w' v zss := by
  obtain ⟨a, cap, hv, h⟩ := h
  refine ⟨a, cap, hv, ?_⟩
  rcases h with h | ⟨b, off, ha, hb, hc⟩
  · exact .inl h
  · refine .inr ⟨b, off, ha, Nat.lt_of_lt_of_le hb k.size, fun i hi => ?_⟩
    obtain ⟨vi, h1, h2⟩ := hc i hi
    exact ⟨vi, (k.cell hb).trans h1, h2.keep k⟩
theorem Rd.keptR {w w' : World} {v : Value} {zs : List Int} {row : Option Nat} (h : Rd w v zs) (hg : w.grownBy w' row) (hne : v.ownBlock = none ∨ v.ownBlock ≠ row) : Rd w' v zs := by
  obtain ⟨a, cap, rfl, h⟩ := h
  refine ⟨a, cap, rfl, ?_⟩
  rcases h with h | ⟨b, off, rfl, hb, hc⟩
  · exact .inl h
  · refine .inr ⟨b, off, rfl, Nat.lt_of_lt_of_le hb hg.size, fun i hi => ?_⟩
    rw [World.cell?_of_block (w := w) (hg.block b hb (fun e => by rcases hne with h | h <;> simp [Value.ownBlock] at h; exact h e))]
    exact hc i hi
/-- The room of a slice. -/
def capZ : Value → Nat
  | .slice _ _ c => c
  | _ => 0
theorem Own.capz {w : World} {base : Nat} {v : Value} {zs : List Int} (h : Own w base v zs) : zs.length ≤ capZ v := by
  rcases h.2 with ⟨rfl, hz⟩ | ⟨g, cap, cur, rfl, hb, hg, hc, _⟩
  · rw [hz]; exact Nat.zero_le _
  · exact hc
/-- A list of numbers that can be read, in a block apart from that of x. -/
structure Beside (w : World) (x u : Value) (zs : List Int) : Prop where
  rd : Rd w u zs
  ne : u.ownBlock = none ∨ u.ownBlock ≠ x.ownBlock
  lt : ∀ k, u.ownBlock = some k → k < w.heap.size
  cap : zs.length ≤ capZ u
theorem Beside.keep {w w' : World} {x u : Value} {zs : List Int} (h : Beside w x u zs) (k : Keep w w') : Beside w' x u zs :=
  ⟨h.rd.keep k, h.ne, fun j hj => Nat.lt_of_lt_of_le (h.lt j hj) k.size, h.cap⟩
theorem Beside.grow {w w' : World} {x x' u : Value} {zs : List Int} (h : Beside w x u zs) (hg : w.grownBy w' x.ownBlock) (hb : x'.ownBlock = x.ownBlock ∨ x'.ownBlock = some w.heap.size) : Beside w' x' u zs := by
  refine ⟨h.rd.keptR hg h.ne, ?_, fun j hj => Nat.lt_of_lt_of_le (h.lt j hj) hg.size, h.cap⟩
  rcases hb with hb | hb
  · rw [hb]; exact h.ne
  · cases hu : u.ownBlock with
    | none => exact .inl rfl
    | some k => exact .inr (fun e => by rw [hb] at e; have := h.lt k hu; have := Option.some.inj e; omega)
theorem Own.beside {w' : World} {x u : Value} {zs : List Int} {base : Nat} (h : Own w' base u zs) (hx : ∀ k, x.ownBlock = some k → k < base) : Beside w' x u zs :=
  ⟨h.rd, by
    cases hu : u.ownBlock with
    | none => exact .inl rfl
    | some k => exact .inr (fun e => by have := hx k e.symm; have := h.ge k hu; omega), fun k hk => (World.ownsRow.lt h k hk).2, h.capz⟩
structure AppL (w : World) (base : Nat) (x : Value) (vs : List Value) (zss : List (List Int)) : Prop where
  row : w.ownsRow base 25 1 x zss.length vs
  each : ∀ i u, vs[i]? = some u → Beside w x u (zss.getD i [])
theorem AppL.keep {w w' : World} {base : Nat} {x : Value} {vs : List Value} {zss : List (List Int)} (h : AppL w base x vs zss) (k : Keep w w') : AppL w' base x vs zss :=
  ⟨World.ownsRow.kept h.row k.grownBy (by cases x.ownBlock <;> simp), fun i u hu => (h.each i u hu).keep k⟩
theorem AppL.lt {w : World} {base : Nat} {x : Value} {vs : List Value} {zss : List (List Int)} (h : AppL w base x vs zss) : ∀ k, x.ownBlock = some k → base ≤ k ∧ k < w.heap.size := World.ownsRow.lt h.row
theorem AppL.rd {w : World} {base : Nat} {x : Value} {vs : List Value} {zss : List (List Int)} (h : AppL w base x vs zss) : RdL w x zss := by
  have hl := h.row.1
  have hlt := h.lt
  have h2 := h.row
  rcases h.row.2 with ⟨rfl, hz⟩ | ⟨g, cap, cur, rfl, hb, hg, _⟩
  · exact ⟨none, 0, by rw [hz], .inl (List.eq_nil_of_length_eq_zero hz)⟩
  · refine ⟨_, _, rfl, .inr ⟨g, 0, rfl, (hlt g rfl).2, fun i hi => ?_⟩⟩
    have hi' : i < vs.length := by omega
    refine ⟨vs[i], ?_, (h.each i _ (List.getElem?_eq_getElem hi')).rd⟩
    rw [Nat.zero_add, World.ownsRow.cellAt h2 i (by omega), List.getElem?_eq_getElem hi']
/-- .. with the room of each list. -/
def RdLC (w : World) (v : Value) (zss : List (List Int)) : Prop :=
  ∃ (a : Option Addr) (cap : Nat), v = .slice a zss.length cap ∧
    (zss = [] ∨ ∃ b off, a = some ⟨b, off, none⟩ ∧ b < w.heap.size ∧ ∀ i, i < zss.length → ∃ vi, w.cell? ⟨b, off + i, none⟩ = some vi ∧ Rd w vi (zss.getD i []) ∧ (zss.getD i []).length ≤ capZ vi)
theorem RdLC.rd {w : World} {v : Value} {zss : List (List Int)} (h : RdLC w v zss) : RdL w v zss := by
  obtain ⟨a, cap, hv, h⟩ := h
  refine ⟨a, cap, hv, ?_⟩
  rcases h with h | ⟨b, off, ha, hb, hc⟩
  · exact .inl h
  · refine .inr ⟨b, off, ha, hb, fun i hi => ?_⟩
    obtain ⟨vi, h1, h2, _⟩ := hc i hi
    exact ⟨vi, h1, h2⟩
theorem AppL.rdc {w : World} {base : Nat} {x : Value} {vs : List Value} {zss : List (List Int)} (h : AppL w base x vs zss) : RdLC w x zss := by
  have hl := h.row.1
  have hlt := h.lt
  have h2 := h.row
  rcases h.row.2 with ⟨rfl, hz⟩ | ⟨g, cap, cur, rfl, hb, hg, _⟩
  · exact ⟨none, 0, by rw [hz], .inl (List.eq_nil_of_length_eq_zero hz)⟩
  · refine ⟨_, _, rfl, .inr ⟨g, 0, rfl, (hlt g rfl).2, fun i hi => ?_⟩⟩
    have hi' : i < vs.length := by omega
    have hE := h.each i _ (List.getElem?_eq_getElem hi')
    refine ⟨vs[i], ?_, hE.rd, hE.cap⟩
    rw [Nat.zero_add, World.ownsRow.cellAt h2 i (by omega), List.getElem?_eq_getElem hi']
theorem appL_empty (w : World) : AppL (w.alloc (.cells #[] 25)) w.heap.size (.slice (some ⟨w.heap.size, 0, none⟩) 0 0) [] [] :=
  ⟨World.ownsRow_lit w #[] 0 (Nat.le_refl _) (by decide) (by simp), by simp⟩
theorem AppL.push {w w' : World} {base : Nat} {x x' u : Value} {vs : List Value} {zss : List (List Int)} {zs : List Int} (h : AppL w base x vs zss) (hu : Beside w x u zs)
    (ho : w'.ownsRow base 25 1 x' (zss.length + 1) (vs ++ [u])) (hg : w.grownBy w' x.ownBlock) (hb : x'.ownBlock = x.ownBlock ∨ x'.ownBlock = some w.heap.size) : AppL w' base x' (vs ++ [u]) (zss ++ [zs]) := by
  have hl := h.row.1
  refine ⟨by rw [List.length_append]; exact ho, fun i y hy => ?_⟩
  by_cases hi : i < vs.length
  · rw [List.getElem?_append_left hi] at hy
    have := (h.each i y hy).grow hg hb
    rw [List.getD_eq_getElem?_getD, List.getElem?_append_left (by omega), ← List.getD_eq_getElem?_getD]
    exact this
  · have hi2 : i = vs.length := by
      have := (List.getElem?_eq_some_iff.1 hy).1
      simp at this
      omega
    subst hi2
    rw [List.getElem?_append_right (Nat.le_refl _), Nat.sub_self] at hy
    simp only [List.getElem?_cons_zero, Option.some.injEq] at hy
    subst hy
    rw [List.getD_eq_getElem?_getD, List.getElem?_append_right (by omega), show vs.length - zss.length = 0 by omega]
    exact hu.grow hg hb
theorem Tryz.infoL : (Tryz.prog.info? 25).map (fun i => (i.zero, i.size, i.bytes)) = some (some (.slice none 0 0), 1, 24) := by kernel_rfl
end Go.Proofs.YtfmcnkjpgaapaaaGreat

/- A range over a function whose iterator hands out what lies in memory: what a round keeps ('But'), the iterator's contract ('SeqM'), the law for its caller ('wp_rangeM'). -/
namespace Go.Proofs.YtfmcnkjpgaapaaaGreat
open Go.RowKit

/-- All that lay is as it was, but for the blocks of C. -/
structure But (C : Nat → Prop) (w w' : World) : Prop where
  os : w'.os = w.os
  tape : w'.tape = w.tape
  output : w'.output = w.output
  size : w.heap.size ≤ w'.heap.size
  block : ∀ k, k < w.heap.size → ¬ C k → w'.heap[k]? = w.heap[k]?
theorem But.refl (C : Nat → Prop) (w : World) : But C w w := ⟨rfl, rfl, rfl, Nat.le_refl _, fun _ _ _ => rfl⟩
theorem But.trans {C : Nat → Prop} {a b c : World} (h : But C a b) (k : But C b c) : But C a c :=
  ⟨k.os.trans h.os, k.tape.trans h.tape, k.output.trans h.output, Nat.le_trans h.size k.size, fun i hi hn => (k.block i (Nat.lt_of_lt_of_le hi h.size) hn).trans (h.block i hi hn)⟩
theorem But.mono {C C' : Nat → Prop} {a b : World} (h : But C a b) (hc : ∀ k, k < a.heap.size → C k → C' k) : But C' a b :=
  ⟨h.os, h.tape, h.output, h.size, fun i hi hn => h.block i hi (fun e => hn (hc i hi e))⟩
theorem But.of_below {C : Nat → Prop} {a b : World} (h : Below a.heap.size a b) : But C a b := ⟨h.os, h.tape, h.output, h.size, fun i hi _ => h.block i hi⟩
theorem But.of_grown {C : Nat → Prop} {a b : World} {row : Option Nat} (h : a.grownBy b row) (hr : ∀ k, row = some k → C k) : But C a b :=
  ⟨h.os, h.tape, h.output, h.size, fun i hi hn => h.block i hi (fun e => hn (hr i e.symm))⟩
theorem But.alloc {C : Nat → Prop} {a b : World} (h : But C a b) (o : Obj) : But C a (b.alloc o) := h.trans (But.of_grown (World.grownBy_alloc b o none) (by simp))
theorem But.put {C : Nat → Prop} {a b : World} (h : But C a b) {l : Nat} (hl : C l) (o : Obj) : But C a (b.putObj l o) := h.trans (But.of_grown (grownBy_putObj' b l o) (fun k e => by cases e; exact hl))
theorem But.setCell {C : Nat → Prop} {a b : World} (h : But C a b) {l : Nat} (hl : C l) (o : Nat) (v : Value) : But C a (b.setCell ⟨l, o, none⟩ v) :=
  h.trans ⟨rfl, rfl, rfl, by simp [World.setCell], fun k _ hn => Below.heap_setCell _ _ _ _ (fun e => hn (by rw [e]; exact hl))⟩
theorem But.drew {C : Nat → Prop} {a b : World} (h : But C a b) : But C a b.drew := h.trans ⟨rfl, rfl, rfl, Nat.le_refl _, fun _ _ _ => rfl⟩
theorem But.below {C : Nat → Prop} {a b : World} (h : But C a b) (hc : ∀ k, C k → a.heap.size ≤ k) : Below a.heap.size a b := ⟨h.os, h.tape, h.output, h.size, fun k hk => h.block k hk (fun e => by have := hc k e; omega)⟩
/-- A block from s on that holds no cells (the record of a loop, deferred calls). -/
def NC (s : Nat) (A : World) (b : Nat) : Prop := s ≤ b ∧ ∃ o : Obj, A.heap[b]? = some o ∧ o.isCells = false
theorem NC.le {s s' : Nat} {A : World} {b : Nat} (h : NC s A b) (hs : s' ≤ s) : NC s' A b := ⟨Nat.le_trans hs h.1, h.2⟩
/-- It speaks of blocks below s, and of cells, alone. -/
def Stays (s : Nat) (J : World → Prop) : Prop := ∀ A B, J A → But (NC s A) A B → J B
/-- The contract of an iterator that hands out N things, the k-th being what Lie says. C: the blocks that a round may turn; Pr: those that the iterator reads. -/
def SeqM (P : Program) (gf : Nat) (lb : Array Value) (Pr : Nat → Prop) (N : Nat) (Lie : Nat → Nat → Value → World → Prop) (w0 : World) : Prop :=
  ∀ (C : Nat → Prop) (l : Nat) (J Jx : Nat → World → Prop) (W : World), But (fun b => ¬ Pr b) w0 W → (∀ b, C b → b < W.heap.size ∧ ¬ Pr b) →
    (∀ k, Stays W.heap.size (J k)) → (∀ k, Stays W.heap.size (Jx k)) →
    (∀ (m k : Nat) (v : Value) (W1 : World), k < N → J k W1 → Lie W.heap.size k v W1 → YieldAt Fence.wide m P l #[v] W1 fun e W' =>
      ∃ b : Bool, e = .returned (.bool b) ∧ But C W1 W' ∧ (b = true → J (k + 1) W') ∧ (b = false → Jx k W')) →
    J 0 W →
    Calls P gf (#[.func (.yield l) #[] #[]] ++ lb) W fun e W' => (∃ v, e = .returned v) ∧ (J N W' ∨ ∃ k, k < N ∧ Jx k W')
/-- How the body of a round may be left. -/
def postM (C : Nat → Prop) (I : Nat → World → Prop) (Ix : Code → Nat → World → Prop) (k : Nat) (W : World) : Exit → Act → World → Prop
  | .normal, _, W' => But C W W' ∧ I (k + 1) W'
  | .ret, _, W' => But C W W' ∧ Ix .ret k W'
  | .exit id, _, W' => But C W W' ∧ Ix (.exit id) k W'
  | .goto t, _, W' => But C W W' ∧ Ix (.goto t) k W'
  | .panic _, _, _ => False
  | .outgrown, _, _ => False
theorem wp_rangeM {n : Nat} {P : Program} {g : Operand} {ps : Array Tmp} {assign body : Code} {Q : Exit → Act → World → Prop} {a : Act} {w : World} {gf : Nat} {lb : Array Value} {Pr : Nat → Prop} {N : Nat} {Lie : Nat → Nat → Value → World → Prop} {w0 : World}
    (hg : a.eval g = .func (.func gf) #[] lb) (eg : ∀ args w, (callFunc gf args).run P w = .ok (.enter gf args) w) (hps : ps.size = 1)
    (hseq : SeqM P gf lb Pr N Lie w0) (hk0 : But (fun b => ¬ Pr b) w0 w) (hPr : ∀ b, Pr b → b < w0.heap.size)
    (C : Nat → Prop) (hC : ∀ b, C b → b < w.heap.size ∧ ¬ Pr b)
    (I : Nat → World → Prop) (Ix : Code → Nat → World → Prop) (hI : ∀ k, Stays w.heap.size (I k)) (hIx : ∀ c k, Stays w.heap.size (Ix c k))
    (hL : ∀ s k v A B, Lie s k v A → But (fun b => b < s) A B → Lie s k v B) (h0 : I 0 w) (a₁ : Value → Act)
    (hassign : ∀ (m : Nat) (v : Value) (W : World) (K : Act → World → Prop), K (a₁ v) W →
      assign.wpIn (Fence.wide.inRound (w.heap.size + 1)) m P (Exit.then K (fun _ _ _ => False)) { tmps := (ps.zip #[v]).foldl (fun t (p, v) => t.setIfInBounds p v) a.tmps, defers := [] } W)
    (hbody : ∀ (m k : Nat) (v : Value) (W : World), k < N → I k W → Lie (w.heap.size + 2) k v W → body.wpIn (Fence.wide.inRound (w.heap.size + 1)) m P (postM C I Ix k W) (a₁ v) W)
    (hdone : ∀ W, I N W → W.heap[w.heap.size]? = some (.deferred (some [])) → Q .normal { a with defers := { target := .collected w.heap.size, args := #[] } :: a.defers } W)
    (hstop : ∀ c k W, k < N → Ix c k W → W.heap[w.heap.size]? = some (.deferred (some [])) → c.wpIn Fence.wide n P Q { a with defers := { target := .collected w.heap.size, args := #[] } :: a.defers } W) :
    (Code.rangeFunc g ps assign body).wpIn Fence.wide n P Q a w := by
  have hs0 := hk0.size
  refine wpIn_rangeFunc ?_
  intro fn hfn
  -- the two blocks that the loop lays: D for deferred calls, its record behind it
  obtain ⟨rc, hrc⟩ : ∃ rc : LoopState → Option Code → Loop, rc = fun st pe => { state := st, pending := pe, fn, tmps := a.tmps, params := ps, assign, body, defers := w.heap.size } := ⟨_, rfl⟩
  obtain ⟨W1, hW1⟩ : ∃ W1, W1 = (w.alloc (.deferred (some []))).alloc (.loop (rc .ready none)) := ⟨_, rfl⟩
  have hz : W1.heap.size = w.heap.size + 2 := by rw [hW1]; simp
  have hB1 : Below w.heap.size w W1 := by rw [hW1]; exact ((Below.refl _ w).alloc (Nat.le_refl _) _).alloc (by simp) _
  have hl1 : W1.heap[w.heap.size + 1]? = some (.loop (rc .ready none)) := by
    rw [hW1]
    have := World.alloc_heap_new (w.alloc (.deferred (some []))) (.loop (rc .ready none))
    rwa [World.size_alloc] at this
  have hd1 : W1.heap[w.heap.size]? = some (.deferred (some [])) := by
    rw [hW1]
    exact (Below.heap_alloc _ _ _ (by simp)).trans (World.alloc_heap_new w _)
  refine ⟨w.heap.size + 1, [{ target := .collected w.heap.size, args := #[] }], W1, { target := .fn (.func gf) lb, args := #[.func (.yield (w.heap.size + 1)) #[] #[]] }, W1, gf, #[.func (.yield (w.heap.size + 1)) #[] #[]] ++ lb, W1, ?_, ?_, ?_, ?_, ?_, ?_⟩
  · rw [hW1, hrc]; exact run_enterLoop_outer _ _ _ _ _
  · simp only [resolve, hg]
    simp [go_sem]
  · intro f' _; exact trivial
  · simp [invoke, go_sem, eg]
  · intro h; cases h
  refine callsIn_wide.2 ((hseq (fun b => C b ∨ b = w.heap.size + 1) (w.heap.size + 1)
    (fun k A => I k A ∧ A.heap[w.heap.size + 1]? = some (.loop (rc .ready none)) ∧ A.heap[w.heap.size]? = some (.deferred (some [])))
    (fun k A => ∃ c, Ix c k A ∧ A.heap[w.heap.size + 1]? = some (.loop (rc .done (some c))) ∧ A.heap[w.heap.size]? = some (.deferred (some [])))
    W1 (hk0.trans (But.of_below hB1)) ?_ ?_ ?_ ?_ ⟨hI 0 _ _ h0 (But.of_below hB1), hl1, hd1⟩).mono ?_)
  · rintro b (hb | rfl)
    · exact ⟨by have := (hC b hb).1; omega, (hC b hb).2⟩
    · exact ⟨by omega, fun hp => by have := hPr _ hp; omega⟩
  · rintro k A B ⟨h1, h2, h3⟩ hB
    have e1 : w.heap.size + 1 < A.heap.size := (Array.getElem?_eq_some_iff.1 h2).1
    have nl : ∀ b, b < w.heap.size + 2 → ¬ NC W1.heap.size A b := fun b hb h => by have := h.1; omega
    exact ⟨hI k _ _ h1 (hB.mono (fun b _ hb => hb.le (by omega))), (hB.block _ e1 (nl _ (by omega))).trans h2, (hB.block _ (by omega) (nl _ (by omega))).trans h3⟩
  · rintro k A B ⟨c, h1, h2, h3⟩ hB
    have e1 : w.heap.size + 1 < A.heap.size := (Array.getElem?_eq_some_iff.1 h2).1
    have nl : ∀ b, b < w.heap.size + 2 → ¬ NC W1.heap.size A b := fun b hb h => by have := h.1; omega
    exact ⟨c, hIx c k _ _ h1 (hB.mono (fun b _ hb => hb.le (by omega))), (hB.block _ e1 (nl _ (by omega))).trans h2, (hB.block _ (by omega) (nl _ (by omega))).trans h3⟩
  · -- one round
    rintro m k v W hk ⟨hi, hl, hd⟩ hv
    rw [hz] at hv
    have hlt : w.heap.size + 1 < W.heap.size := (Array.getElem?_eq_some_iff.1 hl).1
    have hy := run_yield (P := P) (args := #[v]) hl (by rw [hrc]; exact hps.symm)
    rw [hrc] at hy
    refine ⟨fn, _, assign, body, hy, roundIn_of_wpIn hfn (hassign m v W _ ⟨_, run_beginRound hl (by rw [hrc]), ?_⟩)⟩
    clear hy
    obtain ⟨W2, hW2⟩ : ∃ W2, W2 = W.putObj (w.heap.size + 1) (.loop { rc .ready none with state := .busy }) := ⟨_, rfl⟩
    rw [← hW2]
    have hl2 : W2.heap[w.heap.size + 1]? = some (.loop { rc .ready none with state := .busy }) := by rw [hW2]; exact World.putObj_heap_same hlt
    have hd2 : W2.heap[w.heap.size]? = some (.deferred (some [])) := by rw [hW2]; exact (World.putObj_heap_other (by omega)).trans hd
    have hb2 : ∀ X : Nat → Prop, X (w.heap.size + 1) → But X W W2 := fun X hX => by rw [hW2]; exact (But.refl X W).put hX _
    refine wpIn_mono (hbody m k v W2 hk (hI k _ _ hi (hb2 _ ⟨by omega, _, hl, rfl⟩)) (hL _ _ _ _ _ hv (hb2 _ (by omega)))) ?_
    have fin : ∀ (jump : Option Code) (W3 : World), But C W2 W3 → ∃ W4, (Instr.endRound (w.heap.size + 1) jump).run P W3 = .ok (.bool jump.isNone) W4 ∧ (∀ X : Nat → Prop, X (w.heap.size + 1) → But X W3 W4) ∧ NC w.heap.size W3 (w.heap.size + 1) ∧
        W4.heap[w.heap.size + 1]? = some (.loop (rc (if jump.isNone then .ready else .done) jump)) ∧ W4.heap[w.heap.size]? = some (.deferred (some [])) := by
      intro jump W3 h3
      have e1 : w.heap.size + 1 < W2.heap.size := (Array.getElem?_eq_some_iff.1 hl2).1
      have hl3 : W3.heap[w.heap.size + 1]? = some (.loop { rc .ready none with state := .busy }) := (h3.block _ e1 (fun e => by have := (hC _ e).1; omega)).trans hl2
      have hd3 : W3.heap[w.heap.size]? = some (.deferred (some [])) := (h3.block _ (by omega) (fun e => by have := (hC _ e).1; omega)).trans hd2
      have e3 : w.heap.size + 1 < W3.heap.size := (Array.getElem?_eq_some_iff.1 hl3).1
      have := run_endRound (P := P) jump hl3
      refine ⟨_, this, fun X hX => (But.refl X W3).put hX _, ⟨by omega, _, hl3, rfl⟩, ?_, (World.putObj_heap_other (by omega)).trans hd3⟩
      rw [World.putObj_heap_same e3, hrc]
    have bu : ∀ {W3 W4 : World}, But C W2 W3 → (∀ X : Nat → Prop, X (w.heap.size + 1) → But X W3 W4) → But (fun b => C b ∨ b = w.heap.size + 1) W W4 := fun h3 h4 =>
      ((hb2 _ (.inr rfl)).trans (h3.mono (fun _ _ hc => .inl hc))).trans (h4 _ (.inr rfl))
    rintro e a3 W3 hp
    cases e with
    | normal =>
      obtain ⟨h3, hi3⟩ := hp
      obtain ⟨W4, hr, h4, hn4, hl4, hd4⟩ := fin none W3 h3
      exact ⟨_, W4, hr, true, rfl, bu h3 h4, fun _ => ⟨hI _ _ _ hi3 (h4 _ hn4), hl4, hd4⟩, fun e => by cases e⟩
    | ret =>
      obtain ⟨h3, hi3⟩ := hp
      obtain ⟨W4, hr, h4, hn4, hl4, hd4⟩ := fin (some .ret) W3 h3
      exact ⟨_, W4, hr, false, rfl, bu h3 h4, fun e => (by cases e), fun _ => ⟨.ret, hIx _ _ _ _ hi3 (h4 _ hn4), hl4, hd4⟩⟩
    | exit id =>
      obtain ⟨h3, hi3⟩ := hp
      obtain ⟨W4, hr, h4, hn4, hl4, hd4⟩ := fin (some (.exit id)) W3 h3
      exact ⟨_, W4, hr, false, rfl, bu h3 h4, fun e => (by cases e), fun _ => ⟨.exit id, hIx _ _ _ _ hi3 (h4 _ hn4), hl4, hd4⟩⟩
    | goto t =>
      obtain ⟨h3, hi3⟩ := hp
      obtain ⟨W4, hr, h4, hn4, hl4, hd4⟩ := fin (some (.goto t)) W3 h3
      exact ⟨_, W4, hr, false, rfl, bu h3 h4, fun e => (by cases e), fun _ => ⟨.goto t, hIx _ _ _ _ hi3 (h4 _ hn4), hl4, hd4⟩⟩
    | panic ch => exact hp.elim
    | outgrown => exact hp.elim
  · -- behind the iterator
    rintro e W2 ⟨⟨v, rfl⟩, (⟨hi, hl, hd⟩ | ⟨k, hk, c, hi, hl, hd⟩)⟩
    · have hr := run_endLoop (P := P) hl (by rw [hrc]; simp)
      exact ⟨none, _, by rw [hr, hrc], hdone _ (hI _ _ _ hi ((But.refl (NC w.heap.size W2) W2).put ⟨by omega, _, hl, rfl⟩ _)) ((World.putObj_heap_other (by omega)).trans hd)⟩
    · have hr := run_endLoop (P := P) hl (by rw [hrc]; simp)
      exact ⟨some c, _, by rw [hr, hrc], hstop c k _ hk (hIx _ _ _ _ hi ((But.refl (NC w.heap.size W2) W2).put ⟨by omega, _, hl, rfl⟩ _)) ((World.putObj_heap_other (by omega)).trans hd)⟩
end Go.Proofs.YtfmcnkjpgaapaaaGreat

/- Lists of lists of numbers that an iterator reads, in blocks from s1 up to s2 alone; what stays of them where other blocks turn. -/
namespace Go.Proofs.YtfmcnkjpgaapaaaGreat
open Go.ChangeShapes Go.WideShapes Go.ChangeAt Go.RowKit

theorem But.cell {C : Nat → Prop} {w w' : World} (h : But C w w') {b o : Nat} (hb : b < w.heap.size) (hn : ¬ C b) : w'.cell? ⟨b, o, none⟩ = w.cell? ⟨b, o, none⟩ := World.cell?_of_block (w := w) (h.block b hb hn)
theorem But.free {C : Nat → Prop} {w w' : World} (h : But C w w') {b o : Nat} (hb : b < w.heap.size) (hn : ¬ C b) : w'.frozen? ⟨b, o, none⟩ = w.frozen? ⟨b, o, none⟩ := World.frozen?_of_block (w := w) (h.block b hb hn)
theorem But.drewN {C : Nat → Prop} {a b : World} (h : But C a b) (n : Nat) : But C a (b.drewN n) := h.trans ⟨rfl, rfl, rfl, Nat.le_refl _, fun _ _ _ => rfl⟩
theorem But.keep {C : Nat → Prop} {a b c : World} (h : But C a b) (k : Keep b c) : But C a c := h.trans (But.of_below k)
theorem Own.but {C : Nat → Prop} {w w' : World} {s : Nat} {v : Value} {zs : List Int} (h : Own w s v zs) (k : But C w w') (hc : ∀ b, s ≤ b → (∃ o : Obj, w.heap[b]? = some o ∧ o.isCells = true) → ¬ C b) : Own w' s v zs := by
  have hlt := World.ownsRow.lt h
  obtain ⟨h1, h2⟩ := h
  refine ⟨h1, ?_⟩
  rcases h2 with h2 | ⟨g, cap, cur, rfl, hb, hg, rest⟩
  · exact .inl h2
  · have := (hlt g rfl).2
    exact .inr ⟨g, cap, cur, rfl, hb, (k.block g this (hc g hb ⟨_, hg, rfl⟩)).trans hg, rest⟩
/-- A list that the call owns stays where no cells turn. -/
theorem Own.turn {s t : Nat} {w w' : World} {v : Value} {zs : List Int} (h : Own w s v zs) (k : But (NC t w) w w') : Own w' s v zs :=
  h.but k (fun b _ ⟨o, h1, h2⟩ ⟨_, o', h3, h4⟩ => by rw [h1] at h3; cases h3; rw [h2] at h4; cases h4)
/-- A list of numbers that can be read, in a block from s1 up to s2. -/
def RdR (s1 s2 : Nat) (w : World) (v : Value) (zs : List Int) : Prop :=
  ∃ (a : Option Addr) (cap : Nat), v = .slice a zs.length cap ∧
    (zs = [] ∨ ∃ b off, a = some ⟨b, off, none⟩ ∧ s1 ≤ b ∧ b < s2 ∧ ∀ i, i < zs.length → w.cell? ⟨b, off + i, none⟩ = some (.int .i64 (zs.getD i 0)))
theorem RdR.rd {s1 s2 : Nat} {w : World} {v : Value} {zs : List Int} (h : RdR s1 s2 w v zs) (hs : s2 ≤ w.heap.size) : Rd w v zs := by
  obtain ⟨a, cap, rfl, h⟩ := h
  refine ⟨a, cap, rfl, ?_⟩
  rcases h with h | ⟨b, off, rfl, h1, h2, hc⟩
  · exact .inl h
  · exact .inr ⟨b, off, rfl, by omega, hc⟩
theorem RdR.but {C : Nat → Prop} {s1 s2 : Nat} {w w' : World} {v : Value} {zs : List Int} (h : RdR s1 s2 w v zs) (hs : s2 ≤ w.heap.size) (k : But C w w') (hc : ∀ b, s1 ≤ b → b < s2 → ¬ C b) : RdR s1 s2 w' v zs := by
  obtain ⟨a, cap, rfl, h⟩ := h
  refine ⟨a, cap, rfl, ?_⟩
  rcases h with h | ⟨b, off, rfl, h1, h2, h3⟩
  · exact .inl h
  · exact .inr ⟨b, off, rfl, h1, h2, fun i hi => (k.cell (by omega) (hc b h1 h2)).trans (h3 i hi)⟩
/-- The first n of a list of such lists. -/
def RdP (s1 s2 : Nat) (w : World) (v : Value) (n : Nat) (css : List (List Int)) : Prop :=
  n ≤ css.length ∧ ∃ (a : Option Addr) (cap : Nat), v = .slice a n cap ∧ n ≤ cap ∧
    (n = 0 ∨ ∃ b off, a = some ⟨b, off, none⟩ ∧ s1 ≤ b ∧ b < s2 ∧ ∀ i, i < n → ∃ vi, w.cell? ⟨b, off + i, none⟩ = some vi ∧ RdR s1 s2 w vi (css.getD i []))
theorem RdP.but {C : Nat → Prop} {s1 s2 : Nat} {w w' : World} {v : Value} {n : Nat} {css : List (List Int)} (h : RdP s1 s2 w v n css) (hs : s2 ≤ w.heap.size) (k : But C w w') (hc : ∀ b, s1 ≤ b → b < s2 → ¬ C b) : RdP s1 s2 w' v n css := by
  obtain ⟨h0, a, cap, rfl, hn, h⟩ := h
  refine ⟨h0, a, cap, rfl, hn, ?_⟩
  rcases h with h | ⟨b, off, rfl, h1, h2, h3⟩
  · exact .inl h
  · refine .inr ⟨b, off, rfl, h1, h2, fun i hi => ?_⟩
    obtain ⟨vi, e1, e2⟩ := h3 i hi
    exact ⟨vi, (k.cell (by omega) (hc b h1 h2)).trans e1, e2.but hs k hc⟩
theorem AppL.rdp {w : World} {base : Nat} {x : Value} {vs : List Value} {zss : List (List Int)} (h : AppL w base x vs zss) (hge : ∀ (i : Nat) u, vs[i]? = some u → ∀ k, u.ownBlock = some k → base ≤ k) : RdP base w.heap.size w x zss.length zss := by
  have hl := h.row.1
  have hlt := h.lt
  have h2 := h.row
  refine ⟨Nat.le_refl _, ?_⟩
  rcases h.row.2 with ⟨rfl, hz⟩ | ⟨g, cap, cur, rfl, hb, hg, hcap, _⟩
  · exact ⟨none, 0, by rw [hz], by omega, .inl hz⟩
  · refine ⟨_, _, rfl, hcap, .inr ⟨g, 0, rfl, hb, (hlt g rfl).2, fun i hi => ?_⟩⟩
    have hi' : i < vs.length := by omega
    have hE := h.each i _ (List.getElem?_eq_getElem hi')
    refine ⟨vs[i], ?_, ?_⟩
    · rw [Nat.zero_add, World.ownsRow.cellAt h2 i (by omega), List.getElem?_eq_getElem hi']
    · have hG := hge i _ (List.getElem?_eq_getElem hi')
      obtain ⟨a, c, e, hr⟩ := hE.rd
      refine ⟨a, c, e, ?_⟩
      rcases hr with hr | ⟨b, off, rfl, hb2, hc2⟩
      · exact .inl hr
      · exact .inr ⟨b, off, rfl, hG b (by rw [e]; rfl), hb2, hc2⟩
theorem RdP.rdl {s1 s2 : Nat} {w : World} {v : Value} {css : List (List Int)} (h : RdP s1 s2 w v css.length css) (hs : s2 ≤ w.heap.size) : RdL w v css := by
  obtain ⟨_, a, cap, rfl, _, h⟩ := h
  refine ⟨a, cap, rfl, ?_⟩
  rcases h with h | ⟨b, off, rfl, h1, h2, h3⟩
  · exact .inl (List.eq_nil_of_length_eq_zero h)
  · refine .inr ⟨b, off, rfl, by omega, fun i hi => ?_⟩
    obtain ⟨vi, e1, e2⟩ := h3 i hi
    exact ⟨vi, e1, e2.rd hs⟩
end Go.Proofs.YtfmcnkjpgaapaaaGreat

/- Plain mathematics of the numbers that the program picks among twelve: those that there are and that pass a test. -/
namespace Go.Proofs.YtfmcnkjpgaapaaaGreat

def tstE (f : Ev → Bool) (es : List Ev) (k : Nat) : Bool := decide (k < es.length) && f (es.getD k zE)
def chK (f : Ev → Bool) (es : List Ev) : Nat → List Int
  | 0 => []
  | k + 1 => if tstE f es k = true then chK f es k ++ [(k : Int)] else chK f es k
theorem chK_min (f : Ev → Bool) (es : List Ev) : ∀ k, chK f es k = idxK f es (min k es.length)
  | 0 => by simp [chK, idxK]
  | k + 1 => by
    rw [chK, chK_min f es k]
    by_cases h : k < es.length
    · rw [show min (k + 1) es.length = k + 1 by omega, show min k es.length = k by omega, idxK]
      simp [tstE, h]
    · rw [show min (k + 1) es.length = min k es.length by omega]
      simp [tstE, h]
theorem chK_all (f : Ev → Bool) (es : List Ev) (k : Nat) (h : es.length ≤ k) : chK f es k = idxK f es es.length := by
  rw [chK_min, Nat.min_eq_right h]
theorem chK_len (f : Ev → Bool) (es : List Ev) (k : Nat) : (chK f es k).length ≤ k := by
  rw [chK_min]
  have := idxK_len f es (min k es.length)
  omega
end Go.Proofs.YtfmcnkjpgaapaaaGreat

/- Contract of the program's ReadsOf: a new list of numbers. (Written by mknum.py.) -/
namespace Go.Proofs.YtfmcnkjpgaapaaaGreat
open Go.ChangeShapes Go.WideShapes Go.ChangeAt Go.RowKit

theorem rClo_any (x0 x1 : Int) (x2 : Bool) (x3 x4 x5 : Int) (w : World) :
    Calls Tryz.prog 102 #[.agg #[.int .i64 x0, .int .i64 x1, .bool x2, .int .i64 x3, .int .i64 x4, .int .i64 x5]] w fun e w' => e = .returned (.bool (rdE (x0, x1, x2, x3, x4, x5))) ∧ Keep w w' := by
  go_enter Tryz.func102, Tryz.ntmps102
  go_wp2
  go_ret
  exact ⟨rfl, (Keep.refl w).alloc _⟩
set_option maxRecDepth 100000 in
set_option maxHeartbeats 2000000 in
theorem rNum_any (w : World) (v : Value) (es : List Ev) (h : RdE w v es) (k : Nat) (A B : Nat) (hA : w.cell? ⟨A, 0, none⟩ = some v) (hAl : A < w.heap.size) (hB : w.cell? ⟨B, 0, none⟩ = some (.func (Fn.func 102) #[] #[])) (hBl : B < w.heap.size) :
    Calls Tryz.prog 126 #[.int .i64 k, .pointer (some ⟨A, 0, none⟩), .pointer (some ⟨B, 0, none⟩)] w fun e w' => e = .returned (.bool (tstE rdE es k)) ∧ Keep w w' := by
  obtain ⟨a, c, rfl, h⟩ := h
  by_cases hlt : k < es.length
  · rcases h with h | ⟨b, o, rfl, hb, hc⟩
    · exfalso; rw [h] at hlt; simp at hlt
    have AT := hc k _ (evs_get hlt)
    have HE : Hid (tstE rdE es k = rdE (es.getD k zE)) := Lib.hid (by unfold tstE; simp [hlt])
    clear hc
    obtain ⟨e, he⟩ : ∃ e, e = es.getD k zE := ⟨_, rfl⟩
    rw [← he] at AT HE
    clear he
    obtain ⟨x0, x1, x2, x3, x4, x5⟩ := e
    obtain ⟨d0, d1, d2, d3, d4, d5⟩ := atE AT
    clear AT
    have i1 : (0 : Int) ≤ (k : Int) := Int.natCast_nonneg _
    have i2 : (k : Int) < (es.length : Int) := by omega
    have z1 : b < w.drew.heap.size := hb
    have z2 : A < w.drew.heap.size := hAl
    have z3 : B < w.drew.heap.size := hBl
    go_enter Tryz.func126, Tryz.ntmps126
    go_wp2_with fail
    go_region_held3 (fun w' => w'.cell? ⟨A, 0, none⟩ = some (.slice (some ⟨b, o, none⟩) es.length (es.length + c)) ∧ w'.cell? ⟨B, 0, none⟩ = some (.func (Fn.func 102) #[] #[]) ∧ w'.cell? ⟨b, o + k * 6, none⟩ = some (.int .i64 x0) ∧ w'.cell? ⟨b, o + k * 6 + 1, none⟩ = some (.int .i64 x1) ∧ w'.cell? ⟨b, o + k * 6 + 2, none⟩ = some (.bool x2) ∧ w'.cell? ⟨b, o + k * 6 + 3, none⟩ = some (.int .i64 x3) ∧ w'.cell? ⟨b, o + k * 6 + 4, none⟩ = some (.int .i64 x4) ∧ w'.cell? ⟨b, o + k * 6 + 5, none⟩ = some (.int .i64 x5))
      (first | go_keep | (go_split_ands; refine ⟨?_, ?_, ?_, ?_, ?_, ?_, ?_, ?_⟩ <;> (rw [kk.cell (by assumption)]; assumption)))
      ((go_at_call 102; refine (rClo_any x0 x1 x2 x3 x4 x5 _).mono ?_; rintro e wz ⟨rfl, kk⟩))
    all_goals
      go_wp2
      go_ret
      exact ⟨by rw [HE.out]; rfl, ((Keep.refl w).drew).trans kk⟩
  · have HE : Hid (tstE rdE es k = false) := Lib.hid (by unfold tstE; simp [hlt])
    have i2 : ¬ ((k : Int) < (es.length : Int)) := by omega
    go_enter Tryz.func126, Tryz.ntmps126
    go_wp2_with fail
    go_quiet (fail)
    go_wp2
    go_ret
    exact ⟨by rw [HE.out]; rfl, (Keep.refl w).drewN _⟩

set_option maxRecDepth 100000 in
set_option maxHeartbeats 1000000 in
theorem rChosen_any (w : World) (v : Value) (es : List Ev) (h : RdE w v es) (hx : es.length ≤ 12) (A B : Nat) (hA : w.cell? ⟨A, 0, none⟩ = some v) (hAl : A < w.heap.size) (hB : w.cell? ⟨B, 0, none⟩ = some (.func (Fn.func 102) #[] #[])) (hBl : B < w.heap.size) :
    Calls Tryz.prog 125 #[.func (Fn.func 126) #[] #[.pointer (some ⟨A, 0, none⟩), .pointer (some ⟨B, 0, none⟩)]] w fun e w' => ∃ v', e = .returned v' ∧ Own w' w.heap.size v' (idxK rdE es es.length) ∧ Keep w w' := by
  have hown0 : Own (w.alloc (.cells #[] 2)) w.heap.size (.slice (some ⟨w.heap.size, 0, none⟩) 0 0) [] := World.ownsRow_lit w #[] 0 (Nat.le_refl _) (by decide) rfl
  obtain ⟨i0, hi, hz0, hz1, hz2⟩ := info_parts Tryz.infoI
  go_enter Tryz.func125, Tryz.ntmps125
  go_wp2
  go_loopw [3, 6] (fun v i wr => ∃ k : Nat, k ≤ 12 ∧ i = .int .i64 k ∧ Own wr w.heap.size v (chK rdE es k) ∧ Keep w wr) (fun _ i _ => 12 - (intOf i).toNat)
  case atStart => exact ⟨0, Nat.zero_le _, rfl, hown0, (Keep.refl _).alloc _⟩
  case round =>
    obtain ⟨k, hk, rfl, ho, hK⟩ := hrel
    clear hown0
    by_cases hlt : k < 12
    · have hml := chK_len rdE es k
      have hsz := hK.size
      have C := rNum_any wr v es (h.keep hK) k A B (by rw [hK.cell hAl]; exact hA) (Nat.lt_of_lt_of_le hAl hK.size) (by rw [hK.cell hBl]; exact hB) (Nat.lt_of_lt_of_le hBl hK.size)
      clear h hA hB
      cases hb : tstE rdE es k
      · have HM : Hid (chK rdE es (k + 1) = chK rdE es k) := Lib.hid (by rw [chK, hb]; rfl)
        rw [hb] at C
        go_wp2_with fail
        refine C.mono ?_
        rintro e w1 ⟨rfl, k1⟩
        go_wp2
        go_roundw
        case rel => exact ⟨k + 1, by omega, by go_num, by rw [HM.out]; exact ho.keep k1, hK.trans k1⟩
        case measure => simp [intOf]; omega
      · have HM : Hid (chK rdE es (k + 1) = chK rdE es k ++ [(k : Int)]) := Lib.hid (by rw [chK, hb]; rfl)
        rw [hb] at C
        go_wp2_with fail
        refine C.mono ?_
        rintro e w1 ⟨rfl, k1⟩
        have ho1 := ho.keep k1
        have hK1 := hK.trans k1
        have hsz1 := hK1.size
        clear ho hK C
        go_wp2_with (at_builtin; refine wpList_append_own _ rfl _ _ 25 rfl w.heap.size 2 i0 (.int .i64 0) 1 8 Tryz.underlying25 hi hz0 hz1 hz2 rfl (by decide) _ _ _ rfl (World.ownsRow.alloc ho1 _) ⟨_, 0, none⟩ 1 1 [.int .i64 k] rfl rfl ?c1 ?c2 ?c3 ?c4 ?c5 ?_)
        case c1 =>
          intro j u hj
          match j, hj with
          | 0, hj => simp at hj; subst hj; simp [Addr.add]
        case c2 => intro u hu; simp at hu; subst hu; rfl
        case c3 => unfold maxLen; omega
        case c4 => omega
        case c5 => simp; omega
        intro v' w2 hown' hgrow _
        have hK2 : Keep w w2 := (hK1.alloc _).grown hgrow ho1.ge
        clear hgrow
        go_wp2
        go_roundw
        case rel => exact ⟨k + 1, by omega, by go_num, by rw [HM.out]; exact own_hit hown', hK2⟩
        case measure => simp [intOf]; omega
    · obtain rfl : k = 12 := by omega
      rw [chK_all rdE es 12 hx] at ho
      go_wp2
      go_ret
      exact ⟨_, rfl, ho, hK⟩

set_option maxRecDepth 100000 in
set_option maxHeartbeats 1000000 in
theorem rNumbers_any (w : World) (v : Value) (es : List Ev) (h : RdE w v es) (hx : es.length ≤ 1048576) :
    Calls Tryz.prog 101 #[v, (.func (Fn.func 102) #[] #[])] w fun e w' => ∃ v', e = .returned v' ∧ Own w' w.heap.size v' (idxB rdE es) ∧ Keep w w' := by
  by_cases hl : 12 < es.length
  · have HE : Hid (idxB rdE es = []) := Lib.hid (by unfold idxB; rw [if_neg (by omega)])
    have l1 : (12 : Int) < (es.length : Int) := by omega
    have O : ∀ o1 o2 : Obj, Own (((w.alloc o1).alloc o2).alloc (.cells #[] 2)) w.heap.size (.slice (some ⟨w.heap.size + 1 + 1, 0, none⟩) 0 0) [] := fun o1 o2 => by
      have q : Own (((w.alloc o1).alloc o2).alloc (.cells #[] 2)) ((w.alloc o1).alloc o2).heap.size (.slice (some ⟨((w.alloc o1).alloc o2).heap.size, 0, none⟩) 0 0) [] := World.ownsRow_lit _ #[] 0 (Nat.le_refl _) (by decide) rfl
      have z : ((w.alloc o1).alloc o2).heap.size = w.heap.size + 1 + 1 := by rw [heap_size, heap_size]
      rw [z] at q
      exact q.base_le (by omega)
    obtain ⟨a, c, rfl, h⟩ := h
    go_enter Tryz.func101, Tryz.ntmps101
    go_wp2
    go_ret
    refine ⟨_, rfl, ?_, (((Keep.refl w).alloc _).alloc _).alloc _⟩
    rw [HE.out]
    exact O _ _
  · have l1 : es.length ≤ 12 := by omega
    have HE : Hid (idxB rdE es = idxK rdE es es.length) := Lib.hid (by unfold idxB; rw [if_pos l1])
    clear hl
    have C := fun (o1 o2 : Obj) => rChosen_any ((w.alloc o1).alloc o2) v es (h.keep (((Keep.refl w).alloc _).alloc _)) l1 w.heap.size (w.heap.size + 1)
    obtain ⟨a, c, rfl, h⟩ := h
    have l2 : (es.length : Int) ≤ 12 := by omega
    go_enter Tryz.func101, Tryz.ntmps101
    go_wp2_with fail
    refine (C _ _ ?g1 ?g2 ?g3 ?g4).mono ?_
    case g1 => simp
    case g2 => simp only [heap_size]; omega
    case g3 => simp
    case g4 => simp only [heap_size]; omega
    rintro e w1 ⟨v1, rfl, ho, hK⟩
    go_wp2
    go_ret
    refine ⟨_, rfl, ?_, (((Keep.refl w).alloc _).alloc _).trans hK⟩
    rw [HE.out]
    exact ho.base_le (by simp only [heap_size]; omega)

theorem implReadsOf_any (w : World) (v : Value) (es : List Ev) (h : RdE w v es) (hx : es.length ≤ 1048576) :
    Calls Tryz.prog 65 #[v] w fun e w' => ∃ v', e = .returned v' ∧ Own w' w.heap.size v' (idxB rdE es) ∧ Keep w w' := by
  go_enter Tryz.func65, Tryz.ntmps65
  go_wp2_with fail
  refine (rNumbers_any _ _ _ h hx).mono ?_
  rintro e w1 ⟨v1, rfl, ho, hK⟩
  go_wp2
  go_ret
  exact ⟨_, rfl, ho, hK⟩
end Go.Proofs.YtfmcnkjpgaapaaaGreat

/- Contract of the program's WritesTo: a new list of numbers. (Written by mknum.py.) -/
namespace Go.Proofs.YtfmcnkjpgaapaaaGreat
open Go.ChangeShapes Go.WideShapes Go.ChangeAt Go.RowKit

set_option maxHeartbeats 1000000 in
theorem wClo_any (x0 x1 : Int) (x2 : Bool) (x3 x4 x5 p : Int) (P : Nat) (w : World) (hP : w.cell? ⟨P, 0, none⟩ = some (.int .i64 p)) (hPl : P < w.heap.size) :
    Calls Tryz.prog 105 #[.agg #[.int .i64 x0, .int .i64 x1, .bool x2, .int .i64 x3, .int .i64 x4, .int .i64 x5], .pointer (some ⟨P, 0, none⟩)] w fun e w' => e = .returned (.bool (toE p (x0, x1, x2, x3, x4, x5))) ∧ Keep w w' := by
  cases x2
  · by_cases hp : x3 = p
    · subst hp
      go_enter Tryz.func105, Tryz.ntmps105
      go_wp2
      go_ret
      exact ⟨ret_bool (by simp [toE]), (Keep.refl w).alloc _⟩
    · have he : (x3 == p) = false := by simpa using hp
      go_enter Tryz.func105, Tryz.ntmps105
      go_wp2
      go_ret
      exact ⟨ret_bool (by simp [toE, hp]), (Keep.refl w).alloc _⟩
  · go_enter Tryz.func105, Tryz.ntmps105
    go_wp2
    go_ret
    exact ⟨ret_bool (by simp [toE]), (Keep.refl w).alloc _⟩
set_option maxRecDepth 100000 in
set_option maxHeartbeats 2000000 in
theorem wNum_any (w : World) (v : Value) (es : List Ev) (h : RdE w v es) (k : Nat) (A B : Nat) (p : Int) (P : Nat) (hP : w.cell? ⟨P, 0, none⟩ = some (.int .i64 p)) (hPl : P < w.heap.size) (hA : w.cell? ⟨A, 0, none⟩ = some v) (hAl : A < w.heap.size) (hB : w.cell? ⟨B, 0, none⟩ = some (.func (Fn.func 105) #[] #[.pointer (some ⟨P, 0, none⟩)])) (hBl : B < w.heap.size) :
    Calls Tryz.prog 126 #[.int .i64 k, .pointer (some ⟨A, 0, none⟩), .pointer (some ⟨B, 0, none⟩)] w fun e w' => e = .returned (.bool (tstE (toE p) es k)) ∧ Keep w w' := by
  obtain ⟨a, c, rfl, h⟩ := h
  by_cases hlt : k < es.length
  · rcases h with h | ⟨b, o, rfl, hb, hc⟩
    · exfalso; rw [h] at hlt; simp at hlt
    have AT := hc k _ (evs_get hlt)
    have HE : Hid (tstE (toE p) es k = (toE p) (es.getD k zE)) := Lib.hid (by unfold tstE; simp [hlt])
    clear hc
    obtain ⟨e, he⟩ : ∃ e, e = es.getD k zE := ⟨_, rfl⟩
    rw [← he] at AT HE
    clear he
    obtain ⟨x0, x1, x2, x3, x4, x5⟩ := e
    obtain ⟨d0, d1, d2, d3, d4, d5⟩ := atE AT
    clear AT
    have i1 : (0 : Int) ≤ (k : Int) := Int.natCast_nonneg _
    have i2 : (k : Int) < (es.length : Int) := by omega
    have z1 : b < w.drew.heap.size := hb
    have z2 : A < w.drew.heap.size := hAl
    have z3 : B < w.drew.heap.size := hBl
    have z4 : P < w.drew.heap.size := hPl
    go_enter Tryz.func126, Tryz.ntmps126
    go_wp2_with fail
    go_region_held3 (fun w' => w'.cell? ⟨A, 0, none⟩ = some (.slice (some ⟨b, o, none⟩) es.length (es.length + c)) ∧ w'.cell? ⟨B, 0, none⟩ = some (.func (Fn.func 105) #[] #[.pointer (some ⟨P, 0, none⟩)]) ∧ w'.cell? ⟨P, 0, none⟩ = some (.int .i64 p) ∧ w'.cell? ⟨b, o + k * 6, none⟩ = some (.int .i64 x0) ∧ w'.cell? ⟨b, o + k * 6 + 1, none⟩ = some (.int .i64 x1) ∧ w'.cell? ⟨b, o + k * 6 + 2, none⟩ = some (.bool x2) ∧ w'.cell? ⟨b, o + k * 6 + 3, none⟩ = some (.int .i64 x3) ∧ w'.cell? ⟨b, o + k * 6 + 4, none⟩ = some (.int .i64 x4) ∧ w'.cell? ⟨b, o + k * 6 + 5, none⟩ = some (.int .i64 x5))
      (first | go_keep | (go_split_ands; refine ⟨?_, ?_, ?_, ?_, ?_, ?_, ?_, ?_, ?_⟩ <;> (rw [kk.cell (by assumption)]; assumption)))
      ((go_at_call 105; refine (wClo_any x0 x1 x2 x3 x4 x5 p P _ (by assumption) (by assumption)).mono ?_; rintro e wz ⟨rfl, kk⟩))
    all_goals
      go_wp2
      go_ret
      exact ⟨by rw [HE.out]; rfl, ((Keep.refl w).drew).trans kk⟩
  · have HE : Hid (tstE (toE p) es k = false) := Lib.hid (by unfold tstE; simp [hlt])
    have i2 : ¬ ((k : Int) < (es.length : Int)) := by omega
    go_enter Tryz.func126, Tryz.ntmps126
    go_wp2_with fail
    go_quiet (fail)
    go_wp2
    go_ret
    exact ⟨by rw [HE.out]; rfl, (Keep.refl w).drewN _⟩

set_option maxRecDepth 100000 in
set_option maxHeartbeats 1000000 in
theorem wChosen_any (w : World) (v : Value) (es : List Ev) (h : RdE w v es) (hx : es.length ≤ 12) (A B : Nat) (p : Int) (P : Nat) (hP : w.cell? ⟨P, 0, none⟩ = some (.int .i64 p)) (hPl : P < w.heap.size) (hA : w.cell? ⟨A, 0, none⟩ = some v) (hAl : A < w.heap.size) (hB : w.cell? ⟨B, 0, none⟩ = some (.func (Fn.func 105) #[] #[.pointer (some ⟨P, 0, none⟩)])) (hBl : B < w.heap.size) :
    Calls Tryz.prog 125 #[.func (Fn.func 126) #[] #[.pointer (some ⟨A, 0, none⟩), .pointer (some ⟨B, 0, none⟩)]] w fun e w' => ∃ v', e = .returned v' ∧ Own w' w.heap.size v' (idxK (toE p) es es.length) ∧ Keep w w' := by
  have hown0 : Own (w.alloc (.cells #[] 2)) w.heap.size (.slice (some ⟨w.heap.size, 0, none⟩) 0 0) [] := World.ownsRow_lit w #[] 0 (Nat.le_refl _) (by decide) rfl
  obtain ⟨i0, hi, hz0, hz1, hz2⟩ := info_parts Tryz.infoI
  go_enter Tryz.func125, Tryz.ntmps125
  go_wp2
  go_loopw [3, 6] (fun v i wr => ∃ k : Nat, k ≤ 12 ∧ i = .int .i64 k ∧ Own wr w.heap.size v (chK (toE p) es k) ∧ Keep w wr) (fun _ i _ => 12 - (intOf i).toNat)
  case atStart => exact ⟨0, Nat.zero_le _, rfl, hown0, (Keep.refl _).alloc _⟩
  case round =>
    obtain ⟨k, hk, rfl, ho, hK⟩ := hrel
    clear hown0
    by_cases hlt : k < 12
    · have hml := chK_len (toE p) es k
      have hsz := hK.size
      have C := wNum_any wr v es (h.keep hK) k A B p P (by rw [hK.cell hPl]; exact hP) (Nat.lt_of_lt_of_le hPl hK.size) (by rw [hK.cell hAl]; exact hA) (Nat.lt_of_lt_of_le hAl hK.size) (by rw [hK.cell hBl]; exact hB) (Nat.lt_of_lt_of_le hBl hK.size)
      clear h hA hB
      cases hb : tstE (toE p) es k
      · have HM : Hid (chK (toE p) es (k + 1) = chK (toE p) es k) := Lib.hid (by rw [chK, hb]; rfl)
        rw [hb] at C
        go_wp2_with fail
        refine C.mono ?_
        rintro e w1 ⟨rfl, k1⟩
        go_wp2
        go_roundw
        case rel => exact ⟨k + 1, by omega, by go_num, by rw [HM.out]; exact ho.keep k1, hK.trans k1⟩
        case measure => simp [intOf]; omega
      · have HM : Hid (chK (toE p) es (k + 1) = chK (toE p) es k ++ [(k : Int)]) := Lib.hid (by rw [chK, hb]; rfl)
        rw [hb] at C
        go_wp2_with fail
        refine C.mono ?_
        rintro e w1 ⟨rfl, k1⟩
        have ho1 := ho.keep k1
        have hK1 := hK.trans k1
        have hsz1 := hK1.size
        clear ho hK C
        go_wp2_with (at_builtin; refine wpList_append_own _ rfl _ _ 25 rfl w.heap.size 2 i0 (.int .i64 0) 1 8 Tryz.underlying25 hi hz0 hz1 hz2 rfl (by decide) _ _ _ rfl (World.ownsRow.alloc ho1 _) ⟨_, 0, none⟩ 1 1 [.int .i64 k] rfl rfl ?c1 ?c2 ?c3 ?c4 ?c5 ?_)
        case c1 =>
          intro j u hj
          match j, hj with
          | 0, hj => simp at hj; subst hj; simp [Addr.add]
        case c2 => intro u hu; simp at hu; subst hu; rfl
        case c3 => unfold maxLen; omega
        case c4 => omega
        case c5 => simp; omega
        intro v' w2 hown' hgrow _
        have hK2 : Keep w w2 := (hK1.alloc _).grown hgrow ho1.ge
        clear hgrow
        go_wp2
        go_roundw
        case rel => exact ⟨k + 1, by omega, by go_num, by rw [HM.out]; exact own_hit hown', hK2⟩
        case measure => simp [intOf]; omega
    · obtain rfl : k = 12 := by omega
      rw [chK_all (toE p) es 12 hx] at ho
      go_wp2
      go_ret
      exact ⟨_, rfl, ho, hK⟩

set_option maxRecDepth 100000 in
set_option maxHeartbeats 1000000 in
theorem wNumbers_any (w : World) (v : Value) (es : List Ev) (h : RdE w v es) (hx : es.length ≤ 1048576) (p : Int) (P : Nat) (hP : w.cell? ⟨P, 0, none⟩ = some (.int .i64 p)) (hPl : P < w.heap.size) :
    Calls Tryz.prog 101 #[v, (.func (Fn.func 105) #[] #[.pointer (some ⟨P, 0, none⟩)])] w fun e w' => ∃ v', e = .returned v' ∧ Own w' w.heap.size v' (idxB (toE p) es) ∧ Keep w w' := by
  by_cases hl : 12 < es.length
  · have HE : Hid (idxB (toE p) es = []) := Lib.hid (by unfold idxB; rw [if_neg (by omega)])
    have l1 : (12 : Int) < (es.length : Int) := by omega
    have O : ∀ o1 o2 : Obj, Own (((w.alloc o1).alloc o2).alloc (.cells #[] 2)) w.heap.size (.slice (some ⟨w.heap.size + 1 + 1, 0, none⟩) 0 0) [] := fun o1 o2 => by
      have q : Own (((w.alloc o1).alloc o2).alloc (.cells #[] 2)) ((w.alloc o1).alloc o2).heap.size (.slice (some ⟨((w.alloc o1).alloc o2).heap.size, 0, none⟩) 0 0) [] := World.ownsRow_lit _ #[] 0 (Nat.le_refl _) (by decide) rfl
      have z : ((w.alloc o1).alloc o2).heap.size = w.heap.size + 1 + 1 := by rw [heap_size, heap_size]
      rw [z] at q
      exact q.base_le (by omega)
    obtain ⟨a, c, rfl, h⟩ := h
    go_enter Tryz.func101, Tryz.ntmps101
    go_wp2
    go_ret
    refine ⟨_, rfl, ?_, (((Keep.refl w).alloc _).alloc _).alloc _⟩
    rw [HE.out]
    exact O _ _
  · have l1 : es.length ≤ 12 := by omega
    have HE : Hid (idxB (toE p) es = idxK (toE p) es es.length) := Lib.hid (by unfold idxB; rw [if_pos l1])
    clear hl
    have C := fun (o1 o2 : Obj) => wChosen_any ((w.alloc o1).alloc o2) v es (h.keep (((Keep.refl w).alloc _).alloc _)) l1 w.heap.size (w.heap.size + 1) p P (by rw [Keep.cell (((Keep.refl w).alloc _).alloc _) hPl]; exact hP) (Nat.lt_of_lt_of_le hPl (Keep.size (((Keep.refl w).alloc _).alloc _)))
    obtain ⟨a, c, rfl, h⟩ := h
    have l2 : (es.length : Int) ≤ 12 := by omega
    go_enter Tryz.func101, Tryz.ntmps101
    go_wp2_with fail
    refine (C _ _ ?g1 ?g2 ?g3 ?g4).mono ?_
    case g1 => simp
    case g2 => simp only [heap_size]; omega
    case g3 => simp
    case g4 => simp only [heap_size]; omega
    rintro e w1 ⟨v1, rfl, ho, hK⟩
    go_wp2
    go_ret
    refine ⟨_, rfl, ?_, (((Keep.refl w).alloc _).alloc _).trans hK⟩
    rw [HE.out]
    exact ho.base_le (by simp only [heap_size]; omega)

theorem implWritesTo_any (w : World) (v : Value) (es : List Ev) (h : RdE w v es) (hx : es.length ≤ 1048576) (p : Int) :
    Calls Tryz.prog 68 #[v, .int .i64 p] w fun e w' => ∃ v', e = .returned v' ∧ Own w' w.heap.size v' (idxB (toE p) es) ∧ Keep w w' := by
  have C := fun (o1 : Obj) => wNumbers_any (w.alloc o1) v es (h.keep ((Keep.refl w).alloc _)) hx p w.heap.size
  go_enter Tryz.func68, Tryz.ntmps68
  go_wp2_with fail
  refine (C _ ?g1 ?g2).mono ?_
  case g1 => simp
  case g2 => simp only [heap_size]; omega
  rintro e w1 ⟨v1, rfl, ho, hK⟩
  go_wp2
  go_ret
  exact ⟨_, rfl, ho.base_le (by simp only [heap_size]; omega), ((Keep.refl w).alloc _).trans hK⟩
end Go.Proofs.YtfmcnkjpgaapaaaGreat

/- Contract of the program's choicesOf. -/
namespace Go.Proofs.YtfmcnkjpgaapaaaGreat
open Go.ChangeShapes Go.WideShapes Go.ChangeAt Go.RowKit

theorem cell_list {w : World} {b : Nat} {v : Value} (h : w.cell? ⟨b, 0, none⟩ = some v) : ∀ j u, ([v] : List Value)[j]? = some u → w.cell? ((⟨b, 0, none⟩ : Addr).add j) = some u := by
  intro j u hj
  match j, hj with
  | 0, hj =>
    simp at hj
    subst hj
    exact h
  | k + 1, hj => simp at hj
/-- All these lie from block s on. -/
def Ge (s : Nat) (vs : List Value) : Prop := ∀ (i : Nat) u, vs[i]? = some u → ∀ k, u.ownBlock = some k → s ≤ k
theorem Ge.push {s : Nat} {vs : List Value} {u : Value} (h : Ge s vs) (hu : ∀ k, u.ownBlock = some k → s ≤ k) : Ge s (vs ++ [u]) := by
  intro i y hy
  by_cases hi : i < vs.length
  · rw [List.getElem?_append_left hi] at hy
    exact h i y hy
  · rw [List.getElem?_append_right (by omega)] at hy
    have : i - vs.length = 0 := by
      have := (List.getElem?_eq_some_iff.1 hy).1
      simp at this
      omega
    rw [this] at hy
    simp only [List.getElem?_cons_zero, Option.some.injEq] at hy
    subst hy
    exact hu
set_option maxRecDepth 100000 in
set_option maxHeartbeats 2000000 in
theorem choicesOf_any (w : World) (v : Value) (es : List Ev) (h : RdE w v es) (hx : es.length ≤ 12) :
    Calls Tryz.prog 92 #[v] w fun e w' => ∃ v', e = .returned v' ∧ RdP w.heap.size w'.heap.size w' v' (chcL es).length (chcL es) ∧ Keep w w' := by
  obtain ⟨i0, hi, hz0, hz1, hz2⟩ := info_parts Tryz.infoL
  have A0 := appL_empty w
  have rl : (idxB rdE es).length ≤ 12 := by
    unfold idxB
    rw [if_pos hx]
    have := idxK_len rdE es es.length
    omega
  have rin : ∀ i, i < (idxB rdE es).length → 0 ≤ (idxB rdE es).getD i 0 ∧ (idxB rdE es).getD i 0 < (es.length : Int) := by
    intro i hi
    have hm : (idxB rdE es).getD i 0 ∈ idxB rdE es := by
      rw [List.getD_eq_getElem?_getD, List.getElem?_eq_getElem hi]
      exact List.getElem_mem hi
    refine idxK_lt rdE es _ _ ?_
    unfold idxB at hm ⊢
    rw [if_pos hx] at hm ⊢
    exact hm
  have HL : Hid (chcL es = chcK es (idxB rdE es) (idxB rdE es).length) := Lib.hid rfl
  go_enter Tryz.func92, Tryz.ntmps92
  go_wp2_with fail
  refine (implReadsOf_any _ _ _ (h.keep ((Keep.refl w).alloc _)) (by omega)).mono ?_
  rintro e w1 ⟨vr, rfl, or1, k1⟩
  generalize idxB rdE es = rs at rl rin HL or1
  have A1 := A0.keep k1
  have K1 : Keep w w1 := ((Keep.refl w).alloc _).trans k1
  have R1 : Beside w1 (.slice (some ⟨w.heap.size, 0, none⟩) 0 0) vr rs := or1.beside (fun k hk => by rw [heap_size]; simp [Value.ownBlock] at hk; omega)
  have RIN := Lib.hid rin
  obtain ⟨ar, cr, rfl, -⟩ := R1.rd
  clear A0 k1 or1 rin
  go_wp2
  go_loopw [3, 10] (fun x i wr => ∃ k : Nat, ∃ vs : List Value, k ≤ rs.length ∧ i = .int .i64 k ∧ Ge w.heap.size vs ∧ AppL wr w.heap.size x vs (chcK es rs k) ∧ Beside wr x (.slice ar rs.length cr) rs ∧ Keep w wr) (fun _ i _ => rs.length - (intOf i).toNat)
  case atStart => exact ⟨0, [], Nat.zero_le _, rfl, fun i u h => by simp at h, A1, R1, K1⟩
  case round =>
    obtain ⟨k, vs, hk, rfl, hG, hA, hB, hK⟩ := hrel
    clear A1 R1 K1
    by_cases hlt : k < rs.length
    · have hr := RIN.out k hlt
      obtain ⟨r, hr'⟩ := Int.eq_ofNat_of_zero_le hr.1
      have hre : r < es.length := by omega
      have hRd := hB.rd
      obtain ⟨a', c', he', hRd⟩ := hRd
      simp only [Value.slice.injEq, true_and] at he'
      obtain ⟨rfl, rfl⟩ := he'
      rcases hRd with h0 | ⟨br, or', rfl, hbr, hcr⟩
      · exfalso; rw [h0] at hlt; simp at hlt
      have d1 := hcr k hlt
      rw [hr'] at d1
      have HC : Hid (chcK es rs (k + 1) = chcK es rs k ++ [idxB (toE (plE es (r : Int))) es]) := Lib.hid (by rw [chcK, hr'])
      have HP : Hid (plE es (r : Int) = (es.getD r zE).2.2.2.1) := Lib.hid (by unfold plE; rw [Int.toNat_natCast])
      clear hr hr' hcr
      have hE := h.keep hK
      obtain ⟨ae, ce, rfl, h2⟩ := id hE
      rcases h2 with h0 | ⟨be, oe, rfl, hbe, hce⟩
      · exfalso; rw [h0] at hre; simp at hre
      have AT := hce r _ (evs_get hre)
      clear hce
      generalize es.getD r zE = e at AT HP
      obtain ⟨x0, x1, x2, x3, x4, x5⟩ := e
      obtain ⟨-, -, -, q3, -, -⟩ := atE AT
      clear AT
      simp only at HP
      rw [HP.out] at HC
      clear HP
      have i1 : (0 : Int) ≤ (k : Int) := Int.natCast_nonneg _
      have i2 : (k : Int) < (rs.length : Int) := by omega
      have j1 : (0 : Int) ≤ (r : Int) := Int.natCast_nonneg _
      have j2 : (r : Int) < (es.length : Int) := by omega
      have hcl := chcK_len es rs k
      go_wp2_with fail
      refine (implWritesTo_any _ _ _ hE (by omega) _).mono ?_
      rintro e w2 ⟨v2, rfl, o2, k2⟩
      obtain ⟨D, hD⟩ : ∃ D, D = chcK es rs k := ⟨_, rfl⟩
      rw [← hD] at hA HC hcl
      clear hD
      generalize idxB (toE x3) es = zs at o2 HC
      have hA2 := (hA.keep k2).keep ((Keep.refl w2).alloc (.cells #[v2] 25))
      have hB2 := (hB.keep k2).keep ((Keep.refl w2).alloc (.cells #[v2] 25))
      have hU : Beside (w2.alloc (.cells #[v2] 25)) _ v2 zs := (o2.beside (x := u3) (fun k hk => (hA.lt k hk).2)).keep ((Keep.refl w2).alloc _)
      have hK2 := hK.trans k2
      have hsz := hK2.size
      have hG2 := hG.push (fun k hk => Nat.le_trans hK.size (o2.ge k hk))
      obtain ⟨a2, c2, hv2, -⟩ := o2.rd
      clear hA hB o2
      generalize zs.length = nz at hv2
      subst hv2
      go_wp2_with (at_builtin; refine wpList_append_own_at _ rfl _ _ 83 rfl w.heap.size 25 i0 (.slice none 0 0) 1 24 Tryz.underlying83 hi hz0 hz1 hz2 rfl (by decide) _ _ _ rfl hA2.row ⟨_, 0, none⟩ 1 1 [.slice a2 nz c2] rfl rfl ?c1 ?c2 ?c3 ?c4 ?c5 ?_)
      case c1 => exact cell_list (Boxed.new _ _ _).cell
      case c2 => intro u hu; simp at hu; subst hu; rfl
      case c3 => unfold maxLen; omega
      case c4 => omega
      case c5 => first | omega | (simp; omega)
      intro v' w3 hown' hgrow _ hblk
      have hblk' : v'.ownBlock = u3.ownBlock ∨ v'.ownBlock = some (w2.alloc (.cells #[.slice a2 nz c2] 25)).heap.size := by rw [heap_size]; exact hblk
      have hA3 := hA2.push hU (by rw [hcl]; exact hown') hgrow hblk'
      have hB3 := hB2.grow hgrow hblk'
      have hK3 : Keep w w3 := (hK2.alloc _).grown hgrow (fun k hk => (hA2.lt k hk).1)
      clear hown' hgrow hblk hblk' hA2 hB2 hU
      go_wp2
      go_roundw
      case rel => exact ⟨k + 1, _, by omega, by go_num, hG2, by rw [HC.out]; exact hA3, hB3, hK3⟩
      case measure => simp [intOf]; omega
    · obtain rfl : k = rs.length := by omega
      have HR := Lib.hid (hA.rdp hG)
      go_wp2
      go_ret
      exact ⟨_, rfl, by rw [HL.out]; exact HR.out, hK⟩
end Go.Proofs.YtfmcnkjpgaapaaaGreat

/- Is a number in a list: plain. -/
namespace Go.Proofs.YtfmcnkjpgaapaaaGreat

theorem isB_take {l : List Int} {n : Int} (h : ∀ i, i < l.length → l.getD i 0 ≠ n) : isB l n = false := by
  unfold isB
  rw [List.any_eq_false]
  intro x hx
  obtain ⟨i, hi, e⟩ := List.getElem_of_mem hx
  have := h i hi
  rw [List.getD_eq_getElem?_getD, List.getElem?_eq_getElem hi] at this
  simp only [Option.getD_some] at this
  rw [← e]
  simpa using this
theorem isB_at {l : List Int} {n : Int} {i : Nat} (hi : i < l.length) (h : l.getD i 0 = n) : isB l n = true := by
  unfold isB
  rw [List.any_eq_true]
  refine ⟨n, ?_, by simp⟩
  rw [← h, List.getD_eq_getElem?_getD, List.getElem?_eq_getElem hi]
  exact List.getElem_mem hi
end Go.Proofs.YtfmcnkjpgaapaaaGreat

/- Contracts of slices.Index and slices.Contains of a list of numbers. -/
namespace Go.Proofs.YtfmcnkjpgaapaaaGreat
open Go.ChangeShapes Go.WideShapes Go.ChangeAt Go.RowKit

set_option maxHeartbeats 1000000 in
theorem index_any (w : World) (v : Value) (zs : List Int) (h : Rd w v zs) (hn : zs.length ≤ 1048576) (n : Int) :
    Calls Tryz.prog 123 #[v, .int .i64 n] w fun e w' => ∃ r : Int, e = .returned (.int .i64 r) ∧ Hid (decide (0 ≤ r) = isB zs n) ∧ w' = w := by
  obtain ⟨a, c, rfl, h⟩ := h
  go_enter Tryz.func123, Tryz.ntmps123
  go_wp2
  go_loop [8] (fun i => ∃ k : Nat, k ≤ zs.length ∧ i = .int .i64 k ∧ Hid (∀ i, i < k → zs.getD i 0 ≠ n)) (fun i => zs.length - (intOf i).toNat)
  case atStart => exact ⟨0, Nat.zero_le _, rfl, Lib.hid (fun i hi => absurd hi (Nat.not_lt_zero _))⟩
  case round =>
    obtain ⟨k, hk, rfl, hno⟩ := hrel
    by_cases hlt : k < zs.length
    · rcases h with h | ⟨b, o, rfl, hb, hc⟩
      · exfalso; rw [h] at hlt; simp at hlt
      have d1 := hc k hlt
      obtain ⟨p, hp⟩ : ∃ p, p = zs.getD k 0 := ⟨_, rfl⟩
      have HP := Lib.hid hp
      rw [← hp] at d1
      clear hc hp
      have i1 : (0 : Int) ≤ (k : Int) := Int.natCast_nonneg _
      have i2 : (k : Int) < (zs.length : Int) := by omega
      by_cases he : p = n
      · have hb : (n == p) = true := by simp [he]
        have HE : Hid (isB zs n = true) := Lib.hid (isB_at hlt (by rw [← HP.out]; exact he))
        clear he
        go_wp2
        go_ret
        exact ⟨k, rfl, Lib.hid (by rw [HE.out]; simp), rfl⟩
      · have hb : (n == p) = false := by simp; exact fun h => he h.symm
        have HE : Hid (∀ i, i < k + 1 → zs.getD i 0 ≠ n) := Lib.hid (fun i hi => by
          by_cases e : i = k
          · subst e; rw [← HP.out]; exact he
          · exact hno.out i (by omega))
        clear he
        go_wp2
        go_round
        case rel => exact ⟨k + 1, by omega, by go_num, HE⟩
        case measure => simp [intOf]; omega
    · obtain rfl : k = zs.length := by omega
      have HE : Hid (isB zs n = false) := Lib.hid (isB_take hno.out)
      go_wp2
      go_ret
      exact ⟨-1, rfl, Lib.hid (by rw [HE.out]; rfl), rfl⟩
theorem contains_any (w : World) (v : Value) (zs : List Int) (h : Rd w v zs) (hn : zs.length ≤ 1048576) (n : Int) :
    Calls Tryz.prog 94 #[v, .int .i64 n] w fun e w' => e = .returned (.bool (isB zs n)) ∧ w' = w := by
  go_enter Tryz.func94, Tryz.ntmps94
  go_wp2_with fail
  refine (index_any _ _ _ h hn _).mono ?_
  rintro e w1 ⟨r, rfl, hr, rfl⟩
  go_wp2
  go_ret
  exact ⟨by rw [← hr.out]; rfl, rfl⟩
end Go.Proofs.YtfmcnkjpgaapaaaGreat

/- Contract of the program's SourceOk. -/
namespace Go.Proofs.YtfmcnkjpgaapaaaGreat
open Go.ChangeShapes Go.WideShapes Go.ChangeAt Go.RowKit

set_option maxRecDepth 100000 in
set_option maxHeartbeats 2000000 in
theorem implSourceOk_any (w : World) (v vf : Value) (dss : List (List Dd)) (f : List Int) (h : RdW w v dss) (hf : Rd w vf f) (hx : dss.length ≤ 1048576) (hm : ∀ i, i < dss.length → (dss.getD i []).length ≤ 1048576) (hfl : f.length ≤ 1048576) :
    Calls Tryz.prog 62 #[v, vf] w fun e w' => e = .returned (.bool (sourceB dss f)) ∧ Keep w w' := by
  have h12 : (eventsB dss).length ≤ 12 := by have := eventsB_len9 dss; omega
  obtain ⟨cl1, cl2⟩ := chc_len h12
  go_enter Tryz.func62, Tryz.ntmps62
  go_wp2_with fail
  refine (implEventsOf_any _ _ _ h hx hm).mono ?_
  rintro e w2 ⟨v2, rfl, a2, k2⟩
  go_wp2_with fail
  refine (choicesOf_any _ _ _ a2.rd h12).mono ?_
  rintro e w3 ⟨v3, rfl, rp, k3⟩
  have K3 := k2.trans k3
  have rc := rp.rdl (Nat.le_refl _)
  have hf3 := hf.keep K3
  have HE : Hid (sourceB dss f = (workB dss && srcB (chcL (eventsB dss)) f)) := Lib.hid rfl
  generalize chcL (eventsB dss) = c at rc HE cl1 cl2
  obtain ⟨ac, cc, rfl, -⟩ := id rc
  obtain ⟨af, cf, rfl, -⟩ := id hf3
  go_wp2_with fail
  refine (implWorkOk_any _ _ _ (h.keep K3) hx hm).mono ?_
  rintro e w4 ⟨rfl, k4⟩
  have K4 := K3.trans k4
  have hf4 := hf3.keep k4
  have rc4 := rc.keep k4
  clear h a2 k2 k3 rp rc hf hf3 K3 k4 hx hm h12
  cases hb : workB dss
  · have HN : Hid (sourceB dss f = false) := Lib.hid (by rw [HE.out, hb]; rfl)
    go_wp2
    go_ret
    exact ⟨by rw [HN.out]; rfl, K4⟩
  have HE2 : Hid (sourceB dss f = srcB c f) := Lib.hid (by rw [HE.out, hb]; rfl)
  clear HE
  by_cases hl : c.length = f.length
  · have hlb : ((f.length : Int) != (c.length : Int)) = false := by simp [hl]
    have l1 : f.length ≤ c.length := by omega
    have l2 : c.length ≤ f.length := by omega
    have HS : Hid (srcB c f = srcK c f f.length) := Lib.hid (by unfold srcB; simp [hl])
    clear hl
    go_wp2
    go_loopw [23] (fun i wr => ∃ k : Nat, k ≤ f.length ∧ i = .int .i64 k ∧ Hid (srcK c f k = true) ∧ Keep w4 wr) (fun i _ => f.length - (intOf i).toNat)
    case atStart => exact ⟨0, Nat.zero_le _, rfl, Lib.hid rfl, Keep.refl _⟩
    case round =>
      obtain ⟨k, hk, rfl, hS, hK⟩ := hrel
      by_cases hlt : k < f.length
      · have rck := rc4.keep hK
        have hfk := hf4.keep hK
        obtain ⟨a', c', he', rck⟩ := rck
        simp only [Value.slice.injEq, true_and] at he'
        obtain ⟨rfl, rfl⟩ := he'
        rcases rck with h | ⟨b, o, rfl, hbb, hc⟩
        · exfalso; rw [h] at l1; simp only [List.length_nil] at l1; omega
        obtain ⟨a', c', he', hfk⟩ := hfk
        simp only [Value.slice.injEq, true_and] at he'
        obtain ⟨rfl, rfl⟩ := he'
        rcases hfk with h | ⟨b2, o2, rfl, hb2, hc2⟩
        · exfalso; rw [h] at hlt; simp at hlt
        obtain ⟨vi, d1, r2⟩ := hc k (by omega)
        have d2 := hc2 k hlt
        have ck := cl2 k (by omega)
        clear hc hc2
        have HB : Hid (srcK c f (k + 1) = (srcK c f k && isB (c.getD k []) (f.getD k 0))) := Lib.hid rfl
        generalize f.getD k 0 = n at d2 HB
        generalize c.getD k [] = zs at r2 ck HB
        obtain ⟨az, cz, rfl, -⟩ := id r2
        have i1 : (0 : Int) ≤ (k : Int) := Int.natCast_nonneg _
        have i2 : (k : Int) < (c.length : Int) := by omega
        have i3 : (k : Int) < (f.length : Int) := by omega
        cases hi : isB zs n
        · have HN : Hid (srcK c f f.length = false) := Lib.hid (srcK_false (k := k + 1) (by rw [HB.out, hi, Bool.and_false]) _ hlt)
          have CI := contains_any wr _ zs r2 (by omega) n
          rw [hi] at CI
          go_wp2_with fail
          refine CI.mono ?_
          rintro e w5 ⟨rfl, rfl⟩
          go_wp2
          go_ret
          exact ⟨by rw [HE2.out, HS.out, HN.out]; rfl, K4.trans hK⟩
        · have HN : Hid (srcK c f (k + 1) = true) := Lib.hid (by rw [HB.out, hi, hS.out]; rfl)
          have CI := contains_any wr _ zs r2 (by omega) n
          rw [hi] at CI
          go_wp2_with fail
          refine CI.mono ?_
          rintro e w5 ⟨rfl, rfl⟩
          go_wp2
          go_roundw
          case rel => exact ⟨k + 1, by omega, by go_num, HN, hK⟩
          case measure => simp [intOf]; omega
      · obtain rfl : k = f.length := by omega
        go_wp2
        go_ret
        exact ⟨by rw [HE2.out, HS.out, hS.out]; rfl, K4.trans hK⟩
  · have hlb : ((f.length : Int) != (c.length : Int)) = true := by simp; omega
    have HS : Hid (srcB c f = false) := Lib.hid (by unfold srcB; simp [hl])
    clear hl
    go_wp2
    go_ret
    exact ⟨by rw [HE2.out, HS.out]; rfl, K4⟩
end Go.Proofs.YtfmcnkjpgaapaaaGreat

/- Contract of the program's FromWeb. -/
namespace Go.Proofs.YtfmcnkjpgaapaaaGreat
open Go.ChangeShapes Go.WideShapes Go.ChangeAt Go.RowKit

theorem workB_useI {dss : List (List Dd)} {f : List Int} (h : sourceB dss f = true) : workB dss = true ∧ srcB (chcL (eventsB dss)) f = true := by
  rw [sourceB, Bool.and_eq_true] at h
  exact h
set_option maxRecDepth 100000 in
set_option maxHeartbeats 2000000 in
theorem implFromWeb_any (w : World) (v vf : Value) (dss : List (List Dd)) (f : List Int) (h : RdW w v dss) (hf : Rd w vf f) (hx : dss.length ≤ 1048576) (hm : ∀ i, i < dss.length → (dss.getD i []).length ≤ 1048576) (hfl : f.length ≤ 1048576) :
    Calls Tryz.prog 34 #[v, vf] w fun e w' => ∃ v', e = .returned v' ∧ Row w' w.heap.size v' (fwB dss f) ∧ Keep w w' := by
  cases hs : sourceB dss f
  · have HE : Hid (fwB dss f = []) := Lib.hid (by rw [fwB, hs]; rfl)
    have C := implSourceOk_any w v vf dss f h hf hx hm hfl
    rw [hs] at C
    go_enter Tryz.func34, Tryz.ntmps34
    go_wp2_with fail
    refine C.mono ?_
    rintro e w1 ⟨rfl, k1⟩
    have s1 := k1.size
    go_wp2
    go_ret
    exact ⟨_, rfl, by rw [HE.out]; exact (row_empty w1 _).base_le s1, k1.alloc _⟩
  · obtain ⟨hb, hs2⟩ := workB_useI hs
    have HE : Hid (fwB dss f = fwL (eventsB dss) f) := Lib.hid (by rw [fwB, if_pos hs])
    have h12 : (eventsB dss).length ≤ 12 := by have := eventsB_len9 dss; omega
    obtain ⟨sl, su⟩ := src_use h12 hs2
    have C := implSourceOk_any w v vf dss f h hf hx hm hfl
    rw [hs] at C
    have rl : (idxB rdE (eventsB dss)).length ≤ 12 := by
      unfold idxB
      rw [if_pos h12]
      have := idxK_len rdE (eventsB dss) (eventsB dss).length
      omega
    have rin : ∀ i, i < (idxB rdE (eventsB dss)).length → 0 ≤ (idxB rdE (eventsB dss)).getD i 0 ∧ (idxB rdE (eventsB dss)).getD i 0 < ((eventsB dss).length : Int) := by
      intro i hi
      have hm : (idxB rdE (eventsB dss)).getD i 0 ∈ idxB rdE (eventsB dss) := by
        rw [List.getD_eq_getElem?_getD, List.getElem?_eq_getElem hi]
        exact List.getElem_mem hi
      refine idxK_lt rdE (eventsB dss) _ _ ?_
      unfold idxB at hm ⊢
      rw [if_pos h12] at hm ⊢
      exact hm
    have fin : ∀ i, i < (idxB rdE (eventsB dss)).length → 0 ≤ f.getD i 0 ∧ f.getD i 0 < ((eventsB dss).length : Int) := fun i hi => (su i hi).1
    have HL : Hid (fwL (eventsB dss) f = fwK (eventsB dss).length (idxB rdE (eventsB dss)) f (idxB rdE (eventsB dss)).length) := Lib.hid rfl
    clear su
    go_enter Tryz.func34, Tryz.ntmps34
    go_wp2_with fail
    refine C.mono ?_
    rintro e w1 ⟨rfl, k1⟩
    have s1 := k1.size
    go_wp2_with fail
    refine (implEventsOf_any _ _ _ (h.keep k1) hx hm).mono ?_
    rintro e w2 ⟨v2, rfl, a2, k2⟩
    have s2 := k2.size
    have re := a2.rd
    generalize eventsB dss = es at *
    obtain ⟨ae, ce, rfl, -⟩ := id re
    go_wp2_with fail
    refine (blank_any _ _ h12).mono ?_
    rintro e w3 ⟨rfl, rb, k3⟩
    have s3 := k3.size
    go_wp2_with fail
    refine (implReadsOf_any _ _ _ (re.keep k3) (by omega)).mono ?_
    rintro e w4 ⟨vr, rfl, or4, k4⟩
    have s4 := k4.size
    have hr3 := rb.lt
    generalize idxB rdE es = rs at *
    have hF4 := hf.keep (((k1.trans k2).trans k3).trans k4)
    have hK4 : Keep w w4 := ((k1.trans k2).trans k3).trans k4
    have N2 : vr.ownBlock = none ∨ vr.ownBlock ≠ some w2.heap.size := by
      cases hu : vr.ownBlock with
      | none => exact .inl rfl
      | some k => exact .inr (fun e => by have := or4.ge k hu; have := Option.some.inj e; omega)
    have hFB : 0 < f.length → (vf.ownBlock = none ∨ vf.ownBlock ≠ some w2.heap.size) := by
      intro hpos
      obtain ⟨a, c, rfl, hv⟩ := hf
      rcases hv with hv | ⟨b, o, rfl, hb, _⟩
      · rw [hv] at hpos; simp at hpos
      · exact .inr (by simp [Value.ownBlock]; omega)
    have HFB := Lib.hid hFB
    clear hFB
    have R4 := or4.rd
    have rb4 : RowAt w4 w2.heap.size (fwK es.length rs f 0) := rb.keep k4
    have hb2 : w.heap.size ≤ w2.heap.size := by omega
    obtain ⟨ar, cr, rfl, -⟩ := id R4
    obtain ⟨af, cf, rfl, -⟩ := id hf
    have RIN := Lib.hid rin
    have FIN := Lib.hid fin
    have l1 : rs.length ≤ f.length := by omega
    clear rin fin sl a2 re k1 k2 k3 k4 C h hx hm rb or4 hs hs2 hb hr3 s1 s2 s3 s4 hf
    go_wp2
    go_loopw [22] (fun i wr => ∃ k : Nat, k ≤ rs.length ∧ i = .int .i64 k ∧ RowAt wr w2.heap.size (fwK es.length rs f k) ∧ Rd wr (.slice ar rs.length cr) rs ∧ Keep w wr ∧ Rd wr (.slice af f.length cf) f) (fun i _ => rs.length - (intOf i).toNat)
    case atStart => exact ⟨0, Nat.zero_le _, rfl, rb4, R4, hK4, hF4⟩
    case round =>
      obtain ⟨k, hk, rfl, hr, hR, hK, hF⟩ := hrel
      clear rb4 R4 hK4 hF4
      by_cases hlt : k < rs.length
      · obtain ⟨r, hr0⟩ := Int.eq_ofNat_of_zero_le (RIN.out k hlt).1
        obtain ⟨t, ht0⟩ := Int.eq_ofNat_of_zero_le (FIN.out k hlt).1
        have hte : t < es.length := by have := (FIN.out k hlt).2; omega
        have hW := (fw_line (n := es.length) (rs := rs) (f := f) h12 k (fun i hi => RIN.out i (by omega)) (fun i hi => FIN.out i (by omega))).1
        have hBl : (fwK es.length rs f k).length = es.length := hW.2.1
        have HC : Hid (fwK es.length rs f (k + 1) = (fwK es.length rs f k).set t (gAdd ((fwK es.length rs f k).getD t 0) (r : Int))) := Lib.hid (by
          rw [fwK, ht0, hr0, Int.toNat_natCast])
        obtain ⟨a', c', he', hR'⟩ := id hR
        simp only [Value.slice.injEq, true_and] at he'
        obtain ⟨rfl, rfl⟩ := he'
        rcases hR' with h0 | ⟨br, orr, rfl, hbr, hcr⟩
        · exfalso; rw [h0] at hlt; simp at hlt
        have d3 := hcr k hlt
        rw [hr0] at d3
        obtain ⟨a2, c2, he2, hF'⟩ := id hF
        simp only [Value.slice.injEq, true_and] at he2
        obtain ⟨rfl, rfl⟩ := he2
        rcases hF' with h0 | ⟨bf, off, rfl, hbf, hcf⟩
        · exfalso; rw [h0] at l1; simp only [List.length_nil] at l1; omega
        have d4 := hcf k (by omega)
        rw [ht0] at d4
        clear hcr hcf hr0 ht0 hW
        have i1 : (0 : Int) ≤ (k : Int) := Int.natCast_nonneg _
        have i2 : (k : Int) < (rs.length : Int) := by omega
        have i3 : (k : Int) < (f.length : Int) := by omega
        have CL := line_any wr w2.heap.size es.length es.length (fwK es.length rs f k) t (r : Int) hr hBl hte
        rw [← HC.out] at CL
        clear hBl
        go_wp2_with fail
        refine CL.mono ?_
        rintro e w5 ⟨rfl, hr5, hg5⟩
        have hR5 := hR.keptR hg5 N2
        have hF5 := hF.keptR hg5 (HFB.out (by omega))
        have hK5 : Keep w w5 := hK.grown hg5 (by simp; omega)
        clear CL hR hF hK hr
        go_wp2
        go_roundw
        case rel => exact ⟨k + 1, by omega, by go_num, hr5, hR5, hK5, hF5⟩
        case measure => simp [intOf]; omega
      · obtain rfl : k = rs.length := by omega
        go_wp2
        go_ret
        refine ⟨_, rfl, ?_, hK⟩
        rw [HE.out, HL.out]
        have hW := (fw_line (n := es.length) (rs := rs) (f := f) h12 rs.length (fun i hi => RIN.out i (by omega)) (fun i hi => FIN.out i (by omega))).1
        exact .inr ⟨w2.heap.size, es.length, by rw [hW.2.1]; rfl, hb2, hr⟩
end Go.Proofs.YtfmcnkjpgaapaaaGreat

/- Plain mathematics of rows as the program makes them: for each seat the writes that may have it; a walk that gives seat after seat to the least one that is left. -/
namespace Go.Proofs.YtfmcnkjpgaapaaaGreat

/-- Who may have the i-th seat of a place. -/
def seatAt (l : List Int) (i : Nat) : List Int := if i = 0 then l.take 1 else l.drop 1
def seatK (l : List Int) (i : Nat) : List (List Int) := (List.range i).map (seatAt l)
theorem seatK_more (l : List Int) (i : Nat) : seatK l (i + 1) = seatK l i ++ [seatAt l i] := by
  unfold seatK
  rw [List.range_succ, List.map_append]
  rfl
def seatP (l : List Int) : List (List Int) := seatK l l.length
theorem seatP_cons (x : Int) (r : List Int) : seatP (x :: r) = [x] :: List.replicate r.length r := by
  unfold seatP seatK
  rw [List.length_cons, List.range_succ_eq_map, List.map_cons, List.map_map]
  congr 1
  refine List.ext_getElem (by simp) (fun i h1 h2 => ?_)
  simp [seatAt]
theorem seatP_len (l : List Int) : (seatP l).length = l.length := by simp [seatP, seatK]
def seatsL (es : List Ev) : List (List Int) := seatP (plcW es 0) ++ seatP (plcW es 1) ++ seatP (plcW es 2)
/-- Who may have a seat, is past the one that had it last, and has none ahead. -/
def nextL (s ahead : List Int) (last : Int) : List Int := s.filter (fun x => decide (last < x) && !isB ahead x)
def nextB (s ahead : List Int) (last : Int) : Int := (nextL s ahead last).headD (-1)
theorem next_step {s ahead t : List Int} {last x : Int} (hs : s.Pairwise (· < ·)) (h : nextL s ahead last = x :: t) : nextL s ahead x = t ∧ last < x ∧ isB ahead x = false := by
  have hx : x ∈ nextL s ahead last := by rw [h]; simp
  unfold nextL at hx
  rw [List.mem_filter] at hx
  simp only [Bool.and_eq_true, decide_eq_true_eq, Bool.not_eq_true'] at hx
  refine ⟨?_, hx.2.1, hx.2.2⟩
  have h1 : nextL s ahead x = (nextL s ahead last).filter (fun y => decide (x < y)) := by
    unfold nextL
    rw [List.filter_filter]
    refine List.filter_congr (fun y _ => ?_)
    by_cases hy : x < y
    · have : last < y := by omega
      simp [hy, this]
    · simp [hy]
  have hp : (x :: t).Pairwise (· < ·) := by
    rw [← h]
    exact hs.filter _
  rw [List.pairwise_cons] at hp
  rw [h1, h, List.filter_cons, if_neg (by simp), List.filter_eq_self]
  intro y hy
  simpa using hp.1 y hy
/-- What the walk does from a seat on: a step is 'none', what it finds is told. -/
def allT : List (List Int) → List Int → List (Option (List Int))
  | [], a => [some a]
  | s :: ss, a => (nextL s a (-1)).flatMap (fun x => none :: allT ss (a ++ [x])) ++ [none]
def hereT (ss : List (List Int)) (rows : List Int) (last : Int) : List (Option (List Int)) :=
  match ss.drop rows.length with
  | [] => [some rows]
  | s :: r => (nextL s rows last).flatMap (fun x => none :: allT r (rows ++ [x])) ++ [none]
theorem here_all (ss : List (List Int)) (rows : List Int) : hereT ss rows (-1) = allT (ss.drop rows.length) rows := by
  unfold hereT
  cases ss.drop rows.length <;> rfl
def backT (ss : List (List Int)) (rows : List Int) : Nat → List (Option (List Int))
  | 0 => []
  | k + 1 => hereT ss (rows.take k) (rows.getD k 0) ++ backT ss rows k
theorem back_more (ss : List (List Int)) (rows : List Int) (x : Int) : ∀ k : Nat, k ≤ rows.length → backT ss (rows ++ [x]) k = backT ss rows k
  | 0, _ => rfl
  | k + 1, h => by
    rw [backT, backT, back_more ss rows x k (by omega), List.take_append_of_le_length (by omega)]
    congr 2
    rw [List.getD_eq_getElem?_getD, List.getElem?_append_left (by omega), ← List.getD_eq_getElem?_getD]
def comeT (ss : List (List Int)) (rows : List Int) (last : Int) : List (Option (List Int)) := hereT ss rows last ++ backT ss rows rows.length
theorem back_snoc (ss : List (List Int)) (rows : List Int) (x : Int) : backT ss (rows ++ [x]) (rows ++ [x]).length = comeT ss rows x := by
  rw [List.length_append, List.length_singleton, backT, back_more ss rows x _ (Nat.le_refl _), comeT]
  congr 2
  · rw [List.take_append_of_le_length (Nat.le_refl _), List.take_length]
  · rw [List.getD_eq_getElem?_getD, List.getElem?_append_right (Nat.le_refl _), Nat.sub_self]; rfl
/-- A seat is given. -/
theorem come_give {ss : List (List Int)} {rows t : List Int} {last x : Int} (hlt : rows.length < ss.length) (hs : (ss.getD rows.length []).Pairwise (· < ·)) (h : nextL (ss.getD rows.length []) rows last = x :: t) :
    comeT ss rows last = none :: comeT ss (rows ++ [x]) (-1) := by
  have hd : ss.drop rows.length = ss.getD rows.length [] :: ss.drop (rows.length + 1) := by
    rw [List.getD_eq_getElem?_getD, List.getElem?_eq_getElem hlt]
    exact List.drop_eq_getElem_cons hlt
  have hn := (next_step hs h).1
  conv => rhs; rw [comeT, back_snoc, here_all, List.length_append, List.length_singleton, comeT]
  rw [comeT, hereT, hereT, hd]
  simp only [h, hn, List.flatMap_cons, List.cons_append, List.append_assoc]
/-- Nobody may have it: one seat back. -/
theorem come_none {ss : List (List Int)} {rows : List Int} {last : Int} (hlt : rows.length < ss.length) (h : nextL (ss.getD rows.length []) rows last = []) :
    comeT ss rows last = none :: backT ss rows rows.length := by
  have hd : ss.drop rows.length = ss.getD rows.length [] :: ss.drop (rows.length + 1) := by
    rw [List.getD_eq_getElem?_getD, List.getElem?_eq_getElem hlt]
    exact List.drop_eq_getElem_cons hlt
  rw [comeT, hereT, hd]
  simp only [h, List.flatMap_nil, List.nil_append, List.cons_append]
/-- All seats are given. -/
theorem come_full {ss : List (List Int)} {rows : List Int} {last : Int} (hl : rows.length = ss.length) : comeT ss rows last = some rows :: backT ss rows rows.length := by
  rw [comeT, hereT, List.drop_of_length_le (by omega)]
  rfl
/-- All that is found. -/
def allS : List (List Int) → List Int → List (List Int)
  | [], a => [a]
  | s :: ss, a => (nextL s a (-1)).flatMap (fun x => allS ss (a ++ [x]))
theorem all_found : ∀ (ss : List (List Int)) (a : List Int), (allT ss a).filterMap id = allS ss a
  | [], a => rfl
  | s :: ss, a => by
    rw [allT, allS, List.filterMap_append]
    simp only [List.filterMap_cons, List.filterMap_nil, id, List.append_nil]
    rw [List.filterMap_flatMap]
    congr 1
    funext x
    rw [List.filterMap_cons]
    exact all_found ss _
end Go.Proofs.YtfmcnkjpgaapaaaGreat

/- Contract of the program's seatsOf. -/
namespace Go.Proofs.YtfmcnkjpgaapaaaGreat
open Go.ChangeShapes Go.WideShapes Go.ChangeAt Go.RowKit

theorem cell_lone {w : World} {b : Nat} {v : Value} (h : w.cell? ⟨b, 0, none⟩ = some v) : ∀ j u, ([v] : List Value)[j]? = some u → w.cell? ((⟨b, 0, none⟩ : Addr).add j) = some u := by
  intro j u hj
  match j, hj with
  | 0, hj =>
    simp at hj
    subst hj
    exact h
  | k + 1, hj => simp at hj
theorem Beside.first {w : World} {x : Value} {b o n c : Nat} {l : List Int} (h : Beside w x (.slice (some ⟨b, o, none⟩) n c) l) (hl : 0 < l.length) : Beside w x (.slice (some ⟨b, o, none⟩) 1 c) (l.take 1) := by
  have hlen : (l.take 1).length = 1 := by rw [List.length_take]; omega
  have hcap : l.length ≤ c := h.cap
  refine ⟨?_, h.ne, h.lt, by rw [hlen]; show 1 ≤ c; omega⟩
  obtain ⟨a, cap, he, hr⟩ := h.rd
  simp only [Value.slice.injEq] at he
  obtain ⟨rfl, rfl, rfl⟩ := he
  refine ⟨_, _, by rw [hlen], ?_⟩
  rcases hr with hr | ⟨b', o', he, hb, hc⟩
  · rw [hr] at hl; simp at hl
  · simp only [Option.some.injEq, Addr.mk.injEq, and_true] at he
    obtain ⟨rfl, rfl⟩ := he
    refine .inr ⟨b, o, rfl, hb, fun i hi => ?_⟩
    rw [hc i (by omega), List.getD_eq_getElem?_getD, List.getD_eq_getElem?_getD, List.getElem?_take, if_pos (by omega)]
theorem Beside.rest {w : World} {x : Value} {b o n c : Nat} {l : List Int} (h : Beside w x (.slice (some ⟨b, o, none⟩) n c) l) (hl : 0 < l.length) : Beside w x (.slice (some ⟨b, o + 1, none⟩) (n - 1) (c - 1)) (l.drop 1) := by
  have hlen : (l.drop 1).length = l.length - 1 := by rw [List.length_drop]
  have hcap : l.length ≤ c := h.cap
  refine ⟨?_, h.ne, h.lt, by rw [hlen]; show l.length - 1 ≤ c - 1; omega⟩
  obtain ⟨a, cap, he, hr⟩ := h.rd
  simp only [Value.slice.injEq] at he
  obtain ⟨rfl, rfl, rfl⟩ := he
  refine ⟨_, _, by rw [hlen], ?_⟩
  rcases hr with hr | ⟨b', o', he, hb, hc⟩
  · rw [hr] at hl; simp at hl
  · simp only [Option.some.injEq, Addr.mk.injEq, and_true] at he
    obtain ⟨rfl, rfl⟩ := he
    refine .inr ⟨b, o + 1, rfl, hb, fun i hi => ?_⟩
    rw [Nat.add_assoc, Nat.add_comm 1 i, hc (i + 1) (by omega), List.getD_eq_getElem?_getD, List.getD_eq_getElem?_getD, List.getElem?_drop, Nat.add_comm 1 i]
def seatN (es : List Ev) : Nat → List (List Int)
  | 0 => []
  | p + 1 => seatN es p ++ seatP (plcW es p)
theorem seatN_three (es : List Ev) : seatN es 3 = seatsL es := by
  simp only [seatN, seatsL, List.nil_append]
theorem seatK_len (l : List Int) (k : Nat) : (seatK l k).length = k := by simp [seatK]
theorem seatN_len {es : List Ev} (hx : es.length ≤ 12) : ∀ p : Nat, (seatN es p).length ≤ 12 * p
  | 0 => by simp [seatN]
  | p + 1 => by
    have := seatN_len hx p
    have := plcW_len hx p
    rw [seatN, List.length_append, seatP_len]
    omega
set_option maxRecDepth 100000 in
set_option maxHeartbeats 2000000 in
theorem seatsOf_any (w : World) (v : Value) (es : List Ev) (h : RdE w v es) (hx : es.length ≤ 12) :
    Calls Tryz.prog 104 #[v] w fun e w' => ∃ v', e = .returned v' ∧ RdL w' v' (seatsL es) ∧ Keep w w' := by
  obtain ⟨i0, hi, hz0, hz1, hz2⟩ := info_parts Tryz.infoL
  have A0 := appL_empty w
  have K0 : Keep w (w.alloc (.cells #[] 25)) := (Keep.refl w).alloc _
  have HS : Hid (seatsL es = seatN es 3) := Lib.hid (seatN_three es).symm
  have HL : Hid (∀ p, (seatN es p).length ≤ 12 * p) := Lib.hid (seatN_len hx)
  go_enter Tryz.func104, Tryz.ntmps104
  go_wp2
  go_loopw [3, 8] (fun x i wr => ∃ p : Nat, ∃ vs : List Value, p ≤ 3 ∧ i = .int .i64 p ∧ AppL wr w.heap.size x vs (seatN es p) ∧ Keep w wr) (fun _ i _ => 3 - (intOf i).toNat)
  case atStart => exact ⟨0, [], by omega, rfl, A0, K0⟩
  case round =>
    obtain ⟨p, vs, hp, rfl, hA, hK⟩ := hrel
    clear A0 K0
    by_cases hlt : p < 3
    · have hpl := plcW_len hx p
      have HN : Hid (seatN es (p + 1) = seatN es p ++ seatK (plcW es p) (plcW es p).length) := Lib.hid rfl
      have hsl : (seatN es p).length ≤ 36 := by have := HL.out p; omega
      have i2 : (p : Int) < 3 := by omega
      go_wp2_with fail
      refine (implWritesTo_any _ _ _ (h.keep hK) (by omega) _).mono ?_
      rintro e w2 ⟨v2, rfl, o2, k2⟩
      have HI : Hid (plcW es p = idxB (toE (p : Int)) es) := Lib.hid rfl
      rw [HI.out] at hpl HN
      clear HI
      generalize idxB (toE (p : Int)) es = l at o2 hpl HN
      generalize seatN es p = S at hA HN hsl
      have A1 : AppL w2 w.heap.size u3 vs (S ++ seatK l 0) := by
        have : S ++ seatK l 0 = S := by simp [seatK]
        rw [this]
        exact hA.keep k2
      have B1 : Beside w2 u3 v2 l := o2.beside (fun k hk => (hA.lt k hk).2)
      have K1 := hK.trans k2
      obtain ⟨a2, c2, rfl, -⟩ := o2.rd
      clear hA hK o2 k2
      obtain ⟨wo, rfl⟩ : ∃ wo : World, wo = w2 := ⟨_, rfl⟩
      go_wp2
      go_loopw [3, 16] (fun x i wr => ∃ k : Nat, ∃ vs : List Value, k ≤ l.length ∧ i = .int .i64 k ∧ AppL wr w.heap.size x vs (S ++ seatK l k) ∧ Beside wr x (.slice a2 l.length c2) l ∧ Keep w wr) (fun _ i _ => l.length - (intOf i).toNat)
      case atStart => exact ⟨0, vs, Nat.zero_le _, rfl, A1, B1, K1⟩
      case round =>
        obtain ⟨k, vs, hk, rfl, hA, hB, hK⟩ := hrel
        clear A1 B1 K1
        by_cases hkl : k < l.length
        · have HC : Hid (S ++ seatK l (k + 1) = S ++ seatK l k ++ [seatAt l k]) := Lib.hid (by rw [seatK_more, List.append_assoc])
          have hcl : (S ++ seatK l k).length = S.length + k := by rw [List.length_append, seatK_len]
          have hcap : l.length ≤ c2 := hB.cap
          have hRd := hB.rd
          obtain ⟨a', c', he', hRd⟩ := hRd
          simp only [Value.slice.injEq, true_and] at he'
          obtain ⟨rfl, rfl⟩ := he'
          rcases hRd with h0 | ⟨br, or', rfl, hbr, -⟩
          · exfalso; rw [h0] at hkl; simp at hkl
          have hF := hB.first (by omega)
          have hT := hB.rest (by omega)
          have i1 : (0 : Int) ≤ (k : Int) := Int.natCast_nonneg _
          have i2 : (k : Int) < (l.length : Int) := by omega
          have hsz := hK.size
          generalize S ++ seatK l k = D at hA HC hcl
          by_cases hk0 : k = 0
          · have HZ : Hid (seatAt l k = l.take 1) := Lib.hid (by unfold seatAt; rw [if_pos hk0])
            rw [HZ.out] at HC
            have hkb : ((k : Int) == 0) = true := by simp [hk0]
            have hA2 := hA.keep ((Keep.refl wr).alloc (.cells #[.slice (some ⟨br, or', none⟩) 1 c2] 25))
            have hB2 := hB.keep ((Keep.refl wr).alloc (.cells #[.slice (some ⟨br, or', none⟩) 1 c2] 25))
            have hU := hF.keep ((Keep.refl wr).alloc (.cells #[.slice (some ⟨br, or', none⟩) 1 c2] 25))
            have c1 : (1 : Int) ≤ (c2 : Int) := by omega
            clear hF hT hk0 HZ hA hB
            go_wp2_with (at_builtin; refine wpList_append_own_at _ rfl _ _ 83 rfl w.heap.size 25 i0 (.slice none 0 0) 1 24 Tryz.underlying83 hi hz0 hz1 hz2 rfl (by decide) _ _ _ rfl hA2.row ⟨_, 0, none⟩ 1 1 [.slice (some ⟨br, or', none⟩) 1 c2] rfl rfl ?c1 ?c2 ?c3 ?c4 ?c5 ?_)
            case c1 => exact cell_lone (Boxed.new _ _ _).cell
            case c2 => intro u hu; simp at hu; subst hu; rfl
            case c3 => unfold maxLen; omega
            case c4 => omega
            case c5 => first | omega | (simp; omega)
            intro v' w3 hown' hgrow _ hblk
            have hblk' : v'.ownBlock = u3.ownBlock ∨ v'.ownBlock = some (wr.alloc (.cells #[.slice (some ⟨br, or', none⟩) 1 c2] 25)).heap.size := by rw [heap_size]; exact hblk
            have hA3 := hA2.push hU (by rw [hcl]; exact hown') hgrow hblk'
            have hB3 := hB2.grow hgrow hblk'
            have hK3 : Keep w w3 := (hK.alloc _).grown hgrow (fun k hk => (hA2.lt k hk).1)
            clear hown' hgrow hblk hblk' hA2 hB2 hU hK
            go_wp2
            go_roundw
            case rel => exact ⟨k + 1, _, by omega, by go_num, by rw [HC.out]; exact hA3, hB3, hK3⟩
            case measure => simp [intOf]; omega
          · have HZ : Hid (seatAt l k = l.drop 1) := Lib.hid (by unfold seatAt; rw [if_neg hk0])
            rw [HZ.out] at HC
            have hkb : ((k : Int) == 0) = false := by simp; omega
            have hA2 := hA.keep ((Keep.refl wr).alloc (.cells #[.slice (some ⟨br, or' + 1, none⟩) (l.length - 1) (c2 - 1)] 25))
            have hB2 := hB.keep ((Keep.refl wr).alloc (.cells #[.slice (some ⟨br, or' + 1, none⟩) (l.length - 1) (c2 - 1)] 25))
            have hU := hT.keep ((Keep.refl wr).alloc (.cells #[.slice (some ⟨br, or' + 1, none⟩) (l.length - 1) (c2 - 1)] 25))
            have c1 : (1 : Int) ≤ (l.length : Int) := by omega
            have c2' : 1 < c2 := by omega
            have c3 : (l.length : Int) ≤ (c2 : Int) := by omega
            clear hF hT hk0 HZ hA hB
            go_wp2_with (at_builtin; refine wpList_append_own_at _ rfl _ _ 83 rfl w.heap.size 25 i0 (.slice none 0 0) 1 24 Tryz.underlying83 hi hz0 hz1 hz2 rfl (by decide) _ _ _ rfl hA2.row ⟨_, 0, none⟩ 1 1 [.slice (some ⟨br, or' + 1, none⟩) (l.length - 1) (c2 - 1)] rfl rfl ?c1 ?c2 ?c3 ?c4 ?c5 ?_)
            case c1 => exact cell_lone (Boxed.new _ _ _).cell
            case c2 => intro u hu; simp at hu; subst hu; rfl
            case c3 => unfold maxLen; omega
            case c4 => omega
            case c5 => first | omega | (simp; omega)
            intro v' w3 hown' hgrow _ hblk
            have hblk' : v'.ownBlock = u3.ownBlock ∨ v'.ownBlock = some (wr.alloc (.cells #[.slice (some ⟨br, or' + 1, none⟩) (l.length - 1) (c2 - 1)] 25)).heap.size := by rw [heap_size]; exact hblk
            have hA3 := hA2.push hU (by rw [hcl]; exact hown') hgrow hblk'
            have hB3 := hB2.grow hgrow hblk'
            have hK3 : Keep w w3 := (hK.alloc _).grown hgrow (fun k hk => (hA2.lt k hk).1)
            clear hown' hgrow hblk hblk' hA2 hB2 hU hK
            go_wp2
            go_roundw
            case rel => exact ⟨k + 1, _, by omega, by go_num, by rw [HC.out]; exact hA3, hB3, hK3⟩
            case measure => simp [intOf]; omega
        · obtain rfl : k = l.length := by omega
          have hN : AppL wr w.heap.size u3 vs (seatN es (p + 1)) := by rw [HN.out]; exact hA
          clear hA hB
          go_wp2
          go_roundw
          case rel => exact ⟨p + 1, vs, by omega, by go_num, hN, hK⟩
          case measure => simp [intOf]; omega
    · obtain rfl : p = 3 := by omega
      have HR := Lib.hid hA.rd
      go_wp2
      go_ret
      exact ⟨_, rfl, by rw [HS.out]; exact HR.out, hK⟩
end Go.Proofs.YtfmcnkjpgaapaaaGreat
