/- Several texts in one. -/
import Derived.Test.YtkbkdlaknmgjpaaGreatMF
import Derived.Test.YtkbkdlaknmgjpaaGreatMB
import Derived.Test.YtkbkdlaknmgjpaaGreatMC
import Derived.Maps.AppendAt
import Derived.Laws.OwnMore
import Derived.RegionTactic
import Derived.Outline
import Derived.Deep.QuietTactic
import Derived.BigQuiet
/- Contract of the specification's EachOk. -/
namespace Go.Proofs.YtkbkdlaknmgjpaaGreat
open Go.ChangeShapes Go.WideShapes Go.ChangeAt Go.RowKit

set_option maxRecDepth 100000 in
set_option maxHeartbeats 8000000 in
theorem specEachOk_any (w : World) (v vF vR : Value) (dss : List (List Dd)) (f rows : List Int) (h : RdW w v dss) (hf : Rd w vF f) (hr : Rd w vR rows) (hcap : rows.length ≤ capZ vR) (hx : dss.length ≤ 1048576) (hm : ∀ i, i < dss.length → (dss.getD i []).length ≤ 1048576) (hfl : f.length ≤ 1048576) (hrl : rows.length ≤ 1048576) :
    Calls Tryz.prog 20 #[v, .agg #[vF, vR]] w fun e w' => e = .returned (.bool (eachB dss f rows)) ∧ Keep w w' := by
  have C := fun (W : World) (kW : Keep w W) => specTaleOk_any W v vF vR dss f rows (h.keep kW) (hf.keep kW) (hr.keep kW) hcap hx hm hfl hrl
  have KK : Keep w ((w.alloc (.cells #[vF, vR] 27)).drew) := ((Keep.refl w).alloc _).drew
  have z1 : w.heap.size < ((w.alloc (.cells #[vF, vR] 27)).drew).heap.size := by rw [heap_drew, heap_size]; omega
  have b0 : ((w.alloc (.cells #[vF, vR] 27)).drew).cell? ⟨w.heap.size, 0, none⟩ = some vF := box_cell (Keep.refl _) 0
  have b1 : ((w.alloc (.cells #[vF, vR] 27)).drew).cell? ⟨w.heap.size, 1, none⟩ = some vR := box_cell (Keep.refl _) 1
  cases hb : taleB dss f rows
  · have HE : Hid (eachB dss f rows = false) := Lib.hid (by rw [eachB, hb]; rfl)
    rw [hb] at C
    obtain ⟨aF, cF, rfl, -⟩ := hf
    obtain ⟨aR, cR, rfl, -⟩ := hr
    go_enter Tryz.func20, Tryz.ntmps20
    go_wp2
    refine wp_region_held_drew (S := (fun w' => w'.cell? ⟨w.heap.size, 0, none⟩ = some (.slice aF f.length cF) ∧ w'.cell? ⟨w.heap.size, 1, none⟩ = some (.slice aR rows.length cR))) (by kernel_rfl) ?_ (fun hHeld => ?_)
    · go_keep
    refine takeH 0 5 (v := ?_) rfl rfl (by kernel_rfl) (by kernel_rfl) (by kernel_rfl) (fun _ _ _ h => h) (by rfl) ?_ (by assumption) ?_
    rotate_left
    · intro wx hSw
      try dsimp only at hSw
      go_simp
      with_reducible rfl
    simp only [Act.put, List.setIfInBounds_toArray, List.set_cons_zero, List.set_cons_succ]
    refine takeH 1 6 (v := ?_) rfl rfl (by kernel_rfl) (by kernel_rfl) (by kernel_rfl) (fun _ _ _ h => h) (by rfl) ?_ (by assumption) ?_
    rotate_left
    · intro wx hSw
      try dsimp only at hSw
      go_simp
      with_reducible rfl
    simp only [Act.put, List.setIfInBounds_toArray, List.set_cons_zero, List.set_cons_succ]
    refine wpAnyH_ready (rs := [2]) (by kernel_rfl) (by simp) ?_
    refine AllReadyH.cons rfl (fun K hK => ?_) AllReadyH.nil
    go_simp
    refine (C _ KK).mono ?_
    rintro e wz ⟨rfl, kk⟩
    have z0 := z1
    have KK := KK.trans kk
    have z1 := Nat.lt_of_lt_of_le z1 kk.size
    go_wp2_with fail
    refine hK.out _ _ ?_ (fun hHeld => ?_)
    · exact ⟨(kk.cell z0).trans hHeld.1, (kk.cell z0).trans hHeld.2⟩
    clear hK K
    refine takeH 3 8 (v := ?_) rfl rfl (by kernel_rfl) (by kernel_rfl) (by kernel_rfl) (fun _ _ _ h => h) (by rfl) ?_ (by assumption) ?_
    rotate_left
    · intro wx hSw
      try dsimp only at hSw
      go_simp
      with_reducible rfl
    simp only [Act.put, List.setIfInBounds_toArray, List.set_cons_zero, List.set_cons_succ]
    refine skipH 4 9 rfl rfl (by kernel_rfl) (by kernel_rfl) (by kernel_rfl) (fun _ _ _ h => h) (by rfl) (by assumption) ?_
    simp only [Act.put, List.setIfInBounds_toArray, List.set_cons_zero, List.set_cons_succ]
    refine skipH 5 10 rfl rfl (by kernel_rfl) (by kernel_rfl) (by kernel_rfl) (fun _ _ _ h => h) (by rfl) (by assumption) ?_
    simp only [Act.put, List.setIfInBounds_toArray, List.set_cons_zero, List.set_cons_succ]
    refine skipH 6 11 rfl rfl (by kernel_rfl) (by kernel_rfl) (by kernel_rfl) (fun _ _ _ h => h) (by rfl) (by assumption) ?_
    simp only [Act.put, List.setIfInBounds_toArray, List.set_cons_zero, List.set_cons_succ]
    refine skipH 7 12 rfl rfl (by kernel_rfl) (by kernel_rfl) (by kernel_rfl) (fun _ _ _ h => h) (by rfl) (by assumption) ?_
    simp only [Act.put, List.setIfInBounds_toArray, List.set_cons_zero, List.set_cons_succ]
    refine skipH 8 13 rfl rfl (by kernel_rfl) (by kernel_rfl) (by kernel_rfl) (fun _ _ _ h => h) (by rfl) (by assumption) ?_
    simp only [Act.put, List.setIfInBounds_toArray, List.set_cons_zero, List.set_cons_succ]
    refine skipH 9 14 rfl rfl (by kernel_rfl) (by kernel_rfl) (by kernel_rfl) (fun _ _ _ h => h) (by rfl) (by assumption) ?_
    simp only [Act.put, List.setIfInBounds_toArray, List.set_cons_zero, List.set_cons_succ]
    refine takeH 10 15 (v := ?_) rfl rfl (by kernel_rfl) (by kernel_rfl) (by kernel_rfl) (fun _ _ _ h => h) (by rfl) ?_ (by assumption) ?_
    rotate_left
    · intro wx hSw
      try dsimp only at hSw
      go_simp
      with_reducible rfl
    simp only [Act.put, List.setIfInBounds_toArray, List.set_cons_zero, List.set_cons_succ]
    refine takeH 11 4 (v := ?_) rfl rfl (by kernel_rfl) (by kernel_rfl) (by kernel_rfl) (fun _ _ _ h => h) (by rfl) ?_ (by assumption) ?_
    rotate_left
    · intro wx hSw
      try dsimp only at hSw
      go_simp
      with_reducible rfl
    simp only [Act.put, List.setIfInBounds_toArray, List.set_cons_zero, List.set_cons_succ]
    refine wpAnyH_done (by kernel_rfl) ?_ _
    go_wp2
    go_ret
    exact ⟨by rw [HE.out]; rfl, KK⟩
  · obtain ⟨⟨u1, u2⟩, e1, h12, r2, r3, r4, s1, s2, s3⟩ := tale_facts hb
    obtain ⟨TW, hpw⟩ := tale_webs hb
    rw [hb] at C
    have CL := fun (W : World) (kW : Keep w W) (v2 : Value) (a2 : RdE W v2 (evsW dss dss.length)) => l11Web_any W v2 vF vR (evsW dss dss.length) f rows a2 (hf.keep kW) (hr.keep kW) h12 TW r2 r3 (by omega) (fun i hi => s3 i (by omega))
    have HC := Lib.hid CL
    clear CL s1
    obtain ⟨aF, cF, rfl, -⟩ := hf
    obtain ⟨aR, cR, rfl, -⟩ := hr
    have HE0 : Hid (eachB dss f rows = !roundB (pwL (evsW dss dss.length) f rows)) := Lib.hid (by rw [eachB, hb, e1]; rfl)
    clear e1 hb TW
    cases hq : roundB (pwL (evsW dss dss.length) f rows)
    · have HE : Hid (eachB dss f rows = true) := Lib.hid (by rw [HE0.out, hq]; rfl)
      clear HE0
      go_enter Tryz.func20, Tryz.ntmps20
      go_wp2
      refine wp_region_held_drew (S := (fun w' => w'.cell? ⟨w.heap.size, 0, none⟩ = some (.slice aF f.length cF) ∧ w'.cell? ⟨w.heap.size, 1, none⟩ = some (.slice aR rows.length cR))) (by kernel_rfl) ?_ (fun hHeld => ?_)
      · go_keep
      refine takeH 0 5 (v := ?_) rfl rfl (by kernel_rfl) (by kernel_rfl) (by kernel_rfl) (fun _ _ _ h => h) (by rfl) ?_ (by assumption) ?_
      rotate_left
      · intro wx hSw
        try dsimp only at hSw
        go_simp
        with_reducible rfl
      simp only [Act.put, List.setIfInBounds_toArray, List.set_cons_zero, List.set_cons_succ]
      refine takeH 1 6 (v := ?_) rfl rfl (by kernel_rfl) (by kernel_rfl) (by kernel_rfl) (fun _ _ _ h => h) (by rfl) ?_ (by assumption) ?_
      rotate_left
      · intro wx hSw
        try dsimp only at hSw
        go_simp
        with_reducible rfl
      simp only [Act.put, List.setIfInBounds_toArray, List.set_cons_zero, List.set_cons_succ]
      refine wpAnyH_ready (rs := [2]) (by kernel_rfl) (by simp) ?_
      refine AllReadyH.cons rfl (fun K hK => ?_) AllReadyH.nil
      go_simp
      refine (C _ KK).mono ?_
      rintro e wz ⟨rfl, kk⟩
      have z0 := z1
      have KK := KK.trans kk
      have z1 := Nat.lt_of_lt_of_le z1 kk.size
      go_wp2_with fail
      refine hK.out _ _ ?_ (fun hHeld => ?_)
      · exact ⟨(kk.cell z0).trans hHeld.1, (kk.cell z0).trans hHeld.2⟩
      clear hK K
      refine takeH 3 8 (v := ?_) rfl rfl (by kernel_rfl) (by kernel_rfl) (by kernel_rfl) (fun _ _ _ h => h) (by rfl) ?_ (by assumption) ?_
      rotate_left
      · intro wx hSw
        try dsimp only at hSw
        go_simp
        with_reducible rfl
      simp only [Act.put, List.setIfInBounds_toArray, List.set_cons_zero, List.set_cons_succ]
      refine takeH 4 9 (v := ?_) rfl rfl (by kernel_rfl) (by kernel_rfl) (by kernel_rfl) (fun _ _ _ h => h) (by rfl) ?_ (by assumption) ?_
      rotate_left
      · intro wx hSw
        try dsimp only at hSw
        go_simp
        with_reducible rfl
      simp only [Act.put, List.setIfInBounds_toArray, List.set_cons_zero, List.set_cons_succ]
      refine takeH 6 11 (v := ?_) rfl rfl (by kernel_rfl) (by kernel_rfl) (by kernel_rfl) (fun _ _ _ h => h) (by rfl) ?_ (by assumption) ?_
      rotate_left
      · intro wx hSw
        try dsimp only at hSw
        go_simp
        with_reducible rfl
      simp only [Act.put, List.setIfInBounds_toArray, List.set_cons_zero, List.set_cons_succ]
      refine wpAnyH_ready (rs := [5]) (by kernel_rfl) (by simp) ?_
      refine AllReadyH.cons rfl (fun K hK => ?_) AllReadyH.nil
      go_simp
      refine (l6Events_any _ _ _ (h.keep KK) u1 u2).mono ?_
      rintro e wz2 ⟨v2, rfl, a2, kk⟩
      have z0 := z1
      have KK := KK.trans kk
      have z1 := Nat.lt_of_lt_of_le z1 kk.size
      have a2r := a2.rd
      obtain ⟨ae, ce, rfl, -⟩ := id a2r
      go_wp2_with fail
      refine hK.out _ _ ?_ (fun hHeld => ?_)
      · exact ⟨(kk.cell z0).trans hHeld.1, (kk.cell z0).trans hHeld.2⟩
      clear hK K
      refine wpAnyH_ready (rs := [7]) (by kernel_rfl) (by simp) ?_
      refine AllReadyH.cons rfl (fun K hK => ?_) AllReadyH.nil
      go_simp
      refine (HC.out _ KK _ a2r).mono ?_
      rintro e wz3 ⟨v3, rfl, o3, kk⟩
      have z0 := z1
      have KK := KK.trans kk
      have z1 := Nat.lt_of_lt_of_le z1 kk.size
      go_wp2_with fail
      refine hK.out _ _ ?_ (fun hHeld => ?_)
      · exact ⟨(kk.cell z0).trans hHeld.1, (kk.cell z0).trans hHeld.2⟩
      clear hK K
      refine wpAnyH_ready (rs := [8]) (by kernel_rfl) (by simp) ?_
      refine AllReadyH.cons rfl (fun K hK => ?_) AllReadyH.nil
      go_simp
      refine (l3Round_any _ _ _ _ o3.row hpw).mono ?_
      rw [hq]
      rintro e wz4 ⟨rfl, kk⟩
      have z0 := z1
      have KK := KK.trans kk
      have z1 := Nat.lt_of_lt_of_le z1 kk.size
      go_wp2_with fail
      refine hK.out _ _ ?_ (fun hHeld => ?_)
      · exact ⟨(kk.cell z0).trans hHeld.1, (kk.cell z0).trans hHeld.2⟩
      clear hK K
      refine takeH 9 14 (v := ?_) rfl rfl (by kernel_rfl) (by kernel_rfl) (by kernel_rfl) (fun _ _ _ h => h) (by rfl) ?_ (by assumption) ?_
      rotate_left
      · intro wx hSw
        try dsimp only at hSw
        go_simp
        with_reducible rfl
      simp only [Act.put, List.setIfInBounds_toArray, List.set_cons_zero, List.set_cons_succ]
      refine takeH 10 15 (v := ?_) rfl rfl (by kernel_rfl) (by kernel_rfl) (by kernel_rfl) (fun _ _ _ h => h) (by rfl) ?_ (by assumption) ?_
      rotate_left
      · intro wx hSw
        try dsimp only at hSw
        go_simp
        with_reducible rfl
      simp only [Act.put, List.setIfInBounds_toArray, List.set_cons_zero, List.set_cons_succ]
      refine takeH 11 4 (v := ?_) rfl rfl (by kernel_rfl) (by kernel_rfl) (by kernel_rfl) (fun _ _ _ h => h) (by rfl) ?_ (by assumption) ?_
      rotate_left
      · intro wx hSw
        try dsimp only at hSw
        go_simp
        with_reducible rfl
      simp only [Act.put, List.setIfInBounds_toArray, List.set_cons_zero, List.set_cons_succ]
      refine wpAnyH_done (by kernel_rfl) ?_ _
      go_wp2
      go_ret
      exact ⟨by rw [HE.out]; rfl, KK⟩
    · have HE : Hid (eachB dss f rows = false) := Lib.hid (by rw [HE0.out, hq]; rfl)
      clear HE0
      go_enter Tryz.func20, Tryz.ntmps20
      go_wp2
      refine wp_region_held_drew (S := (fun w' => w'.cell? ⟨w.heap.size, 0, none⟩ = some (.slice aF f.length cF) ∧ w'.cell? ⟨w.heap.size, 1, none⟩ = some (.slice aR rows.length cR))) (by kernel_rfl) ?_ (fun hHeld => ?_)
      · go_keep
      refine takeH 0 5 (v := ?_) rfl rfl (by kernel_rfl) (by kernel_rfl) (by kernel_rfl) (fun _ _ _ h => h) (by rfl) ?_ (by assumption) ?_
      rotate_left
      · intro wx hSw
        try dsimp only at hSw
        go_simp
        with_reducible rfl
      simp only [Act.put, List.setIfInBounds_toArray, List.set_cons_zero, List.set_cons_succ]
      refine takeH 1 6 (v := ?_) rfl rfl (by kernel_rfl) (by kernel_rfl) (by kernel_rfl) (fun _ _ _ h => h) (by rfl) ?_ (by assumption) ?_
      rotate_left
      · intro wx hSw
        try dsimp only at hSw
        go_simp
        with_reducible rfl
      simp only [Act.put, List.setIfInBounds_toArray, List.set_cons_zero, List.set_cons_succ]
      refine wpAnyH_ready (rs := [2]) (by kernel_rfl) (by simp) ?_
      refine AllReadyH.cons rfl (fun K hK => ?_) AllReadyH.nil
      go_simp
      refine (C _ KK).mono ?_
      rintro e wz ⟨rfl, kk⟩
      have z0 := z1
      have KK := KK.trans kk
      have z1 := Nat.lt_of_lt_of_le z1 kk.size
      go_wp2_with fail
      refine hK.out _ _ ?_ (fun hHeld => ?_)
      · exact ⟨(kk.cell z0).trans hHeld.1, (kk.cell z0).trans hHeld.2⟩
      clear hK K
      refine takeH 3 8 (v := ?_) rfl rfl (by kernel_rfl) (by kernel_rfl) (by kernel_rfl) (fun _ _ _ h => h) (by rfl) ?_ (by assumption) ?_
      rotate_left
      · intro wx hSw
        try dsimp only at hSw
        go_simp
        with_reducible rfl
      simp only [Act.put, List.setIfInBounds_toArray, List.set_cons_zero, List.set_cons_succ]
      refine takeH 4 9 (v := ?_) rfl rfl (by kernel_rfl) (by kernel_rfl) (by kernel_rfl) (fun _ _ _ h => h) (by rfl) ?_ (by assumption) ?_
      rotate_left
      · intro wx hSw
        try dsimp only at hSw
        go_simp
        with_reducible rfl
      simp only [Act.put, List.setIfInBounds_toArray, List.set_cons_zero, List.set_cons_succ]
      refine takeH 6 11 (v := ?_) rfl rfl (by kernel_rfl) (by kernel_rfl) (by kernel_rfl) (fun _ _ _ h => h) (by rfl) ?_ (by assumption) ?_
      rotate_left
      · intro wx hSw
        try dsimp only at hSw
        go_simp
        with_reducible rfl
      simp only [Act.put, List.setIfInBounds_toArray, List.set_cons_zero, List.set_cons_succ]
      refine wpAnyH_ready (rs := [5]) (by kernel_rfl) (by simp) ?_
      refine AllReadyH.cons rfl (fun K hK => ?_) AllReadyH.nil
      go_simp
      refine (l6Events_any _ _ _ (h.keep KK) u1 u2).mono ?_
      rintro e wz2 ⟨v2, rfl, a2, kk⟩
      have z0 := z1
      have KK := KK.trans kk
      have z1 := Nat.lt_of_lt_of_le z1 kk.size
      have a2r := a2.rd
      obtain ⟨ae, ce, rfl, -⟩ := id a2r
      go_wp2_with fail
      refine hK.out _ _ ?_ (fun hHeld => ?_)
      · exact ⟨(kk.cell z0).trans hHeld.1, (kk.cell z0).trans hHeld.2⟩
      clear hK K
      refine wpAnyH_ready (rs := [7]) (by kernel_rfl) (by simp) ?_
      refine AllReadyH.cons rfl (fun K hK => ?_) AllReadyH.nil
      go_simp
      refine (HC.out _ KK _ a2r).mono ?_
      rintro e wz3 ⟨v3, rfl, o3, kk⟩
      have z0 := z1
      have KK := KK.trans kk
      have z1 := Nat.lt_of_lt_of_le z1 kk.size
      go_wp2_with fail
      refine hK.out _ _ ?_ (fun hHeld => ?_)
      · exact ⟨(kk.cell z0).trans hHeld.1, (kk.cell z0).trans hHeld.2⟩
      clear hK K
      refine wpAnyH_ready (rs := [8]) (by kernel_rfl) (by simp) ?_
      refine AllReadyH.cons rfl (fun K hK => ?_) AllReadyH.nil
      go_simp
      refine (l3Round_any _ _ _ _ o3.row hpw).mono ?_
      rw [hq]
      rintro e wz4 ⟨rfl, kk⟩
      have z0 := z1
      have KK := KK.trans kk
      have z1 := Nat.lt_of_lt_of_le z1 kk.size
      go_wp2_with fail
      refine hK.out _ _ ?_ (fun hHeld => ?_)
      · exact ⟨(kk.cell z0).trans hHeld.1, (kk.cell z0).trans hHeld.2⟩
      clear hK K
      refine takeH 9 14 (v := ?_) rfl rfl (by kernel_rfl) (by kernel_rfl) (by kernel_rfl) (fun _ _ _ h => h) (by rfl) ?_ (by assumption) ?_
      rotate_left
      · intro wx hSw
        try dsimp only at hSw
        go_simp
        with_reducible rfl
      simp only [Act.put, List.setIfInBounds_toArray, List.set_cons_zero, List.set_cons_succ]
      refine takeH 10 15 (v := ?_) rfl rfl (by kernel_rfl) (by kernel_rfl) (by kernel_rfl) (fun _ _ _ h => h) (by rfl) ?_ (by assumption) ?_
      rotate_left
      · intro wx hSw
        try dsimp only at hSw
        go_simp
        with_reducible rfl
      simp only [Act.put, List.setIfInBounds_toArray, List.set_cons_zero, List.set_cons_succ]
      refine takeH 11 4 (v := ?_) rfl rfl (by kernel_rfl) (by kernel_rfl) (by kernel_rfl) (fun _ _ _ h => h) (by rfl) ?_ (by assumption) ?_
      rotate_left
      · intro wx hSw
        try dsimp only at hSw
        go_simp
        with_reducible rfl
      simp only [Act.put, List.setIfInBounds_toArray, List.set_cons_zero, List.set_cons_succ]
      refine wpAnyH_done (by kernel_rfl) ?_ _
      go_wp2
      go_ret
      exact ⟨by rw [HE.out]; rfl, KK⟩
end Go.Proofs.YtkbkdlaknmgjpaaGreat

/- Lists of deeds, and of such lists, that grow by append. -/
namespace Go.Proofs.YtkbkdlaknmgjpaaGreat
open Go.ChangeShapes Go.WideShapes Go.ChangeAt Go.RowKit

def cD (d : Dd) : List Value := [.int .i64 d.1, .int .i64 d.2.1, .int .i64 d.2.2.1, .int .i64 d.2.2.2]
def AppD (w : World) (base : Nat) (v : Value) (ds : List Dd) : Prop := w.ownsRow base 96 4 v ds.length (ds.flatMap cD)
theorem AppD.keep {w w' : World} {base : Nat} {v : Value} {ds : List Dd} (h : AppD w base v ds) (k : Keep w w') : AppD w' base v ds :=
  World.ownsRow.kept h k.grownBy (by cases v.ownBlock <;> simp)
theorem AppD.ge {w : World} {base : Nat} {v : Value} {ds : List Dd} (h : AppD w base v ds) : ∀ k, v.ownBlock = some k → base ≤ k := fun k hk => (World.ownsRow.lt h k hk).1
theorem appD_hit {w : World} {base : Nat} {v : Value} {ds : List Dd} {d : Dd} (h : w.ownsRow base 96 4 v (ds.length + 1) (ds.flatMap cD ++ cD d)) : AppD w base v (ds ++ [d]) := by
  unfold AppD; simpa using h
theorem cD_at : ∀ (ds : List Dd) (i m : Nat), i < ds.length → m < 4 → (ds.flatMap cD)[i * 4 + m]? = (cD (ds.getD i zD))[m]?
  | [], i, m, h, _ => by simp at h
  | d :: r, 0, m, _, hm => by
    rw [List.flatMap_cons, List.getElem?_append_left (by simp [cD]; omega)]
    simp
  | d :: r, i + 1, m, h, hm => by
    have ih := cD_at r i m (by simpa using h) hm
    rw [List.flatMap_cons, List.getElem?_append_right (by simp [cD]; omega), show (i + 1) * 4 + m - (cD d).length = i * 4 + m by simp [cD]; omega, ih]
    simp
theorem AppD.ownD {w : World} {base : Nat} {v : Value} {ds : List Dd} (h : AppD w base v ds) : OwnD w base v ds := by
  have h2 := h
  rcases h.2 with ⟨rfl, hn⟩ | ⟨g, cap, cur, rfl, hb, hg, hcap, _, hs, _⟩
  · have : ds = [] := List.eq_nil_of_length_eq_zero hn
    subst this
    exact ⟨none, 0, rfl, .inl rfl⟩
  · obtain ⟨x, rfl⟩ : ∃ x, cap = ds.length + x := ⟨cap - ds.length, by omega⟩
    by_cases h0 : ds = []
    · exact ⟨_, x, rfl, .inl h0⟩
    · have len : (ds.flatMap cD).length = ds.length * 4 := h.1
      have big : ds.length * 4 ≤ cur.size := by
        have h5 := World.ownsRow.cellAt h2 (ds.length * 4 - 1) (by
          have : ds.length ≠ 0 := fun e => h0 (List.eq_nil_of_length_eq_zero e)
          omega)
        rw [cell_of_row w g _ cur _ (0, 0) hg] at h5
        have hpos : ds.length ≠ 0 := fun e => h0 (List.eq_nil_of_length_eq_zero e)
        rw [List.getElem?_eq_getElem (by omega)] at h5
        have := (Array.getElem?_eq_some_iff.1 h5).1
        omega
      refine ⟨_, x, rfl, .inr ⟨g, rfl, hb, ⟨cur, _, hg, big⟩, fun i hi => ?_⟩⟩
      have key : ∀ m, m < 4 → w.cell? ⟨g, i * 4 + m, none⟩ = (cD (ds.getD i zD))[m]? := fun m hm => by
        rw [World.ownsRow.cellAt h2 (i * 4 + m) (by omega), cD_at ds i m hi hm]
      exact ⟨key 0 (by omega), key 1 (by omega), key 2 (by omega), key 3 (by omega)⟩
theorem AppD.shape {w : World} {base : Nat} {v : Value} {ds : List Dd} (h : AppD w base v ds) : ∃ a c, v = .slice a ds.length c := by
  obtain ⟨a, c, hv, _⟩ := h.ownD
  exact ⟨a, _, hv⟩
def vZ : Value := .slice none 0 0
def AppW (w : World) (base : Nat) (v : Value) (dss : List (List Dd)) : Prop :=
  ∃ vs : List Value, vs.length = dss.length ∧ w.ownsRow base 80 1 v dss.length vs ∧ (∀ i, i < dss.length → OwnD w base (vs.getD i vZ) (dss.getD i [])) ∧
    (∀ i, i < dss.length → dss.getD i [] ≠ [] → (vs.getD i vZ).ownBlock ≠ v.ownBlock) ∧
    ∀ i j, i < j → j < dss.length → dss.getD i [] ≠ [] → dss.getD j [] ≠ [] → (vs.getD i vZ).ownBlock ≠ (vs.getD j vZ).ownBlock
theorem AppW.keep {w w' : World} {base : Nat} {v : Value} {dss : List (List Dd)} (h : AppW w base v dss) (k : Keep w w') : AppW w' base v dss := by
  obtain ⟨vs, h1, h2, h3, h4⟩ := h
  exact ⟨vs, h1, World.ownsRow.kept h2 k.grownBy (by cases v.ownBlock <;> simp), fun i hi => (h3 i hi).keep k, h4⟩
theorem OwnD.blockIn {w : World} {base : Nat} {v : Value} {ds : List Dd} (h : OwnD w base v ds) (h0 : ds ≠ []) : ∃ g, v.ownBlock = some g ∧ base ≤ g ∧ g < w.heap.size := by
  obtain ⟨a, cap, rfl, h⟩ := h
  rcases h with h | ⟨g, rfl, hb, hB, _⟩
  · exact absurd h h0
  · exact ⟨g, rfl, hb, hB.lt⟩
theorem OwnD.base_le {w : World} {base base' : Nat} {v : Value} {ds : List Dd} (h : OwnD w base v ds) (hb : base' ≤ base) : OwnD w base' v ds := by
  obtain ⟨a, cap, rfl, h⟩ := h
  refine ⟨a, cap, rfl, ?_⟩
  rcases h with h | ⟨g, rfl, hg, r⟩
  · exact .inl h
  · exact .inr ⟨g, rfl, Nat.le_trans hb hg, r⟩
theorem getD_left {α : Type} (l m : List α) (i : Nat) (z : α) (h : i < l.length) : (l ++ m).getD i z = l.getD i z := by
  rw [List.getD_eq_getElem?_getD, List.getElem?_append_left h, List.getD_eq_getElem?_getD]
theorem getD_last {α : Type} (l : List α) (x z : α) : (l ++ [x]).getD l.length z = x := by
  rw [List.getD_eq_getElem?_getD]; simp
/-- A list of deeds that was made behind all the others, appended. -/
theorem AppW.push {w0 w w1 : World} {base B : Nat} {v v' u : Value} {dss : List (List Dd)} {ds : List Dd} {vs : List Value}
    (hvs : vs.length = dss.length) (ho : w0.ownsRow base 80 1 v dss.length vs)
    (h3 : ∀ i, i < dss.length → OwnD w0 base (vs.getD i vZ) (dss.getD i []))
    (h4 : ∀ i, i < dss.length → dss.getD i [] ≠ [] → (vs.getD i vZ).ownBlock ≠ v.ownBlock)
    (h5 : ∀ i j, i < j → j < dss.length → dss.getD i [] ≠ [] → dss.getD j [] ≠ [] → (vs.getD i vZ).ownBlock ≠ (vs.getD j vZ).ownBlock)
    (k : Keep w0 w) (hB : w0.heap.size ≤ B) (hb : base ≤ B) (hu : OwnD w B u ds)
    (hown : w1.ownsRow base 80 1 v' (dss.length + 1) (vs ++ [u])) (hgrow : w.grownBy w1 v.ownBlock) (hblk : v'.ownBlock = v.ownBlock ∨ v'.ownBlock = some w.heap.size) :
    AppW w1 base v' (dss ++ [ds]) := by
  have old : ∀ i, i < dss.length → dss.getD i [] ≠ [] → ∃ g, (vs.getD i vZ).ownBlock = some g ∧ g < w0.heap.size := fun i hi hd => by
    obtain ⟨g, e, _, hl⟩ := (h3 i hi).blockIn hd
    exact ⟨g, e, hl⟩
  have vlt : ∀ g, v.ownBlock = some g → g < w0.heap.size := fun g hg => (World.ownsRow.lt ho g hg).2
  have new : ds ≠ [] → ∃ g, u.ownBlock = some g ∧ w0.heap.size ≤ g ∧ g < w.heap.size := fun hd => by
    obtain ⟨g, e, hbg, hl⟩ := hu.blockIn hd
    exact ⟨g, e, Nat.le_trans hB hbg, hl⟩
  have ksz := k.size
  refine ⟨vs ++ [u], by simp [hvs], by simpa using hown, ?_, ?_, ?_⟩
  · intro i hi
    by_cases e : i < dss.length
    · rw [getD_left vs [u] i vZ (by omega), getD_left dss [ds] i [] e]
      refine ((h3 i e).keep k).kept hgrow ?_
      by_cases hd : dss.getD i [] = []
      · exact .inl hd
      · exact .inr (h4 i e hd)
    · have : i = dss.length := by simp at hi; omega
      subst this
      rw [getD_last dss ds [], ← hvs, getD_last vs u vZ]
      refine (hu.base_le hb).kept hgrow ?_
      by_cases hd : ds = []
      · exact .inl hd
      · right
        obtain ⟨g, e, hl, _⟩ := new hd
        rw [e]
        intro e'
        have := vlt g e'.symm
        omega
  · intro i hi
    by_cases e : i < dss.length
    · rw [getD_left vs [u] i vZ (by omega), getD_left dss [ds] i [] e]
      intro hd
      rcases hblk with hv | hv
      · rw [hv]; exact h4 i e hd
      · obtain ⟨g, e1, hl⟩ := old i e hd
        rw [hv, e1]
        simp only [ne_eq, Option.some.injEq]
        omega
    · have : i = dss.length := by simp at hi; omega
      subst this
      rw [getD_last dss ds [], ← hvs, getD_last vs u vZ]
      intro hd
      obtain ⟨g, e1, hl, hl2⟩ := new hd
      rw [e1]
      rcases hblk with hv | hv
      · rw [hv]
        intro e'
        have := vlt g e'.symm
        omega
      · rw [hv]
        simp only [ne_eq, Option.some.injEq]
        omega
  · intro i j hij hj
    have hi : i < dss.length := by simp at hj; omega
    rw [getD_left vs [u] i vZ (by omega), getD_left dss [ds] i [] hi]
    by_cases e : j < dss.length
    · rw [getD_left vs [u] j vZ (by omega), getD_left dss [ds] j [] e]
      exact h5 i j hij e
    · have : j = dss.length := by simp at hj; omega
      subst this
      rw [getD_last dss ds [], ← hvs, getD_last vs u vZ]
      intro hd hd2
      obtain ⟨g, e1, hl⟩ := old i hi hd
      obtain ⟨g2, e2, hl2, _⟩ := new hd2
      rw [e1, e2]
      simp only [ne_eq, Option.some.injEq]
      omega
theorem AppW.ownW {w : World} {base : Nat} {v : Value} {dss : List (List Dd)} (h : AppW w base v dss) : OwnW w base v dss := by
  obtain ⟨vs, h1, h2, h3, h4, h5⟩ := h
  have h6 := h2
  rcases h2.2 with ⟨rfl, hn⟩ | ⟨g, cap, cur, rfl, hb, hg, _, _, hs, _⟩
  · have : dss = [] := List.eq_nil_of_length_eq_zero hn
    subst this
    exact ⟨none, 0, rfl, .inl rfl⟩
  · by_cases h0 : dss = []
    · exact ⟨_, _, rfl, .inl h0⟩
    · have hpos : dss.length ≠ 0 := fun e => h0 (List.eq_nil_of_length_eq_zero e)
      have cells : ∀ i, i < dss.length → w.cell? ⟨g, i, none⟩ = some (vs.getD i vZ) := fun i hi => by
        rw [World.ownsRow.cellAt h6 i (by omega), List.getElem?_eq_getElem (by omega), List.getD_eq_getElem?_getD, List.getElem?_eq_getElem (by omega)]
        rfl
      have big : dss.length ≤ cur.size := by
        have h5 := cells (dss.length - 1) (by omega)
        rw [cell_of_row w g _ cur _ (0, 0) hg] at h5
        have := (Array.getElem?_eq_some_iff.1 h5).1
        omega
      refine ⟨_, _, rfl, .inr ⟨g, fun i => vs.getD i vZ, rfl, hb, ⟨cur, _, hg, big⟩, fun i hi => ⟨cells i hi, h3 i hi⟩, ⟨fun i hi hd => ?_, h5⟩⟩⟩
      exact h4 i hi hd
end Go.Proofs.YtkbkdlaknmgjpaaGreat

/- Works whose blocks lie from a block on, or in a range. -/
namespace Go.Proofs.YtkbkdlaknmgjpaaGreat
open Go.ChangeShapes Go.WideShapes Go.ChangeAt Go.RowKit

/-- A work of which all blocks lie from block 'base' on. -/
def RdX (w : World) (base : Nat) (v : Value) (dss : List (List Dd)) : Prop :=
  ∃ (a : Option Addr) (cap : Nat), v = .slice a dss.length cap ∧
    (dss = [] ∨ ∃ b off, a = some ⟨b, off, none⟩ ∧ base ≤ b ∧ b < w.heap.size ∧ ∀ i, i < dss.length → ∃ vi, w.cell? ⟨b, off + i, none⟩ = some vi ∧ AppD w base vi (dss.getD i []))
theorem RdX.rd {w : World} {base : Nat} {v : Value} {dss : List (List Dd)} (h : RdX w base v dss) : RdW w v dss := by
  obtain ⟨a, cap, hv, h⟩ := h
  refine ⟨a, cap, hv, ?_⟩
  rcases h with h | ⟨b, off, ha, _, hb, hc⟩
  · exact .inl h
  · refine .inr ⟨b, off, ha, hb, fun i hi => ?_⟩
    obtain ⟨vi, h1, h2⟩ := hc i hi
    exact ⟨vi, h1, h2.ownD.rd⟩
theorem RdX.keep {w w' : World} {base : Nat} {v : Value} {dss : List (List Dd)} (h : RdX w base v dss) (k : Keep w w') : RdX w' base v dss := by
  obtain ⟨a, cap, hv, h⟩ := h
  refine ⟨a, cap, hv, ?_⟩
  rcases h with h | ⟨b, off, ha, hbb, hb, hl⟩
  · exact .inl h
  · refine .inr ⟨b, off, ha, hbb, Nat.lt_of_lt_of_le hb k.size, fun i hi => ?_⟩
    obtain ⟨vi, h1, h2⟩ := hl i hi
    exact ⟨vi, (k.cell hb).trans h1, h2.keep k⟩
/-- A work of which all blocks lie from block 'base' on and below block N. -/
def RdXN (w : World) (base N : Nat) (v : Value) (dss : List (List Dd)) : Prop :=
  ∃ (a : Option Addr) (cap : Nat), v = .slice a dss.length cap ∧
    (dss = [] ∨ ∃ b off, a = some ⟨b, off, none⟩ ∧ base ≤ b ∧ b < N ∧ b < w.heap.size ∧ ∀ i, i < dss.length → ∃ vi, w.cell? ⟨b, off + i, none⟩ = some vi ∧ AppD w base vi (dss.getD i []) ∧ ∀ k, vi.ownBlock = some k → k < N)
theorem RdX.upto {w : World} {base : Nat} {v : Value} {dss : List (List Dd)} (h : RdX w base v dss) : RdXN w base w.heap.size v dss := by
  obtain ⟨a, cap, hv, h⟩ := h
  refine ⟨a, cap, hv, ?_⟩
  rcases h with h | ⟨b, off, ha, hbb, hb, hl⟩
  · exact .inl h
  · refine .inr ⟨b, off, ha, hbb, hb, hb, fun i hi => ?_⟩
    obtain ⟨vi, h1, h2⟩ := hl i hi
    exact ⟨vi, h1, h2, fun k hk => (h2.lt k hk).2⟩
theorem RdXN.rd {w : World} {base N : Nat} {v : Value} {dss : List (List Dd)} (h : RdXN w base N v dss) : RdW w v dss := by
  obtain ⟨a, cap, hv, h⟩ := h
  refine ⟨a, cap, hv, ?_⟩
  rcases h with h | ⟨b, off, ha, _, _, hb, hc⟩
  · exact .inl h
  · refine .inr ⟨b, off, ha, hb, fun i hi => ?_⟩
    obtain ⟨vi, h1, h2, _⟩ := hc i hi
    exact ⟨vi, h1, h2.ownD.rd⟩
theorem RdXN.kept {w w' : World} {base N : Nat} {row : Option Nat} {v : Value} {dss : List (List Dd)} (h : RdXN w base N v dss) (hg : w.grownBy w' row) (hr : ∀ g, row = some g → g < base ∨ N ≤ g) : RdXN w' base N v dss := by
  obtain ⟨a, cap, hv, h⟩ := h
  refine ⟨a, cap, hv, ?_⟩
  rcases h with h | ⟨b, off, ha, hbb, hbN, hb, hl⟩
  · exact .inl h
  · refine .inr ⟨b, off, ha, hbb, hbN, Nat.lt_of_lt_of_le hb hg.size, fun i hi => ?_⟩
    obtain ⟨vi, h1, h2, h3⟩ := hl i hi
    have hblk : w'.heap[b]? = w.heap[b]? := hg.block b hb (fun e => by have := hr b e.symm; omega)
    refine ⟨vi, ?_, h2.kept hg ?_, h3⟩
    · simp only [World.cell?, hblk] at h1 ⊢
      exact h1
    · cases hu : vi.ownBlock with
      | none => exact .inl rfl
      | some k => exact .inr (fun e => by have := h2.ge k hu; have := h3 k hu; have := hr k e.symm; omega)
end Go.Proofs.YtkbkdlaknmgjpaaGreat

/- One append inside a region that draws its order, of elements of any size. -/
namespace Go.Proofs.YtkbkdlaknmgjpaaGreat
open Go.ChangeShapes Go.WideShapes Go.ChangeAt Go.RowKit

theorem step_append_at {P : Program} {w : World} {ops : Array Oper} {o : Oper} {a : Act} {K : Act → World → Prop} {Q : Exit → Act → World → Prop} {E : Prop} (hgd : o.guard = none) (s x : Operand) (t : TypeId)
    (ho : o.op = .call { callee := .builtin .append, args := #[s, x], argTypes := #[t, t] })
    (base : Nat) (e : TypeId) (i : TypeInfo) (z : Value) (size bytes : Nat) (ht : P.underlying t = some (.slice e)) (hi : P.info? e = some i) (hz : i.zero = some z)
    (hsize : i.size = size) (hby : i.bytes = bytes) (hzs : z.cells.size = size) (hsz : 0 < size)
    (v : Value) (n : Nat) (xs : List Value) (hs : a.eval s = v) (hown : w.ownsRow base e size v n xs)
    (ad : Addr) (m c : Nat) (news : List Value) (hx : a.eval x = .slice (some ad) m c) (hl : news.length = m * size) (hnews : ∀ j u, news[j]? = some u → w.cell? (ad.add j) = some u) (h1 : ∀ u ∈ news, u.oneCell' = true)
    (h63 : n + m ≤ maxLen) (hbytes : (n + m) * bytes ≤ 140737488355328) (hbase : base ≤ w.heap.size)
    (h : ∀ v' w', w'.ownsRow base e size v' (n + m) (xs ++ news) → w.grownBy w' v.ownBlock → (v'.ownBlock = v.ownBlock ∨ v'.ownBlock = some w.heap.size) → K (a.put o.dst v') w') :
    if Region.wanted o (yielded ops a.tmps) = true then Oper.wp P o a w K Q else E := by
  have hw : Region.wanted o (yielded ops a.tmps) = true := by simp [Region.wanted, hgd]
  rw [if_pos hw]
  obtain ⟨v', w', hr, h2, h3, h4, h5⟩ := run_append_own_at (P := P) w base t o.type e i z size bytes ht hi hz hsize hby hzs hsz v n xs hown ad m c news hl hnews h1 h63 hbytes hbase
  unfold Oper.wp execOp
  simp only [ho, resolve, invoke, builtin, Sem.run_bind, Sem.run_pure, Result.andThen_ok, List.map_toArray, List.map_cons, List.map_nil, hs, hx, hr]
  exact h v' w' h2 h3 h5
end Go.Proofs.YtkbkdlaknmgjpaaGreat

/- Works while they are drawn: lists of lists of deeds, each in a block of its own, that are written and that grow. -/
namespace Go.Proofs.YtkbkdlaknmgjpaaGreat
open Go.ChangeShapes Go.WideShapes Go.ChangeAt Go.RowKit

theorem AppD.kept {w w' : World} {base : Nat} {v : Value} {ds : List Dd} {row : Option Nat} (h : AppD w base v ds) (hg : w.grownBy w' row) (hne : v.ownBlock = none ∨ v.ownBlock ≠ row) : AppD w' base v ds :=
  World.ownsRow.kept h hg hne
theorem AppD.lt {w : World} {base : Nat} {v : Value} {ds : List Dd} (h : AppD w base v ds) : ∀ k, v.ownBlock = some k → base ≤ k ∧ k < w.heap.size := World.ownsRow.lt h
theorem AppD.base_le {w : World} {base base' : Nat} {v : Value} {ds : List Dd} (h : AppD w base v ds) (hb : base' ≤ base) : AppD w base' v ds := by
  refine ⟨h.1, ?_⟩
  rcases h.2 with q | ⟨g, cap, cur, e, hg, r⟩
  · exact .inl q
  · exact .inr ⟨g, cap, cur, e, Nat.le_trans hb hg, r⟩
theorem ne_of_ge {v : Value} {base c : Nat} (h : ∀ k, v.ownBlock = some k → base ≤ k) (hc : c < base) : v.ownBlock = none ∨ v.ownBlock ≠ some c := by
  cases hv : v.ownBlock with
  | none => exact .inl rfl
  | some k => exact .inr (fun e => by have := h k hv; simp at e; omega)
/-- One number of a list of deeds is written. -/
theorem flat_set (ds : List Dd) (k : Nat) (x : Int) : k < ds.length → (ds.flatMap cD).set (k * 4 + 3) (.int .i64 x) = (ds.set k ((ds.getD k zD).1, (ds.getD k zD).2.1, (ds.getD k zD).2.2.1, x)).flatMap cD := by
  induction ds generalizing k with
  | nil => intro hk; simp at hk
  | cons d r ih =>
    intro hk
    cases k with
    | zero => simp [cD]
    | succ k =>
      have h1 := ih k (by simpa using hk)
      rw [List.flatMap_cons, List.set_append_right _ _ (by simp [cD]; omega), show (k + 1) * 4 + 3 - (cD d).length = k * 4 + 3 by simp [cD]; omega, h1]
      simp
theorem AppD.put {w : World} {base g n c : Nat} {ds : List Dd} (h : AppD w base (.slice (some ⟨g, 0, none⟩) n c) ds) {k : Nat} (hk : k < ds.length) (x : Int) :
    AppD (w.setCell ⟨g, k * 4 + 3, none⟩ (.int .i64 x)) base (.slice (some ⟨g, 0, none⟩) n c) (ds.set k ((ds.getD k zD).1, (ds.getD k zD).2.1, (ds.getD k zD).2.2.1, x)) := by
  have hlen : (ds.flatMap cD).length = ds.length * 4 := h.1
  have e := flat_set ds k x hk
  rcases h.2 with ⟨q, _⟩ | ⟨g', cap, cur, e1, hb, hg, hc1, hc2, hs, ht⟩
  · cases q
  · simp only [Value.slice.injEq, Option.some.injEq, Addr.mk.injEq, and_true] at e1
    obtain ⟨rfl, rfl, rfl⟩ := e1
    refine ⟨by rw [← e, List.length_set, List.length_set]; exact hlen, .inr ⟨g, _, cur.setIfInBounds (k * 4 + 3) (.int .i64 x), by rw [List.length_set], hb, ?_, by rw [List.length_set]; exact hc1, hc2, by simpa using hs, ?_⟩⟩
    · rw [heap_setCell_same w g (k * 4 + 3) _ _ _ hg]
    · rw [Array.toList_setIfInBounds, List.length_set, List.take_set, ht, e]
/-- A work that is drawn: its list, the values in it, each list of deeds; all below block N, no two in one block. -/
structure AppX (w : World) (base N : Nat) (v : Value) (V : Nat → Value) (dss : List (List Dd)) : Prop where
  row : w.ownsRow base 80 1 v dss.length ((List.range dss.length).map V)
  lt : ∀ k, v.ownBlock = some k → k < N
  each : ∀ i, i < dss.length → AppD w base (V i) (dss.getD i [])
  lts : ∀ i, i < dss.length → ∀ k, (V i).ownBlock = some k → k < N
  out : ∀ i, i < dss.length → ∀ k, (V i).ownBlock = some k → v.ownBlock ≠ some k
  apart : ∀ i j, i < j → j < dss.length → ∀ k, (V i).ownBlock = some k → (V j).ownBlock ≠ some k
theorem AppX.kept {w w' : World} {base N c : Nat} {v : Value} {V : Nat → Value} {dss : List (List Dd)} (h : AppX w base N v V dss) (hg : w.grownBy w' (some c)) (hc : c < base) : AppX w' base N v V dss :=
  ⟨World.ownsRow.kept h.row hg (ne_of_ge (fun k hk => (World.ownsRow.lt h.row k hk).1) hc), h.lt, fun i hi => (h.each i hi).kept hg (ne_of_ge (h.each i hi).ge hc), h.lts, h.out, h.apart⟩
theorem AppX.keep {w w' : World} {base N : Nat} {v : Value} {V : Nat → Value} {dss : List (List Dd)} (h : AppX w base N v V dss) (k : Keep w w') : AppX w' base N v V dss :=
  ⟨World.ownsRow.kept h.row k.grownBy (by cases v.ownBlock <;> simp), h.lt, fun i hi => (h.each i hi).keep k, h.lts, h.out, h.apart⟩
theorem AppX.up {w : World} {base N N' : Nat} {v : Value} {V : Nat → Value} {dss : List (List Dd)} (h : AppX w base N v V dss) (hN : N ≤ N') : AppX w base N' v V dss :=
  ⟨h.row, fun k hk => Nat.lt_of_lt_of_le (h.lt k hk) hN, h.each, fun i hi k hk => Nat.lt_of_lt_of_le (h.lts i hi k hk) hN, h.out, h.apart⟩
theorem range_getV (V : Nat → Value) (n i : Nat) (h : i < n) : ((List.range n).map V)[i]? = some (V i) := by
  rw [List.getElem?_map, List.getElem?_range h]; rfl
theorem AppX.at {w : World} {base N : Nat} {v : Value} {V : Nat → Value} {dss : List (List Dd)} (h : AppX w base N v V dss) (hn : 0 < dss.length) :
    ∃ g c, v = .slice (some ⟨g, 0, none⟩) dss.length c ∧ base ≤ g ∧ g < N ∧ g < w.heap.size ∧ dss.length ≤ c ∧ (∀ i, i < dss.length → w.cell? ⟨g, i, none⟩ = some (V i)) ∧ ∀ i, w.frozen? ⟨g, i, none⟩ = false := by
  have h2 := h.row
  have hlt := World.ownsRow.lt h2
  have hN := h.lt
  rcases h2.2 with ⟨_, hz⟩ | ⟨g, cap, cur, rfl, hb, hg, hc, _⟩
  · omega
  · refine ⟨g, cap, rfl, hb, hN g rfl, (hlt g rfl).2, hc, fun i hi => ?_, fun i => frozen_of_row w g i _ _ hg⟩
    rw [World.ownsRow.cellAt h2 i (by simpa using hi), range_getV V _ i hi]
theorem AppX.rdW {w : World} {base N : Nat} {v : Value} {V : Nat → Value} {dss : List (List Dd)} (h : AppX w base N v V dss) : RdW w v dss := by
  by_cases hn : 0 < dss.length
  · obtain ⟨g, c, rfl, _, _, hg, _, hc, _⟩ := h.at hn
    exact ⟨_, _, rfl, .inr ⟨g, 0, rfl, hg, fun i hi => ⟨V i, by rw [Nat.zero_add]; exact hc i hi, (h.each i hi).ownD.rd⟩⟩⟩
  · have h0 : dss = [] := List.eq_nil_of_length_eq_zero (by omega)
    subst h0
    rcases h.row.2 with ⟨rfl, _⟩ | ⟨g, cap, cur, rfl, _⟩
    · exact ⟨none, 0, rfl, .inl rfl⟩
    · exact ⟨_, _, rfl, .inl rfl⟩
theorem RdX.kept {w w' : World} {base c : Nat} {v : Value} {dss : List (List Dd)} (h : RdX w base v dss) (hg : w.grownBy w' (some c)) (hc : c < base) : RdX w' base v dss := by
  obtain ⟨a, cap, hv, h⟩ := h
  refine ⟨a, cap, hv, ?_⟩
  rcases h with h | ⟨b, off, ha, hbb, hb, hl⟩
  · exact .inl h
  · refine .inr ⟨b, off, ha, hbb, Nat.lt_of_lt_of_le hb hg.size, fun i hi => ?_⟩
    obtain ⟨vi, h1, h2⟩ := hl i hi
    have hblk : w'.heap[b]? = w.heap[b]? := hg.block b hb (by simp; omega)
    refine ⟨vi, ?_, h2.kept hg (ne_of_ge h2.ge hc)⟩
    simp only [World.cell?, hblk] at h1 ⊢
    exact h1
theorem AppX.rdX {w : World} {base N : Nat} {v : Value} {V : Nat → Value} {dss : List (List Dd)} (h : AppX w base N v V dss) : RdX w base v dss := by
  by_cases hn : 0 < dss.length
  · obtain ⟨g, c, rfl, hb, _, hg, _, hc, _⟩ := h.at hn
    exact ⟨_, _, rfl, .inr ⟨g, 0, rfl, hb, hg, fun i hi => ⟨V i, by rw [Nat.zero_add]; exact hc i hi, h.each i hi⟩⟩⟩
  · have h0 : dss = [] := List.eq_nil_of_length_eq_zero (by omega)
    subst h0
    rcases h.row.2 with ⟨rfl, _⟩ | ⟨g, cap, cur, rfl, _⟩
    · exact ⟨none, 0, rfl, .inl rfl⟩
    · exact ⟨_, _, rfl, .inl rfl⟩
/-- One list of deeds more, made behind all others. -/
theorem AppX.push {w w1 : World} {base N : Nat} {v v' u : Value} {V : Nat → Value} {dss : List (List Dd)} {ds : List Dd} (h : AppX w base N v V dss) (hu : AppD w N u ds) (hb : base ≤ N)
    (hown : w1.ownsRow base 80 1 v' (dss.length + 1) ((List.range dss.length).map V ++ [u])) (hgrow : w.grownBy w1 v.ownBlock) (hblk : v'.ownBlock = v.ownBlock ∨ v'.ownBlock = some w.heap.size) (hN : N ≤ w.heap.size) :
    AppX w1 base w1.heap.size v' (fun i => if i = dss.length then u else V i) (dss ++ [ds]) := by
  have hl : (dss ++ [ds]).length = dss.length + 1 := by simp
  have hs := hgrow.size
  have vne : ∀ k, u.ownBlock = some k → v.ownBlock ≠ some k := fun k hk e => by have := (hu.lt k hk).1; have := h.lt k e; omega
  have older : ∀ i, i < dss.length + 1 → i ≠ dss.length → i < dss.length := fun i h1 h2 => by omega
  refine ⟨?_, fun k hk => (World.ownsRow.lt hown k hk).2, fun i hi => ?_, fun i hi k hk => ?_, fun i hi k hk => ?_, fun i j hij hj k hk => ?_⟩
  · rw [hl, List.range_succ, List.map_append]
    have e : (List.range dss.length).map (fun i => if i = dss.length then u else V i) = (List.range dss.length).map V := by
      apply List.map_congr_left
      intro i hi
      rw [List.mem_range] at hi
      rw [if_neg (by omega)]
    rw [e]
    simpa using hown
  · rw [hl] at hi
    by_cases e : i = dss.length
    · subst e
      rw [if_pos rfl, getD_last dss ds []]
      refine (hu.base_le hb).kept hgrow ?_
      cases hv : u.ownBlock with
      | none => exact .inl rfl
      | some k => exact .inr (fun e => vne k hv e.symm)
    · rw [if_neg e, getD_left dss [ds] i [] (older i hi e)]
      refine (h.each i (older i hi e)).kept hgrow ?_
      cases hv : (V i).ownBlock with
      | none => exact .inl rfl
      | some k => exact .inr (fun e2 => h.out i (older i hi e) k hv e2.symm)
  · rw [hl] at hi
    by_cases e : i = dss.length
    · rw [if_pos e] at hk
      have := (hu.lt k hk).2
      omega
    · rw [if_neg e] at hk
      have := h.lts i (older i hi e) k hk
      omega
  · rw [hl] at hi
    by_cases e : i = dss.length
    · rw [if_pos e] at hk
      rcases hblk with e2 | e2
      · rw [e2]; exact vne k hk
      · rw [e2]
        have := (hu.lt k hk).2
        simp only [ne_eq, Option.some.injEq]
        omega
    · rw [if_neg e] at hk
      rcases hblk with e2 | e2
      · rw [e2]; exact h.out i (older i hi e) k hk
      · rw [e2]
        have := h.lts i (older i hi e) k hk
        simp only [ne_eq, Option.some.injEq]
        omega
  · rw [hl] at hj
    rw [if_neg (show i ≠ dss.length by omega)] at hk
    by_cases e : j = dss.length
    · rw [if_pos e]
      intro e2
      have := (hu.lt k e2).1
      have := h.lts i (by omega) k hk
      omega
    · rw [if_neg e]
      exact h.apart i j hij (by omega) k hk
theorem getD_setW {α : Type} (l : List α) (i j : Nat) (x z : α) (hi : i < l.length) : (l.set i x).getD j z = if i = j then x else l.getD j z := by
  rw [List.getD_eq_getElem?_getD, List.getElem?_set]
  by_cases e : i = j
  · subst e; rw [if_pos rfl, if_pos hi, if_pos rfl]; rfl
  · rw [if_neg e, if_neg e, List.getD_eq_getElem?_getD]
/-- A number of one deed is written. -/
theorem AppX.put {w : World} {base N : Nat} {v : Value} {V : Nat → Value} {dss : List (List Dd)} (h : AppX w base N v V dss) {i k g n c : Nat} (hi : i < dss.length) (hV : V i = .slice (some ⟨g, 0, none⟩) n c) (hk : k < (dss.getD i []).length) (x : Int) :
    ∃ ds, ds.length = (dss.getD i []).length ∧ AppX (w.setCell ⟨g, k * 4 + 3, none⟩ (.int .i64 x)) base N v V (dss.set i ds) := by
  have ob : (V i).ownBlock = some g := by rw [hV]; rfl
  have hg := grown_put w g (k * 4 + 3) (.int .i64 x)
  have hap := h.each i hi
  rw [hV] at hap
  refine ⟨(dss.getD i []).set k (((dss.getD i []).getD k zD).1, ((dss.getD i []).getD k zD).2.1, ((dss.getD i []).getD k zD).2.2.1, x), by rw [List.length_set], ⟨?_, h.lt, fun j hj => ?_, fun j hj => h.lts j (by simpa using hj), fun j hj => h.out j (by simpa using hj), fun a b hab hb => h.apart a b hab (by simpa using hb)⟩⟩
  · rw [List.length_set]
    refine World.ownsRow.kept h.row hg ?_
    exact .inr (h.out i hi g ob)
  · rw [List.length_set] at hj
    rw [getD_setW dss i j _ [] hi]
    by_cases e : i = j
    · subst e
      rw [if_pos rfl, hV]
      exact hap.put hk x
    · rw [if_neg e]
      refine (h.each j hj).kept hg ?_
      cases hv : (V j).ownBlock with
      | none => exact .inl rfl
      | some q =>
        refine .inr (fun e2 => ?_)
        simp only [Option.some.injEq] at e2
        subst e2
        rcases Nat.lt_or_gt_of_ne e with hl | hl
        · exact h.apart i j hl hj q ob hv
        · exact h.apart j i hl hi q hv ob
end Go.Proofs.YtkbkdlaknmgjpaaGreat

/- Contracts of the cursor that the specification draws its inputs with: what is drawn lies in its range, and nothing but the cursor's own block and new memory is written. -/
namespace Go.Proofs.YtkbkdlaknmgjpaaGreat
open Go.ChangeShapes Go.WideShapes Go.ChangeAt Go.RowKit

theorem and255 (a : Int) : 0 ≤ bits .and .i64 a 255 ∧ bits .and .i64 a 255 ≤ 255 := by
  have e : bits .and .i64 a 255 = IntKind.i64.wrap (((BitVec.ofInt 64 a &&& BitVec.ofInt 64 255).toNat : Nat) : Int) := rfl
  have h : (BitVec.ofInt 64 a &&& BitVec.ofInt 64 255).toNat ≤ 255 := by
    rw [BitVec.toNat_and]
    exact Nat.and_le_right
  rw [e, IntKind.wrap_i64]
  omega

/-- The bytes that a cursor reads, in memory below block B. -/
def RdB (w : World) (B : Nat) (a : Option Addr) (zs : List Int) : Prop :=
  zs.length ≤ 4096 ∧ (zs = [] ∨ ∃ b off, a = some ⟨b, off, none⟩ ∧ b < B ∧ b < w.heap.size ∧ ∀ i, i < zs.length → w.cell? ⟨b, off + i, none⟩ = some (.int .u8 (zs.getD i 0)) ∧ 0 ≤ zs.getD i 0 ∧ zs.getD i 0 ≤ 255)
/-- Block g is a cursor. -/
def Cur (w : World) (B g : Nat) : Prop :=
  B ≤ g ∧ ∃ (a : Option Addr) (cap : Nat) (zs : List Int) (i : Nat) (h : Int), w.heap[g]? = some (.cells #[.slice a zs.length cap, .int .i64 i, .int .i64 h] 130 (0, 0)) ∧ i ≤ zs.length ∧ RdB w B a zs
theorem RdB.kept {w w' : World} {B : Nat} {a : Option Addr} {zs : List Int} {row : Option Nat} (h : RdB w B a zs) (hg : w.grownBy w' row) (hr : ∀ k, row = some k → B ≤ k) : RdB w' B a zs := by
  refine ⟨h.1, ?_⟩
  rcases h.2 with h | ⟨b, off, ha, hb, hbs, hc⟩
  · exact .inl h
  · refine .inr ⟨b, off, ha, hb, Nat.lt_of_lt_of_le hbs hg.size, fun i hi => ⟨?_, (hc i hi).2⟩⟩
    rw [World.cell?_of_block (w := w) (hg.block b hbs (fun e => by have := hr b e.symm; omega))]
    exact (hc i hi).1
theorem RdB.up {w w' : World} {a : Option Addr} {zs : List Int} (h : RdB w w.heap.size a zs) (k : Keep w w') : RdB w' w'.heap.size a zs := by
  have h' := h.kept k.grownBy (by simp)
  refine ⟨h'.1, ?_⟩
  rcases h'.2 with e | ⟨b, off, ha, hb, hbs, hc⟩
  · exact .inl e
  · exact .inr ⟨b, off, ha, hbs, hbs, hc⟩
theorem Cur.lt {w : World} {B g : Nat} (h : Cur w B g) : g < w.heap.size := by
  obtain ⟨_, a, cap, zs, i, x, hh, _⟩ := h
  exact (Array.getElem?_eq_some_iff.1 hh).1
theorem Cur.kept {w w' : World} {B g : Nat} {row : Option Nat} (h : Cur w B g) (hg : w.grownBy w' row) (hne : row ≠ some g) (hr : ∀ k, row = some k → B ≤ k) : Cur w' B g := by
  have hlt := h.lt
  obtain ⟨hB, a, cap, zs, i, x, hh, hi, hb⟩ := h
  exact ⟨hB, a, cap, zs, i, x, by rw [hg.block g hlt (fun e => hne e.symm)]; exact hh, hi, hb.kept hg hr⟩
theorem Cur.keep {w w' : World} {B g : Nat} (h : Cur w B g) (k : Keep w w') : Cur w' B g := h.kept k.grownBy (by simp) (by simp)
def CurI (w : World) (B g : Nat) (a : Option Addr) (cap : Nat) (zs : List Int) (i h : Int) : Prop :=
  B ≤ g ∧ w.heap[g]? = some (.cells #[.slice a zs.length cap, .int .i64 i, .int .i64 h] 130 (0, 0)) ∧ RdB w B a zs
theorem CurI.cur {w : World} {B g : Nat} {a : Option Addr} {cap : Nat} {zs : List Int} {i h : Int} (c : CurI w B g a cap zs i h) (h0 : 0 ≤ i) (hi : i ≤ zs.length) : Cur w B g := by
  obtain ⟨n, rfl⟩ := Int.eq_ofNat_of_zero_le h0
  exact ⟨c.1, a, cap, zs, n, h, c.2.1, by omega, c.2.2⟩
theorem grown_setCell (w : World) (g j : Nat) (v : Value) : w.grownBy (w.setCell ⟨g, j, none⟩ v) (some g) :=
  ⟨rfl, rfl, rfl, by simp, fun k _ hk => heap_setCell_other w ⟨g, j, none⟩ k v (fun e => hk (by simp [e]))⟩
theorem CurI.seth {w : World} {B g : Nat} {a : Option Addr} {cap : Nat} {zs : List Int} {i h : Int} (c : CurI w B g a cap zs i h) (y : Int) : CurI (w.setCell ⟨g, 2, none⟩ (.int .i64 y)) B g a cap zs i y :=
  ⟨c.1, by rw [heap_setCell_same w g 2 _ _ _ c.2.1]; rfl, c.2.2.kept (grown_setCell w g 2 _) (by intro k hk; simp at hk; subst hk; exact c.1)⟩
theorem CurI.seti {w : World} {B g : Nat} {a : Option Addr} {cap : Nat} {zs : List Int} {i h : Int} (c : CurI w B g a cap zs i h) (y : Int) : CurI (w.setCell ⟨g, 1, none⟩ (.int .i64 y)) B g a cap zs y h :=
  ⟨c.1, by rw [heap_setCell_same w g 1 _ _ _ c.2.1]; rfl, c.2.2.kept (grown_setCell w g 1 _) (by intro k hk; simp at hk; subst hk; exact c.1)⟩
theorem grown_drewN (w : World) (n : Nat) (row : Option Nat) : w.grownBy (w.drewN n) row := ⟨rfl, rfl, rfl, Nat.le_refl _, fun _ _ _ => rfl⟩
theorem CurI.drewN {w : World} {B g : Nat} {a : Option Addr} {cap : Nat} {zs : List Int} {i h : Int} (c : CurI w B g a cap zs i h) (n : Nat) : CurI (w.drewN n) B g a cap zs i h :=
  ⟨c.1, c.2.1, c.2.2.kept (row := none) (grown_drewN w n none) (by simp)⟩
set_option maxHeartbeats 1000000 in
theorem byte_any (w : World) (B g : Nat) (hc : Cur w B g) :
    Calls Tryz.prog 161 #[.pointer (some ⟨g, 0, none⟩)] w fun e w' => ∃ x, e = .returned (.int .i64 x) ∧ 0 ≤ x ∧ x ≤ 255 ∧ Cur w' B g ∧ w.grownBy w' (some g) := by
  obtain ⟨hB, a, cap, zs, i, x, hh, hi, hb⟩ := hc
  have C : CurI w B g a cap zs i x := ⟨hB, hh, hb⟩
  have c0 : w.cell? ⟨g, 0, none⟩ = some (.slice a zs.length cap) := by rw [cell_of_row w g 0 _ _ (0, 0) hh]; rfl
  have c1 : w.cell? ⟨g, 1, none⟩ = some (.int .i64 i) := by rw [cell_of_row w g 1 _ _ (0, 0) hh]; rfl
  have c2 : w.cell? ⟨g, 2, none⟩ = some (.int .i64 x) := by rw [cell_of_row w g 2 _ _ (0, 0) hh]; rfl
  have f1 : w.frozen? ⟨g, 1, none⟩ = false := frozen_of_row w g 1 _ _ hh
  have f2 : w.frozen? ⟨g, 2, none⟩ = false := frozen_of_row w g 2 _ _ hh
  clear hh
  have hzl := hb.1
  by_cases hlt : i < zs.length
  · rcases hb.2 with h | ⟨b, off, rfl, hbB, hbs, hcc⟩
    · exfalso; rw [h] at hlt; simp at hlt
    obtain ⟨d1, d2, d3⟩ := hcc i hlt
    have hbg : b ≠ g := by omega
    obtain ⟨q, hq⟩ : ∃ q, q = zs.getD i 0 := ⟨_, rfl⟩
    rw [← hq] at d1 d2 d3
    clear hcc hq hb
    go_enter Tryz.func161, Tryz.ntmps161
    go_wp2
    go_quiet (fail)
    go_wp2
    go_quiet (fail)
    go_wp2
    go_quiet (fail)
    go_wp2
    go_ret
    exact ⟨_, rfl, (and255 _).1, (and255 _).2, (((C.seth _).drewN _).seti _).cur (by omega) (by omega), grown_trans (grown_trans (grown_setCell w g 2 _) (grown_drewN _ _ _)) (grown_setCell _ g 1 _)⟩
  · clear hb
    go_enter Tryz.func161, Tryz.ntmps161
    go_wp2
    go_quiet (fail)
    go_wp2
    go_quiet (fail)
    go_wp2
    go_ret
    exact ⟨_, rfl, (and255 _).1, (and255 _).2, (((C.seth _).drewN _).drewN _).cur (by omega) (by omega), grown_trans (grown_trans (grown_setCell w g 2 _) (grown_drewN _ _ _)) (grown_drewN _ _ _)⟩
set_option maxHeartbeats 400000 in
theorem new_any (w : World) (a : Option Addr) (cap : Nat) (zs : List Int) (hb : RdB w w.heap.size a zs) :
    Calls Tryz.prog 72 #[.slice a zs.length cap] w fun e w' => e = .returned (.pointer (some ⟨w.heap.size, 0, none⟩)) ∧ Cur w' w.heap.size w.heap.size ∧ Keep w w' := by
  have hzl := hb.1
  go_enter Tryz.func72, Tryz.ntmps72
  go_wp2
  go_loop [3, 4] (fun x i => ∃ (k : Nat) (h : Int), k ≤ zs.length ∧ i = .int .i64 k ∧ x = .int .i64 h) (fun _ i => zs.length - (intOf i).toNat)
  case atStart => exact ⟨0, _, Nat.zero_le _, rfl, rfl⟩
  case round =>
    obtain ⟨k, h, hk, rfl, rfl⟩ := hrel
    by_cases hlt : k < zs.length
    · rcases hb.2 with h | ⟨b, off, rfl, hbB, hbs, hcc⟩
      · exfalso; rw [h] at hlt; simp at hlt
      obtain ⟨d1, d2, d3⟩ := hcc k hlt
      obtain ⟨q, hq⟩ : ∃ q, q = zs.getD k 0 := ⟨_, rfl⟩
      rw [← hq] at d1 d2 d3
      clear hcc hq
      go_wp2
      go_round
      case rel => exact ⟨k + 1, _, by omega, by go_num, rfl⟩
      case measure => simp [intOf]; omega
    · go_wp2
      go_ret
      refine ⟨rfl, ⟨Nat.le_refl _, a, cap, zs, 0, h, heap_alloc_new w _, Nat.zero_le _, ?_⟩, (Keep.refl w).alloc _⟩
      exact hb.kept (World.grownBy_alloc w _ none) (by simp)
theorem tmod_lt {x n : Int} (h0 : 0 ≤ x) (h1 : 1 ≤ n) : 0 ≤ x.tmod n ∧ x.tmod n < n :=
  ⟨Int.tmod_nonneg n h0, Int.tmod_lt_of_pos x (by omega)⟩
theorem emod_lt' {x n : Int} (h1 : 1 ≤ n) : 0 ≤ x % n ∧ x % n < n := ⟨Int.emod_nonneg x (by omega), Int.emod_lt_of_pos x (by omega)⟩
set_option maxHeartbeats 400000 in
theorem below_any (w : World) (B g : Nat) (n : Int) (hc : Cur w B g) (h1 : 1 ≤ n) :
    Calls Tryz.prog 124 #[.pointer (some ⟨g, 0, none⟩), .int .i64 n] w fun e w' => ∃ x, e = .returned (.int .i64 x) ∧ 0 ≤ x ∧ x < n ∧ Cur w' B g ∧ w.grownBy w' (some g) := by
  by_cases h2 : n ≤ 256
  · go_enter Tryz.func124, Tryz.ntmps124
    go_wp2_with fail
    refine (byte_any _ B g hc).mono ?_
    rintro e w1 ⟨x, rfl, x0, x1, c1, g1⟩
    go_wp2
    go_ret
    exact ⟨_, rfl, (emod_lt' h1).1, (emod_lt' h1).2, c1, g1⟩
  · go_enter Tryz.func124, Tryz.ntmps124
    go_wp2_with fail
    refine (byte_any _ B g hc).mono ?_
    rintro e w1 ⟨x, rfl, x0, x1, c1, g1⟩
    go_wp2_with fail
    refine (byte_any _ B g c1).mono ?_
    rintro e w2 ⟨y, rfl, y0, y1, c2, g2⟩
    go_wp2_with fail
    refine (byte_any _ B g c2).mono ?_
    rintro e w3 ⟨z, rfl, z0, z1, c3, g3⟩
    go_wp2_with fail
    refine (byte_any _ B g c3).mono ?_
    rintro e w4 ⟨u, rfl, u0, u1, c4, g4⟩
    go_wp2
    go_ret
    exact ⟨_, rfl, (emod_lt' h1).1, (emod_lt' h1).2, c4, grown_trans (grown_trans (grown_trans g1 g2) g3) g4⟩
theorem once_any (w : World) (B g : Nat) (n : Int) (hc : Cur w B g) (h1 : 1 ≤ n) :
    Calls Tryz.prog 123 #[.pointer (some ⟨g, 0, none⟩), .int .i64 n] w fun e w' => ∃ b : Bool, e = .returned (.bool b) ∧ Cur w' B g ∧ w.grownBy w' (some g) := by
  go_enter Tryz.func123, Tryz.ntmps123
  go_wp2_with fail
  refine (below_any _ B g _ hc h1).mono ?_
  rintro e w1 ⟨x, rfl, x0, x1, c1, g1⟩
  go_wp2
  go_ret
  exact ⟨_, rfl, c1, g1⟩
theorem lit_int {w1 w2 : World} {e : TypeId} {row : Option Nat} (l : List Int) (hg : (w1.alloc (.cells (l.map (Value.int .i64)).toArray e)).grownBy w2 row) (hne : row ≠ some w1.heap.size) (j : Nat) (hj : j < l.length) :
    ∃ y, w2.cell? ⟨w1.heap.size, j, none⟩ = some (.int .i64 y) := by
  refine ⟨l[j], ?_⟩
  have h1 := heap_alloc_new w1 (.cells (l.map (Value.int .i64)).toArray e)
  rw [World.cell?_of_block (w := w1.alloc (.cells (l.map (Value.int .i64)).toArray e)) (hg.block w1.heap.size (by simp) (fun e => hne e.symm)), cell_of_row _ _ j _ _ _ h1]
  simp [hj]
theorem own_ne {w : World} {g : Nat} {v : Value} {zs : List Int} (h : Own w (g + 1) v zs) : v.ownBlock = none ∨ v.ownBlock ≠ some g := by
  cases hv : v.ownBlock with
  | none => exact .inl rfl
  | some k => exact .inr (fun e => by have := h.ge k hv; simp at e; omega)
/-- What the shell tells of the bytes that came in, as bytes that a cursor reads. -/
theorem rdb_of_row {w : World} {a : Option Addr} {len cap : Nat} {ys : List Int} (hlen : len ≤ 4096)
    (h : (a = none ∧ len = 0 ∧ cap = 0 ∧ ys = []) ∨ ∃ x, a = some x ∧ len ≤ cap ∧ cap ≤ maxLen ∧ ys.length = cap ∧ (∀ i, i < ys.length → w.cell? (x.add i) = some (.int .u8 (ys.getD i 0))) ∧ ∀ n ∈ ys, (Lit.int .u8 n).wf = true) :
    ∃ zs : List Int, zs.length = len ∧ RdB w w.heap.size a zs := by
  rcases h with ⟨rfl, rfl, rfl, rfl⟩ | ⟨x, rfl, hl, hm, hy, hc, hw⟩
  · exact ⟨[], rfl, by simp, .inl rfl⟩
  · have hzl : (ys.take len).length = len := by rw [List.length_take]; omega
    refine ⟨ys.take len, hzl, by omega, ?_⟩
    by_cases h0 : len = 0
    · left; subst h0; simp
    · right
      obtain ⟨b, off, spot⟩ := x
      have hc0 := hc 0 (by omega)
      have hspot : spot = none := by simpa [Addr.add] using World.cell?_spot hc0
      subst hspot
      have hcc : ∀ i, i < (ys.take len).length → w.cell? ⟨b, off + i, none⟩ = some (.int .u8 ((ys.take len).getD i 0)) ∧ 0 ≤ (ys.take len).getD i 0 ∧ (ys.take len).getD i 0 ≤ 255 := by
        intro i hi
        have hi' : i < ys.length := by omega
        have h1 := hc i hi'
        have e1 : (⟨b, off, none⟩ : Addr).add i = ⟨b, off + i, none⟩ := by unfold Addr.add; split <;> simp_all
        rw [e1] at h1
        have e2 : (ys.take len).getD i 0 = ys.getD i 0 := by
          rw [List.getD_eq_getElem?_getD, List.getD_eq_getElem?_getD, List.getElem?_take, if_pos (by omega)]
        rw [e2]
        refine ⟨h1, ?_⟩
        have hm : ys.getD i 0 ∈ ys := by rw [List.getD_eq_getElem?_getD, List.getElem?_eq_getElem hi']; exact List.getElem_mem hi'
        have := bounds_u8 (hw _ hm)
        omega
      refine ⟨b, off, rfl, ?_, ?_, hcc⟩
      all_goals
        have h2 := (hcc 0 (by omega)).1
        apply Classical.byContradiction
        intro hnb
        have h3 : w.heap[b]? = none := by simp; omega
        simp [World.cell?, h3] at h2
end Go.Proofs.YtkbkdlaknmgjpaaGreat
