/- Contracts of the program's joining (a closure that keeps the lines so far) and PlaceWeb. -/
import Derived.Test.YtkbkdlaknmgjpaaGreatMB
import Derived.Test.YtkbkdlaknmgjpaaGreatAtPlI
import Derived.Test.YtkbkdlaknmgjpaaGreatMD
import Derived.Test.YtkbkdlaknmgjpaaGreatME
import Derived.Test.YtkbkdlaknmgjpaaGreatMA
import Derived.Test.YtkbkdlaknmgjpaaGreatMC
namespace Go.Proofs.YtkbkdlaknmgjpaaGreat
open Go.ChangeShapes Go.WideShapes Go.ChangeAt Go.RowKit

theorem joining_any (w : World) (a : Option Addr) (n c : Nat) :
    Calls Tryz.prog 125 #[.slice a n c] w fun e w' => e = .returned (.func (Fn.func 162) #[] #[.pointer (some ⟨w.heap.size, 0, none⟩)]) ∧ w' = w.alloc (.cells #[.slice a n c] 25) := by
  go_enter Tryz.func125, Tryz.ntmps125
  go_wp2
  go_ret
  exact ⟨rfl, rfl⟩
set_option maxHeartbeats 1000000 in
theorem joins_any (w : World) (g : Nat) (u v : Value) (xs ys : List Int) (hg : w.heap[g]? = some (.cells #[u] 25 (0, 0))) (h1 : Rd w u xs) (h2 : Rd w v ys) (n1 : xs.length ≤ 1048576) (n2 : ys.length ≤ 1048576) :
    Calls Tryz.prog 162 #[v, .pointer (some ⟨g, 0, none⟩)] w fun e w' => ∃ v', e = .returned v' ∧ Row w' w.heap.size v' (mixL orI xs ys) ∧ w'.heap[g]? = some (.cells #[v'] 25 (0, 0)) ∧ w.grownBy w' (some g) := by
  have hgl : g < w.heap.size := (Array.getElem?_eq_some_iff.1 hg).1
  have c0 : w.cell? ⟨g, 0, none⟩ = some u := by rw [cell_of_row w g 0 _ _ _ hg]; rfl
  have C := implJoined_any w u v xs ys h1 h2 n1 n2
  obtain ⟨a1, c1, rfl, -⟩ := h1
  obtain ⟨a2, c2, rfl, -⟩ := h2
  go_enter Tryz.func162, Tryz.ntmps162
  go_wp2_with fail
  refine C.mono ?_
  rintro e w1 ⟨v', rfl, o, k⟩
  have hg1 := (Below.block k g hgl).trans hg
  have f1 : w1.frozen? ⟨g, 0, none⟩ = false := frozen_of_row w1 g 0 _ _ hg1
  have HS := Lib.hid (heap_setCell_same w1 g 0 _ _ v' hg1)
  have HG := Lib.hid (grown_set w1 g 0 v')
  have d0 : w1.cell? ⟨g, 0, none⟩ = some (.slice a1 xs.length c1) := (k.cell hgl).trans c0
  have HO : Row (w1.setCell ⟨g, 0, none⟩ v') w.heap.size v' (mixL orI xs ys) := o.kept HG.out (by
    cases hv : v'.ownBlock with
    | none => exact .inl rfl
    | some q => exact .inr (fun e => by have := o.ge q hv; have := Option.some.inj e; omega))
  have HW : w.grownBy (w1.setCell ⟨g, 0, none⟩ v') (some g) := grown_trans ⟨Below.os k, Below.tape k, Below.output k, Below.size k, fun i hi _ => Below.block k i hi⟩ HG.out
  have HE := Lib.hid HW
  clear HW hg1 C
  obtain ⟨a3, c3, rfl, -⟩ := o.rd
  go_wp2
  go_ret
  exact ⟨_, rfl, HO, HS.out, HE.out⟩
/-- The box of the lines turns, all that lay ahead of it stays. -/
theorem Keep.box {a w w' : World} {g : Nat} (h : Keep a w) (hg : w.grownBy w' (some g)) (hl : a.heap.size ≤ g) : Keep a w' := h.grown hg (fun k hk => by have := Option.some.inj hk; omega)
set_option maxRecDepth 100000 in
set_option maxHeartbeats 2000000 in
theorem implPlaceWeb_any (w : World) (v vF vR : Value) (dss : List (List Dd)) (f rows : List Int) (h : RdW w v dss) (hf : Rd w vF f) (hr : Rd w vR rows) (hcap : rows.length ≤ capZ vR) (hx : dss.length ≤ 1048576) (hm : ∀ i, i < dss.length → (dss.getD i []).length ≤ 1048576) (hfl : f.length ≤ 1048576) (hrl : rows.length ≤ 1048576) :
    Calls Tryz.prog 75 #[v, .agg #[vF, vR]] w fun e w' => ∃ v', e = .returned v' ∧ Row w' w.heap.size v' (pwB dss f rows) ∧ Keep w w' := by
  have CA := fun (W : World) (kW : Keep w W) => implAtOnePlace_any W v dss (h.keep kW) hx hm
  have CF := fun (W : World) (kW : Keep w W) => implFromWeb_any W v vF dss f (h.keep kW) (hf.keep kW) hx hm hfl
  have CR := fun (W : World) (kW : Keep w W) => implRowWeb_any W v vR dss rows (h.keep kW) (hr.keep kW) hcap hx hm hrl
  have CG := fun (W : World) (kW : Keep w W) => implAgainstWeb_any W v vF vR dss f rows (h.keep kW) (hf.keep kW) (hr.keep kW) hcap hx hm hfl hrl
  have HE := Lib.hid (pw_chain dss f rows)
  have lA : (plcL (eventsB dss)).length ≤ 1048576 := by
    have h9 := eventsB_len9 dss
    have := (plc_line (es := eventsB dss) (by omega)).1.2.1
    omega
  have lF : (fwB dss f).length ≤ 1048576 := by have := fwB_len dss f; omega
  have lR : (rwB dss rows).length ≤ 1048576 := by have := rwB_len dss rows; omega
  have lG : (agB dss f rows).length ≤ 1048576 := by have := agB_len dss f rows; omega
  have l1 := fun (a b : List Int) => (show (mixL orI a b).length ≤ 1048576 by have := mixL_len orI a b; omega)
  unfold chnL at HE
  generalize pwB dss f rows = L at *
  generalize plcL (eventsB dss) = LA at *
  generalize fwB dss f = LF at *
  generalize rwB dss rows = LR at *
  generalize agB dss f rows = LG at *
  obtain ⟨aF, cF, rfl, -⟩ := hf
  obtain ⟨aR, cR, rfl, -⟩ := hr
  go_enter Tryz.func75, Tryz.ntmps75
  go_wp2_with fail
  refine (CA _ ((Keep.refl w).alloc _)).mono ?_
  rintro e w1 ⟨v1, rfl, o1, k1⟩
  have K1 := ((Keep.refl w).alloc _).trans k1
  have s1 := box_size k1
  have hb1 := box_heap k1
  obtain ⟨a1, c1, rfl, -⟩ := o1.rd
  clear k1 CA
  go_wp2_with fail
  refine (joining_any _ _ _ _).mono ?_
  rintro e w2 ⟨rfl, rfl⟩
  have k2 : Keep w1 (w1.alloc (.cells #[.slice a1 LA.length c1] 25)) := (Keep.refl w1).alloc _
  have hg2 : (w1.alloc (.cells #[.slice a1 LA.length c1] 25)).heap[w1.heap.size]? = some (.cells #[.slice a1 LA.length c1] 25 (0, 0)) := heap_alloc_new w1 _
  have K2 := K1.trans k2
  have hb2 := (Below.block k2 w.heap.size s1).trans hb1
  have r2 := o1.rd.keep k2
  have s2 : w1.heap.size < (w1.alloc (.cells #[.slice a1 LA.length c1] 25)).heap.size := by rw [heap_size]; omega
  generalize w1.alloc (.cells #[.slice a1 LA.length c1] 25) = w2 at *
  clear k2 hb1
  have c20 : w2.cell? ⟨w.heap.size, 0, none⟩ = some (.slice aF f.length cF) := by rw [cell_of_row w2 _ 0 _ _ _ hb2]; rfl
  go_wp2_with fail
  refine (CF _ K2).mono ?_
  rintro e w3 ⟨v3, rfl, o3, k3⟩
  clear CF c20
  have hg3 := (Below.block k3 w1.heap.size s2).trans hg2
  have hb3 := (Below.block k3 w.heap.size (by omega)).trans hb2
  have K3 := K2.trans k3
  have s3 := k3.size
  go_wp2_with fail
  refine (joins_any _ _ _ _ _ _ hg3 (r2.keep k3) o3.rd lA lF).mono ?_
  rintro e w4 ⟨v4, rfl, o4, hg4, g4⟩
  have K4 : Keep w w4 := K3.box g4 (by omega)
  have hb4 := (g4.block w.heap.size (by omega) (fun e => by have := Option.some.inj e; omega)).trans hb3
  have s4 := g4.size
  have c41 : w4.cell? ⟨w.heap.size, 1, none⟩ = some (.slice aR rows.length cR) := by rw [cell_of_row w4 _ 1 _ _ _ hb4]; rfl
  clear k3 hg3 hb3 K3 hg2 hb2 K2 r2 g4 o3
  go_wp2_with fail
  refine (CR _ K4).mono ?_
  rintro e w5 ⟨v5, rfl, o5, k5⟩
  clear CR c41
  have hg5 := (Below.block k5 w1.heap.size (by omega)).trans hg4
  have hb5 := (Below.block k5 w.heap.size (by omega)).trans hb4
  have K5 := K4.trans k5
  have s5 := k5.size
  go_wp2_with fail
  refine (joins_any _ _ _ _ _ _ hg5 (o4.rd.keep k5) o5.rd (l1 _ _) lR).mono ?_
  rintro e w6 ⟨v6, rfl, o6, hg6, g6⟩
  have K6 : Keep w w6 := K5.box g6 (by omega)
  have hb6 := (g6.block w.heap.size (by omega) (fun e => by have := Option.some.inj e; omega)).trans hb5
  have s6 := g6.size
  have c60 : w6.cell? ⟨w.heap.size, 0, none⟩ = some (.slice aF f.length cF) := by rw [cell_of_row w6 _ 0 _ _ _ hb6]; rfl
  have c61 : w6.cell? ⟨w.heap.size, 1, none⟩ = some (.slice aR rows.length cR) := by rw [cell_of_row w6 _ 1 _ _ _ hb6]; rfl
  clear k5 hg5 hb5 K5 hg4 hb4 K4 g6 o5 o4
  go_wp2_with fail
  refine (CG _ K6).mono ?_
  rintro e w7 ⟨v7, rfl, o7, k7⟩
  clear CG c60 c61
  have hg7 := (Below.block k7 w1.heap.size (by omega)).trans hg6
  have K7 := K6.trans k7
  have s7 := k7.size
  go_wp2_with fail
  refine (joins_any _ _ _ _ _ _ hg7 (o6.rd.keep k7) o7.rd (l1 _ _) lG).mono ?_
  rintro e w8 ⟨v8, rfl, o8, -, g8⟩
  have K8 : Keep w w8 := K7.box g8 (by omega)
  clear k7 hg7 hg6 K6 g8 o7 o6
  have HO : Row w8 w.heap.size v8 L := by rw [← HE.out]; exact o8.base_le (by omega)
  clear HE o8
  go_wp2
  go_ret
  exact ⟨_, rfl, HO, K8⟩
end Go.Proofs.YtkbkdlaknmgjpaaGreat
