/- Gathered texts. -/
import Derived.Test.YtbmghnibngjicaaMI
import Derived.Test.YtbmghnibngjicaaMQ
import Derived.Defers
import Derived.Recover
import Derived.Lib.Hide
import Derived.Laws.Rows
import Derived.Deep.Cut
set_option maxRecDepth 100000
set_option maxHeartbeats 8000000
namespace Go.Proofs.Ytbmghnibngjicaa
open Go.ChangeShapes Go.WideShapes Go.ChangeAt Go.RowKit
theorem wpList_append_rd {w : World} {ops : Array Oper} {rest : List Oper} {o : Oper} {a : Act} {Q : Exit → Act → World → Prop} (hgd : o.guard = none) (s x : Operand)
    (ho : o.op = .call { callee := .builtin .append, args := #[s, x], argTypes := #[23, 23] })
    (base : Nat) (v : Value) (zs : List Int) (hs : a.eval s = v) (hown : Own w base v zs)
    (vx : Value) (hx : a.eval x = vx) (ys : List Int) (hr : Rd w vx ys) (hz : zs.length ≤ 1048576) (hy : ys.length ≤ 1048576) (hb : base ≤ w.heap.size)
    (h : ∀ v' w', Own w' base v' (zs ++ ys) → w.grownBy w' v.ownBlock → (v'.ownBlock = v.ownBlock ∨ v'.ownBlock = some w.heap.size) → wpList Try.prog ops Q rest (a.put o.dst v') w') : wpList Try.prog ops Q (o :: rest) a w :=
  wpList_plain hgd fun _ hK => wp_append_rd s x ho base v zs hs hown vx hx ys hr hz hy hb (fun v' w' h1 h2 h3 => hK _ _ (h v' w' h1 h2 h3))
theorem shn_idle (p0 : Addr) (w : World) : CallsD Try.prog 66 #[.pointer (some p0)] .returning w fun e u' w' => e = .returned (.tuple #[]) ∧ u' = .returning ∧ w' = w := by
  refine callsD_of_wpS Try.func66 rfl fun c₀ cs hu => ?_
  apply wpS_seq
  apply wpS_region
  have hn : ∀ w : World, (binOp BinOp.neq 20 .nilIface .nilIface).run Try.prog w = .ok (.bool false) w := fun _ => by kernel_rfl
  simp [wpOpsS, go_sem, recoverD, hu, Try.ntmps66, Exit.thenS, hn]
  refine wpS_cond (t := false) (by simp [Act.eval, Array.replicate]) ?_
  simp only [Bool.false_eq_true, if_false]
  refine wpS_of_wp (wp_skip ?_)
  cases c₀
  simp_all [bodyPostS, results, Try.results66]
theorem shn_hit (g : Nat) (w : World) (x : Value) (hg : w.heap[g]? = some (.cells #[x] 23 (0, 0))) : CallsD Try.prog 66 #[.pointer (some ⟨g, 0, none⟩)] (.panicking [{ v := pnV, recovered := false }]) w fun e u' w' => e = .returned (.tuple #[]) ∧ u' = .panicking [{ v := pnV, recovered := true }] ∧ w' = (w.alloc (.cells #[] 2)).setCell ⟨g, 0, none⟩ (.slice (some ⟨w.heap.size, 0, none⟩) 0 0) := by
  have hl : g < w.heap.size := (Array.getElem?_eq_some_iff.1 hg).1
  have hg2 := (Below.block ((Keep.refl w).alloc (.cells #[] 2)) g hl).trans hg
  have hc : (w.alloc (.cells #[] 2)).cell? ⟨g, 0, none⟩ = some x := by rw [cell_of_row _ g 0 _ _ _ hg2]; rfl
  have hf : (w.alloc (.cells #[] 2)).frozen? ⟨g, 0, none⟩ = false := frozen_of_row _ g 0 _ _ hg2
  have hv : ∀ w : World, (binOp BinOp.neq 20 pnV .nilIface).run Try.prog w = .ok (.bool true) w := fun _ => by kernel_rfl
  refine callsD_of_wpS Try.func66 rfl fun c₀ cs hu => ?_
  apply wpS_seq
  apply wpS_region
  simp [wpOpsS, go_sem, recoverD, hu, Try.ntmps66, Exit.thenS, hv]
  refine wpS_cond (t := true) (by simp [Act.eval, Array.replicate]) ?_
  simp only [if_true]
  refine wpS_of_wp ?_
  go_wp2
  cases c₀
  simp_all [bodyPostS, results, Try.results66]
  exact (World.setCell_alloc_past _ _ _ _ hl).symm
theorem shn_set {w wr : World} {v : Value} {zs : List Int} {x : Value} (O : Own wr (w.heap.size + 2) v zs) (K : Keep w wr) (hg : wr.heap[w.heap.size + 1]? = some (.cells #[x] 23 (0, 0))) :
    (wr.setCell ⟨w.heap.size + 1, 0, none⟩ v).cell? ⟨w.heap.size + 1, 0, none⟩ = some v ∧ (wr.setCell ⟨w.heap.size + 1, 0, none⟩ v).heap[w.heap.size + 1]? = some (.cells #[v] 23 (0, 0)) ∧ Own (wr.setCell ⟨w.heap.size + 1, 0, none⟩ v) (w.heap.size + 2) v zs ∧ Keep w (wr.setCell ⟨w.heap.size + 1, 0, none⟩ v) ∧ wr.cell? ⟨w.heap.size + 1, 0, none⟩ = some x ∧ wr.frozen? ⟨w.heap.size + 1, 0, none⟩ = false := by
  have hS := heap_setCell_same wr (w.heap.size + 1) 0 _ _ v hg
  refine ⟨by rw [cell_of_row _ _ 0 _ _ _ hS]; rfl, hS, World.ownsRow.kept O (grown_set wr (w.heap.size + 1) 0 v) ?_, K.grown (grown_set wr (w.heap.size + 1) 0 v) (fun k hk => by have := Option.some.inj hk; omega), by rw [cell_of_row _ _ 0 _ _ _ hg]; rfl, frozen_of_row wr _ 0 _ _ hg⟩
  cases e : v.ownBlock with
  | none => exact .inl rfl
  | some k => exact .inr (fun e' => by have := O.ge k e; have := Option.some.inj e'; omega)
theorem implShownBoard_any (w : World) (v : BV) (dss : List (List Dd)) (b : Bd) (h : RdBd w v dss b) (hz : SzBd dss b) :
    Calls Try.prog 26 #[v.agg] w fun e w' => ∃ v', e = .returned v' ∧ Row w' w.heap.size v' (shownB dss b) ∧ Keep w w' := by
  obtain ⟨aW, aP, aL, aN, aX, aS, aF, aR, cW, cP, cL, cN, cX, cS, cF, cR, rfl⟩ := h.shapes
  have C := fun (W : World) (kW : Keep w W) => mustRight_any W _ dss b (h.keep kW) hz
  have HS := Lib.hid h.S
  have HP := Lib.hid h.P
  have z1 := hz.sn
  have z2 := hz.plc
  clear h hz
  have HD : Hid (shownB dss b = if boardB dss b = true then b.sn ++ b.plc else []) := Lib.hid rfl
  have hmf : ∀ (fn : Fn) (first cap : Array Value) (w : World), (Instr.makeFunc fn first cap).run Try.prog w = .ok (.func fn first cap) w := fun _ _ _ _ => rfl
  obtain ⟨w1, hw1⟩ : ∃ W : World, W = ((w.alloc (.cells #[.slice aW dss.length cW, .slice aP b.plc.length cP, .slice aL b.lst.length cL, .slice aN b.nts.length cN, .slice aX b.nxt.length cX, .slice aS b.sn.length cS, .slice aF b.fr.length cF, .slice aR b.rws.length cR] 33)).alloc (.cells #[.slice none 0 0] 23)) := ⟨_, rfl⟩
  have K1 : Keep w w1 := by rw [hw1]; exact ((Keep.refl w).alloc _).alloc _
  have s1 : w1.heap.size = w.heap.size + 2 := by rw [hw1, heap_size, heap_size]
  have hR1 : w1.heap[w.heap.size + 1]? = some (.cells #[.slice none 0 0] 23 (0, 0)) := by
    rw [hw1, ← heap_size w (.cells #[.slice aW dss.length cW, .slice aP b.plc.length cP, .slice aL b.lst.length cL, .slice aN b.nts.length cN, .slice aX b.nxt.length cX, .slice aS b.sn.length cS, .slice aF b.fr.length cF, .slice aR b.rws.length cR] 33)]; exact heap_alloc_new _ _
  have hB1 : w1.heap[w.heap.size]? = some (.cells #[.slice aW dss.length cW, .slice aP b.plc.length cP, .slice aL b.lst.length cL, .slice aN b.nts.length cN, .slice aX b.nxt.length cX, .slice aS b.sn.length cS, .slice aF b.fr.length cF, .slice aR b.rws.length cR] 33 (0, 0)) := by rw [hw1]; exact (Below.block ((Keep.refl _).alloc _) _ (by rw [heap_size]; omega)).trans (heap_alloc_new _ _)
  go_enter_defers Try.func26, Try.ntmps26
  go_upto_region 2 with fail
  rw [← hw1]
  clear hw1
  go_wp2_with (first | refine wpList_load_row rfl 33 _ rfl w.heap.size rfl 33 _ (0, 0) _ hB1 Try.underlying33 rfl board_info ?_ | fail)
  refine (C _ K1).mono ?_
  rintro e w2 ⟨rfl, k2⟩
  have K2 := K1.trans k2
  have hsz := k2.size
  have hR2 := (Below.block k2 (w.heap.size + 1) (by omega)).trans hR1
  have hB2 := (Below.block k2 w.heap.size (by omega)).trans hB1
  have k3 : Keep w2 (w2.alloc (.cells #[] 2)) := (Keep.refl w2).alloc _
  have O3 : Own (w2.alloc (.cells #[] 2)) (w.heap.size + 2) (.slice (some ⟨w2.heap.size, 0, none⟩) 0 0) [] := World.ownsRow_lit w2 #[] 0 (by omega) (by decide) rfl
  have hR3 := (Below.block k3 (w.heap.size + 1) (by omega)).trans hR2
  have hB3 := (Below.block k3 w.heap.size (by omega)).trans hB2
  have K3 := K2.trans k3
  have hsz3 := k3.size
  clear hR1 hB1 hB2 C
  cases hb : boardB dss b
  · rw [mustE_no rfl]
    have HE : Hid (shownB dss b = []) := Lib.hid (by rw [HD.out, hb]; rfl)
    obtain ⟨hc, -, OZ, KZ, -, -⟩ := shn_set O3 K3 hR3
    go_wp2
    refine leaves_cons (f := 66) (args := #[.pointer (some ⟨w.heap.size + 1, 0, none⟩)]) (by simp) (by simp [go_sem]) ?_
    refine (shn_hit _ _ _ hR2).mono ?_
    rintro e u' w9 ⟨rfl, rfl, rfl⟩
    simp [Leaves, settle, results, Try.results26, go_sem, hc]
    exact ⟨by rw [HE.out]; exact (OZ.base_le (by omega)).row, KZ⟩
  · rw [mustE_yes rfl]
    have HE : Hid (shownB dss b = b.sn ++ b.plc) := Lib.hid (by rw [HD.out, hb]; rfl)
    clear HD hb hR2
    obtain ⟨w3, hw3⟩ : ∃ W : World, W = w2.alloc (.cells #[] 2) := ⟨_, rfl⟩
    rw [← hw3] at O3 hR3 hB3 K3 k3 hsz3
    have f5 : w3.cell? ⟨w.heap.size, 5, none⟩ = some (.slice aS b.sn.length cS) := by rw [cell_of_row w3 _ 5 _ _ _ hB3]; rfl
    have f5' : (w2.alloc (.cells #[] 2)).cell? ⟨w.heap.size, 5, none⟩ = some (.slice aS b.sn.length cS) := by rw [← hw3]; exact f5
    go_wp2_with (at_builtin; rw [← hw3]; refine wpList_append_rd rfl _ _ rfl (w.heap.size + 2) _ [] rfl O3 _ rfl b.sn (HS.out.keep K3) (by simp) z1 (by omega) ?_)
    intro v4 w4 O4 g4 _
    rw [← hw3] at g4
    have hge : ∀ k, some w2.heap.size = some k → w.heap.size + 2 ≤ k := fun k hk => by have := Option.some.inj hk; omega
    have K4 : Keep w w4 := K3.grown g4 (fun k hk => by have := hge k hk; omega)
    have hR4 : w4.heap[w.heap.size + 1]? = some (.cells #[.slice none 0 0] 23 (0, 0)) := (g4.block _ (by omega) (fun e => by have := hge _ e.symm; omega)).trans hR3
    have hB4 := (g4.block w.heap.size (by omega) (fun e => by have := hge _ e.symm; omega)).trans hB3
    have hsz4 := g4.size
    clear hR3 hB3 O3 f5 f5' hw3 g4
    obtain ⟨a4, x4, rfl, -⟩ := id O4.rd
    obtain ⟨hc4, hS5, O5, K5, c4, fr4⟩ := shn_set O4 K4 hR4
    have hB5 := (heap_setCell_other w4 ⟨w.heap.size + 1, 0, none⟩ w.heap.size (.slice a4 b.sn.length x4) (by show w.heap.size ≠ w.heap.size + 1; omega)).trans hB4
    have hsz5 : w4.heap.size = (w4.setCell ⟨w.heap.size + 1, 0, none⟩ (.slice a4 b.sn.length x4)).heap.size := by simp
    go_upto_region 4 with fail
    generalize w4.setCell ⟨w.heap.size + 1, 0, none⟩ (.slice a4 b.sn.length x4) = w5 at *
    have f1 : w5.cell? ⟨w.heap.size, 1, none⟩ = some (.slice aP b.plc.length cP) := by rw [cell_of_row w5 _ 1 _ _ _ hB5]; rfl
    clear c4 fr4 O4 hR4 hB4
    go_wp2_with (at_builtin; refine wpList_append_rd rfl _ _ rfl (w.heap.size + 2) _ b.sn rfl O5 _ rfl b.plc (HP.out.keep K5) z1 z2 (by omega) ?_)
    intro v6 w6 O6 g6 _
    have K6 : Keep w w6 := K5.grown g6 (fun k hk => by have := O5.ge k hk; omega)
    have hR6 : w6.heap[w.heap.size + 1]? = some (.cells #[.slice a4 b.sn.length x4] 23 (0, 0)) := (g6.block _ (by omega) (fun e => by have := O5.ge _ e.symm; omega)).trans hS5
    clear hS5 hB5 O5 f1 g6 hc4
    generalize b.sn ++ b.plc = out at O6 HE
    obtain ⟨a6, x6, rfl, -⟩ := id O6.rd
    obtain ⟨hc, -, O7, K7, c6, fr6⟩ := shn_set O6 K6 hR6
    clear hR6 O6
    go_wp2
    refine leaves_cons (f := 66) (args := #[.pointer (some ⟨w.heap.size + 1, 0, none⟩)]) (by simp) (by simp [go_sem]) ?_
    refine (shn_idle _ _).mono ?_
    rintro e u' w9 ⟨rfl, rfl, rfl⟩
    simp [Leaves, settle, results, Try.results26, go_sem, hc]
    exact ⟨by rw [HE.out]; exact (O7.base_le (by omega)).row, K7⟩
end Go.Proofs.Ytbmghnibngjicaa
