/- Gathered texts. -/
import Derived.Test.YtgakfkjjkobpiaaGreatML
import Derived.BigRegion
import Derived.RegionTactic
import Derived.Deep.Cut
import Derived.Outline
import Derived.Deep.QuietTactic
import Derived.BigQuiet
import Derived.Lib.Hide
set_option maxRecDepth 100000
set_option maxHeartbeats 8000000
namespace Go.Proofs.YtgakfkjjkobpiaaGreat
open Go.ChangeShapes Go.WideShapes Go.ChangeAt Go.RowKit
theorem nt_cells {w : World} {m gq cap : Nat} {Z : List Nt} (o : AppT cN 44 3 w m (.slice (some ⟨gq, 0, none⟩) Z.length cap) Z) {x : Nt} {r : List Nt} (hz : Z = x :: r) : ∀ j u, (r.flatMap cN)[j]? = some u → w.cell? ((⟨gq, 3, none⟩ : Addr).add j) = some u := by
  subst hz
  intro j u hj
  have hl : (r.flatMap cN).length = r.length * 3 := by
    clear hj o
    induction r with
    | nil => rfl
    | cons y t ih => rw [List.flatMap_cons, List.length_append, ih, cN_len, List.length_cons]; omega
  have hjl : j < r.length * 3 := by rw [← hl]; exact (List.getElem?_eq_some_iff.1 hj).1
  have h1 := World.ownsRow.cellAt o (3 + j) (by rw [List.length_cons]; omega)
  have e : (⟨gq, 3, none⟩ : Addr).add j = ⟨gq, 3 + j, none⟩ := by simp [Addr.add]
  rw [e, h1, List.flatMap_cons, List.getElem?_append_right (by rw [cN_len]; omega), cN_len]
  rw [show 3 + j - 3 = j by omega]
  exact hj
theorem nts_one (r : List Nt) : ∀ u ∈ r.flatMap cN, u.oneCell' = true := fun u hu => by
  obtain ⟨x, _, hx⟩ := List.mem_flatMap.1 hu
  simp only [cN, List.mem_cons, List.not_mem_nil, or_false] at hx
  rcases hx with rfl | rfl | rfl <;> rfl
theorem nts_len (r : List Nt) : (r.flatMap cN).length = r.length * 3 := by
  induction r with
  | nil => rfl
  | cons y t ih => rw [List.flatMap_cons, List.length_append, ih, cN_len, List.length_cons]; omega
theorem l15Step_flush (w : World) (m D : Nat) (v : BV) (nv rv : List Value) (bs N : Nat) (dss : List (List Dd)) (b : Bd) (n c : Nat) (x : Nt) (r : List Nt) (h : OwnBd w m D v nv rv bs N dss b) (S : Shp dss b n) (hn : n ≤ 1000) (hc : c < dss.length) (hz : b.nts.getD c [] = x :: r) (hx : 0 ≤ x.1 ∧ x.1 ≤ 2) :
    Calls Tryz.prog 67 #[.pointer (some ⟨D, 0, none⟩), .int .i64 (10 + (c : Int))] w fun e w' => e = .returned (.tuple #[]) ∧ ∃ nv' rv', OwnBd w' m D v nv' rv' bs N dss (flushM b c) ∧ TurnB w w' (blkB D v nv rv) (blkB D v nv' rv') := by
  obtain ⟨i0, hi, hz0, hz1, hz2⟩ := info_parts Tryz.infoN
  have hd3 : dss.length ≤ 3 := (workB_useR S.work).1
  have hcn : c < b.nts.length := by rw [S.nts]; exact hc
  have hcv : c < nv.length := by rw [h.ln]; exact hcn
  have HM : Hid (flushM b c = inkM { b with nts := b.nts.set c r } x.1.toNat x.2.1 x.2.2) := Lib.hid (by unfold flushM; rw [hz])
  have hlr : r.length ≤ n := by have := S.nl c; rw [hz] at this; simp at this; omega
  have SL := S.less c r hlr
  obtain ⟨vW, vP, vL, vN, vX, vS, vF, vR⟩ := v
  obtain ⟨aN, cNn, eN, hN⟩ := h.hN
  rcases hN with h0 | ⟨gn, rfl, lgn, dn⟩
  · exfalso; rw [h0] at hcn; simp at hcn
  simp only at eN
  subst eN
  have oq := h.oN hcn
  rw [hz] at oq
  obtain ⟨gq, cq, hq, lgq⟩ : ∃ gq cq, nv.getD c nilS = .slice (some ⟨gq, 0, none⟩) (x :: r).length cq ∧ gq < w.heap.size := by
    have hlt := World.ownsRow.lt oq
    rcases oq.2 with ⟨_, hz'⟩ | ⟨g, cap, cur, e, _⟩
    · simp at hz'
    · exact ⟨g, cap, e, (hlt g (by rw [e]; rfl)).2⟩
  have capq : (x :: r).length ≤ cq := by
    rcases oq.2 with ⟨_, hz'⟩ | ⟨g, cap, cur, e, _, _, hcap, _⟩
    · simp at hz'
    · rw [hq] at e
      simp only [Value.slice.injEq, true_and] at e
      rw [e.2]; exact hcap
  rw [hq] at oq
  have HQ := Lib.hid hq
  have d3 := dn c hcn
  rw [hq] at d3
  have c3 : w.cell? ⟨D, 3, none⟩ = some (.slice (some ⟨gn, 0, none⟩) b.nts.length cNn) := h.cells.2.2.2.1
  obtain ⟨x0, x1, x2⟩ := x
  have q0 : w.cell? ⟨gq, 0, none⟩ = some (.int .i64 x0) := World.ownsRow.cellAt oq 0 (by simp)
  have q1 : w.cell? ⟨gq, 1, none⟩ = some (.int .i64 x1) := World.ownsRow.cellAt oq 1 (by simp; omega)
  have q2 : w.cell? ⟨gq, 2, none⟩ = some (.int .i64 x2) := World.ownsRow.cellAt oq 2 (by simp; omega)
  simp only at hx
  obtain ⟨p, rfl⟩ := Int.eq_ofNat_of_zero_le hx.1
  have hp3 : p < 3 := by omega
  have hbase := h.base
  have i1 : IntKind.i64.wrap (10 + (c : Int) - 10) = (c : Int) := by rw [IntKind.wrap_i64]; omega
  have i2 : (0 : Int) ≤ (c : Int) := Int.natCast_nonneg _
  have i3 : (c : Int) < (b.nts.length : Int) := by omega
  have i4 : (10 : Int) ≤ 10 + (c : Int) := by omega
  have i5 : ((r.length + 1 : Nat) : Int) = (r.length : Int) + 1 := by omega
  have RC := Lib.hid (nt_cells oq rfl)
  clear dn hq hz
  go_enter Tryz.func67, Tryz.ntmps67
  go_upto_region 3 with fail
  obtain ⟨wN, hwN⟩ : ∃ W : World, W = w.alloc (.cells #[.int .i64 (p : Int), .int .i64 x1, .int .i64 x2] 44) := ⟨_, rfl⟩
  have kN : Keep w wN := by rw [hwN]; exact (Keep.refl w).alloc _
  have lN : w.heap.size < wN.heap.size := by rw [hwN, heap_size]; omega
  have BX : Hid (∀ W : World, Keep wN W → W.cell? ⟨w.heap.size, 0, none⟩ = some (.int .i64 (p : Int)) ∧ W.cell? ⟨w.heap.size, 1, none⟩ = some (.int .i64 x1) ∧ W.cell? ⟨w.heap.size, 2, none⟩ = some (.int .i64 x2)) := Lib.hid (by
    rw [hwN]
    exact fun W k => ⟨box_cell k 0, box_cell k 1, box_cell k 2⟩)
  rw [← hwN]
  clear hwN
  have NB : ¬ blkB D ⟨vW, vP, vL, .slice (some ⟨gn, 0, none⟩) b.nts.length cNn, vX, vS, vF, vR⟩ nv rv w.heap.size := fun hB => by have := (h.blk _ hB).2.1; omega
  have H1 := (h.keep kN).drew
  have T1 := ((TurnB.refl w (blkB D ⟨vW, vP, vL, .slice (some ⟨gn, 0, none⟩) b.nts.length cNn, vX, vS, vF, vR⟩ nv rv)).keep kN).keep (Keep.refl wN).drew
  have kA : Keep w (wN.drew.alloc (.cells #[] 44)) := ((kN.drew).alloc _)
  have OE : (wN.drew.alloc (.cells #[] 44)).ownsRow m 44 3 (.slice (some ⟨wN.heap.size, 0, none⟩) 0 0) 0 [] := World.ownsRow_lit wN.drew #[] 0 (by have := H1.base; omega) (by decide) (by simp)
  have s3 : m ≤ (wN.drew.alloc (.cells #[] 44)).heap.size := by have := (H1.keep ((Keep.refl _).alloc (.cells #[] 44))).base; omega
  have NW : ∀ j u, (r.flatMap cN)[j]? = some u → (wN.drew.alloc (.cells #[] 44)).cell? ((⟨gq, 3, none⟩ : Addr).add j) = some u := fun j u hj => by
    have := RC.out j u hj
    have e : (⟨gq, 3, none⟩ : Addr).add j = ⟨gq, 3 + j, none⟩ := by simp [Addr.add]
    rw [e] at this ⊢
    exact (kA.cell lgq).trans this
  have c4 : wN.drew.cell? ⟨D, 3, none⟩ = some (.slice (some ⟨gn, 0, none⟩) b.nts.length cNn) := (kN.cell hbase.2).trans c3
  have c5 : (wN.drew.alloc (.cells #[] 44)).cell? ⟨D, 3, none⟩ = some (.slice (some ⟨gn, 0, none⟩) b.nts.length cNn) := (kA.cell hbase.2).trans c3
  have c4w : wN.cell? ⟨D, 3, none⟩ = some (.slice (some ⟨gn, 0, none⟩) b.nts.length cNn) := c4
  have c5w : (wN.alloc (.cells #[] 44)).cell? ⟨D, 3, none⟩ = some (.slice (some ⟨gn, 0, none⟩) b.nts.length cNn) := c5
  have zD : D < wN.heap.size := Nat.lt_of_lt_of_le hbase.2 kN.size
  have HNT : Hid (∀ (u : Value) (w5 : World), w5.ownsRow m 44 3 u (0 + r.length) ([] ++ r.flatMap cN) → World.grownBy (wN.drew.alloc (.cells #[] 44)) w5 (some wN.heap.size) → (u.ownBlock = some wN.heap.size ∨ u.ownBlock = some (wN.drew.alloc (.cells #[] 44)).heap.size) →
      (∃ a' c', u = .slice a' r.length c') ∧ w5.cell? ⟨D, 3, none⟩ = some (.slice (some ⟨gn, 0, none⟩) b.nts.length cNn) ∧ w5.cell? ⟨gn, c, none⟩ = some (.slice (some ⟨gq, 0, none⟩) (r.length + 1) cq) ∧ w5.frozen? ⟨gn, c, none⟩ = false ∧
      ∃ nv', OwnBd (w5.setCell ⟨gn, c, none⟩ u) m D ⟨vW, vP, vL, .slice (some ⟨gn, 0, none⟩) b.nts.length cNn, vX, vS, vF, vR⟩ nv' rv bs N dss { b with nts := b.nts.set c r } ∧ TurnB w (w5.setCell ⟨gn, c, none⟩ u) (blkB D ⟨vW, vP, vL, .slice (some ⟨gn, 0, none⟩) b.nts.length cNn, vX, vS, vF, vR⟩ nv rv) (blkB D ⟨vW, vP, vL, .slice (some ⟨gn, 0, none⟩) b.nts.length cNn, vX, vS, vF, vR⟩ nv' rv) ∧
        (w5.setCell ⟨gn, c, none⟩ u).cell? ⟨w.heap.size, 0, none⟩ = some (.int .i64 (p : Int)) ∧ (w5.setCell ⟨gn, c, none⟩ u).cell? ⟨w.heap.size, 1, none⟩ = some (.int .i64 x1) ∧ (w5.setCell ⟨gn, c, none⟩ u).cell? ⟨w.heap.size, 2, none⟩ = some (.int .i64 x2)) := Lib.hid (fun u w5 hown hgrow hblk => by
    rw [Nat.zero_add, List.nil_append] at hown
    have kw : Keep wN.drew w5 := ((Keep.refl wN.drew).alloc (.cells #[] 44)).grown hgrow (fun k hk => by have := Option.some.inj hk; show wN.heap.size ≤ k; omega)
    have hnew : ∀ k, u.ownBlock = some k → wN.drew.heap.size ≤ k := fun k hk => by
      rcases hblk with e | e
      · rw [e] at hk; have := Option.some.inj hk; show wN.heap.size ≤ k; omega
      · rw [e, heap_size] at hk; have := Option.some.inj hk; omega
    obtain ⟨HO, hcell, hfr⟩ := H1.headNew hcn (u := u) (ns := r) kw hnew hown rfl
    rw [HQ.out] at hcell
    obtain ⟨a', c', e', -⟩ := AppT.shape (show AppT cN 44 3 w5 m u r from hown) |>.elim (fun a h => h.elim (fun c e => (⟨a, c, e, trivial⟩ : ∃ a c, u = .slice a r.length c ∧ True)))
    have hb5 := H1.base.2
    have ngB : gn ≠ w.heap.size := fun e => NB ⟨.nts, trivial, by show some gn = _; rw [e]⟩
    have bx := BX.out w5 (((Keep.refl wN).drew).trans kw)
    have far : ∀ j, (w5.setCell ⟨gn, c, none⟩ u).cell? ⟨w.heap.size, j, none⟩ = w5.cell? ⟨w.heap.size, j, none⟩ := fun j => World.cell?_of_block (heap_setCell_other w5 ⟨gn, c, none⟩ w.heap.size _ (fun e => ngB e.symm))
    refine ⟨⟨a', c', e'⟩, (kw.cell hb5).trans c4, hcell, hfr, nv.set c u, HO, ?_, (far 0).trans bx.1, (far 1).trans bx.2.1, (far 2).trans bx.2.2⟩
    refine ((T1.keep kw).grown (grown_set _ gn c _) (fun g hg => ⟨.nts, trivial, hg⟩)).more (fun g hg => ?_)
    rcases blk_setN hcv hg with h1 | h1
    · exact .inl h1
    · have := hnew g h1
      have : wN.heap.size ≤ g := this
      right; omega)
  have m1 : 0 + r.length ≤ maxLen := by unfold maxLen; omega
  have m2 : (0 + r.length) * 24 ≤ 140737488355328 := by omega
  have j1 : (1 : Int) ≤ (r.length : Int) + 1 := by omega
  have j2 : (1 : Int) ≤ (cq : Int) := by simp at capq; omega
  have capq' : r.length + 1 ≤ cq := by simpa using capq
  have ONE := nts_one r
  have NL := nts_len r
  clear H1 T1 kA RC oq q0 q1 q2 c3 d3 h kN
  by_cases hq1 : cq = 1
  · have hr0 : r.flatMap cN = [] := by
      have : r.length = 0 := by omega
      rw [List.eq_nil_of_length_eq_zero this]; rfl
    replace NW : ∀ j u, (r.flatMap cN)[j]? = some u → (wN.drew.alloc (.cells #[] 44)).cell? ((⟨gq, 0, none⟩ : Addr).add j) = some u := fun j u hj => by rw [hr0] at hj; simp at hj
    clear hr0 j2
    go_wp2_with fail
    go_region_law ((refine step_append_at rfl (.tmp 29) (.tmp 31) 42 rfl m 44 i0 (.agg #[.int .i64 0, .int .i64 0, .int .i64 0]) 3 24 Tryz.underlying42 hi hz0 hz1 hz2 rfl (by decide) (.slice (some ⟨wN.heap.size, 0, none⟩) 0 0) 0 [] rfl OE ⟨gq, 0, none⟩ r.length 0 (r.flatMap cN) rfl NL NW ONE m1 m2 s3 ?_
                    intro u w5 hown5 hgrow hblk
                    obtain ⟨⟨a', c', rfl⟩, hc3, hcell, hfr, HO⟩ := HNT.out u w5 hown5 hgrow hblk
                    have HO := Lib.hid HO
                    clear hown5 hgrow hblk))
    all_goals
      clear HNT
      obtain ⟨nv', H6, T6, b0, b1, b2⟩ := HO.out
      clear HO hcell hfr hc3 c4 c5 c4w c5w
      go_wp2_with fail
      refine (l15Ink_any _ m D _ nv' rv bs N dss _ p x1 x2 H6 (by rw [SL.plc]; exact hp3) (by rw [SL.lst]; exact hp3) (by rw [SL.rws]; exact hp3) (by have := SL.rl p; omega)).mono ?_
      rintro e w7 ⟨rfl, rv', H7, T7⟩
      go_wp2
      (try simp only [Exit.inBlock, Exit.then])
      refine bodyPost_ret (results_none rfl _ _ _) rfl ?_
      exact ⟨rfl, nv', rv', by rw [HM.out]; exact H7, T6.trans T7⟩
  · go_wp2_with fail
    go_region_law ((refine step_append_at rfl (.tmp 29) (.tmp 31) 42 rfl m 44 i0 (.agg #[.int .i64 0, .int .i64 0, .int .i64 0]) 3 24 Tryz.underlying42 hi hz0 hz1 hz2 rfl (by decide) (.slice (some ⟨wN.heap.size, 0, none⟩) 0 0) 0 [] rfl OE ⟨gq, 3, none⟩ r.length (cq - 1) (r.flatMap cN) rfl NL NW ONE m1 m2 s3 ?_
                    intro u w5 hown5 hgrow hblk
                    obtain ⟨⟨a', c', rfl⟩, hc3, hcell, hfr, HO⟩ := HNT.out u w5 hown5 hgrow hblk
                    have HO := Lib.hid HO
                    clear hown5 hgrow hblk))
    all_goals
      clear HNT
      obtain ⟨nv', H6, T6, b0, b1, b2⟩ := HO.out
      clear HO hcell hfr hc3 c4 c5 c4w c5w
      go_wp2_with fail
      refine (l15Ink_any _ m D _ nv' rv bs N dss _ p x1 x2 H6 (by rw [SL.plc]; exact hp3) (by rw [SL.lst]; exact hp3) (by rw [SL.rws]; exact hp3) (by have := SL.rl p; omega)).mono ?_
      rintro e w7 ⟨rfl, rv', H7, T7⟩
      go_wp2
      (try simp only [Exit.inBlock, Exit.then])
      refine bodyPost_ret (results_none rfl _ _ _) rfl ?_
      exact ⟨rfl, nv', rv', by rw [HM.out]; exact H7, T6.trans T7⟩
def nxD (dss : List (List Dd)) (b : Bd) (c : Nat) : Dd := if nxN b c < (dss.getD c []).length then dAt dss c (nxN b c) else zD
def nxI (dss : List (List Dd)) (b : Bd) (c : Nat) : Bool := decide (nxN b c < (dss.getD c []).length)
structure NxOk (dss : List (List Dd)) (b : Bd) (c : Nat) : Prop where
  ck : c < dss.length
  l : b.nxt.length = dss.length
  n0 : 0 ≤ b.nxt.getD c 0
  n1 : b.nxt.getD c 0 ≤ ((dss.getD c []).length : Int)
  top : (dss.getD c []).length ≤ 1048576
theorem l15Next_any (w : World) (v : BV) (dss : List (List Dd)) (b : Bd) (c : Nat) (h : RdBd w v dss b) (hc : NxOk dss b c) :
    Calls Tryz.prog 94 #[v.agg, .int .i64 c] w fun e w' => e = .returned (.tuple #[dV (nxD dss b c), .bool (nxI dss b c)]) ∧ Keep w w' := by
  obtain ⟨aW, aP, aL, aN, aX, aS, aF, aR, cW, cP, cL, cN, cX, cS, cF, cR, rfl⟩ := h.shapes
  obtain ⟨hcl, hl, hn0, hn1, htop⟩ := hc
  have hcx : c < b.nxt.length := by omega
  have KW : Keep w ((w.alloc (.cells #[.slice aW dss.length cW, .slice aP b.plc.length cP, .slice aL b.lst.length cL, .slice aN b.nts.length cN, .slice aX b.nxt.length cX, .slice aS b.sn.length cS, .slice aF b.fr.length cF, .slice aR b.rws.length cR] 30)).alloc (.cells #[.int .i64 0, .int .i64 0, .int .i64 0, .int .i64 0] 51)) := ((Keep.refl w).alloc _).alloc _
  have h' := h.keep KW
  obtain ⟨a', c', he', hX⟩ := h'.X
  simp only [Value.slice.injEq, true_and] at he'
  obtain ⟨rfl, rfl⟩ := he'
  rcases hX with h0 | ⟨bx, ox, rfl, hbx, hcx'⟩
  · exfalso; rw [h0] at hcx; simp at hcx
  obtain ⟨a', c', he', hW⟩ := h'.W
  simp only [Value.slice.injEq, true_and] at he'
  obtain ⟨rfl, rfl⟩ := he'
  rcases hW with h0 | ⟨bw, ow, rfl, hbw, hcw⟩
  · exfalso; rw [h0] at hcl; simp at hcl
  obtain ⟨vd, d3, r3⟩ := hcw c hcl
  obtain ⟨k, hk⟩ := Int.eq_ofNat_of_zero_le hn0
  have d1 := hcx' c hcx
  rw [hk] at d1 hn1
  have hkN : nxN b c = k := by unfold nxN; rw [hk, Int.toNat_natCast]
  have HB : Hid (nxI dss b c = decide (k < (dss.getD c []).length)) := Lib.hid (by rw [nxI, hkN])
  have HD : Hid (nxD dss b c = if k < (dss.getD c []).length then dAt dss c k else zD) := Lib.hid (by rw [nxD, hkN])
  generalize nxD dss b c = ND at HD ⊢
  generalize nxI dss b c = NI at HB ⊢
  obtain ⟨ad, cd, rfl, r3⟩ := r3
  unfold dAt at HD
  generalize dss.getD c [] = ds at *
  have j1 : (0 : Int) ≤ (c : Int) := Int.natCast_nonneg _
  have j2 : (c : Int) < (b.nxt.length : Int) := by omega
  have j3 : (c : Int) < (dss.length : Int) := by omega
  have k1 : (0 : Int) ≤ (k : Int) := Int.natCast_nonneg _
  clear hcw hcx' h h' hkN hl
  by_cases hlt : k < ds.length
  · have HB : Hid (NI = true) := Lib.hid (by rw [HB.out, decide_eq_true hlt])
    have HD : Hid (ND = ds.getD k zD) := Lib.hid (by rw [HD.out, if_pos hlt])
    rcases r3 with h0 | ⟨bd, od, rfl, hbd, hcd⟩
    · exfalso; rw [h0] at hlt; simp at hlt
    obtain ⟨q0, q1, q2, q3⟩ := hcd k hlt
    generalize ds.getD k zD = y at q0 q1 q2 q3 HD
    obtain ⟨y0, y1, y2, y3⟩ := y
    simp only at q0 q1 q2 q3
    have k2 : (k : Int) < (ds.length : Int) := by omega
    have k3 : ((k : Int) == (ds.length : Int)) = false := by simp; omega
    clear hcd hn1
    go_enter Tryz.func94, Tryz.ntmps94
    go_wp2
    refine bodyPost_ret (results_row_tmp (by rfl) _ _ (w.heap.size + 1) 51 #[.int .i64 y0, .int .i64 y1, .int .i64 y2, .int .i64 y3] (0, 0) _ (.bool true) rfl (by rw [heap_at, if_pos (by rw [heap_size])]) rfl Tryz.underlying51 rfl (by kernel_rfl)) rfl ?_
    exact ⟨by rw [HD.out, HB.out], ((Keep.refl w).alloc _).alloc _⟩
  · have HB2 : Hid (NI = false) := Lib.hid (by rw [HB.out, decide_eq_false hlt])
    have HD2 : Hid (ND = zD) := Lib.hid (by rw [HD.out, if_neg hlt])
    obtain rfl : k = ds.length := by omega
    have k3 : ((ds.length : Int) == (ds.length : Int)) = true := by simp
    clear hn1 HB HD
    go_enter Tryz.func94, Tryz.ntmps94
    go_wp2
    refine bodyPost_ret (results_row_tmp (by rfl) _ _ (w.heap.size + 1) 51 #[.int .i64 0, .int .i64 0, .int .i64 0, .int .i64 0] (0, 0) _ (.bool false) rfl (by rw [heap_at, if_pos (by rw [heap_size])]) rfl Tryz.underlying51 rfl (by kernel_rfl)) rfl ?_
    exact ⟨by rw [HD2.out, HB2.out]; rfl, ((Keep.refl w).alloc _).alloc _⟩
theorem go_stop {dss : List (List Dd)} {es : List Ev} {g : Int} {c k : Nat} {b : Bd} (h : g = 0 ∨ nxN (oneM dss es b c) c = (dss.getD c []).length ∨ gAt dss c (nxN (oneM dss es b c) c) ≠ g) : goM dss es g c (k + 1) b = oneM dss es b c := by rw [goM, if_pos h]
theorem go_more {dss : List (List Dd)} {es : List Ev} {g : Int} {c k : Nat} {b : Bd} (h : ¬ (g = 0 ∨ nxN (oneM dss es b c) c = (dss.getD c []).length ∨ gAt dss c (nxN (oneM dss es b c) c) ≠ g)) : goM dss es g c (k + 1) b = goM dss es g c k (oneM dss es b c) := by rw [goM, if_neg h]
theorem one_nxt {dss : List (List Dd)} {es : List Ev} {c k : Nat} {b : Bd} (hc : c < b.nxt.length) (h : b.nxt.getD c 0 = (k : Int)) : (oneM dss es b c).nxt.getD c 0 = ((k + 1 : Nat) : Int) ∧ nxN (oneM dss es b c) c = k + 1 := by
  have e : (oneM dss es b c).nxt.getD c 0 = ((k + 1 : Nat) : Int) := by
    show (b.nxt.set c (b.nxt.getD c 0 + 1)).getD c 0 = _
    rw [getD_setV _ _ _ _ hc, if_pos rfl, h]
    omega
  exact ⟨e, by unfold nxN; rw [e, Int.toNat_natCast]⟩
structure GoI (dss : List (List Dd)) (es : List Ev) (g : Int) (c M n k0 : Nat) (b : Bd) (q : Nat) (b' : Bd) : Prop where
  shp : Shp dss b' (n + q)
  nx : b'.nxt.getD c 0 = ((k0 + q : Nat) : Int)
  lt : k0 + q < M
  go : goM dss es g c M b = goM dss es g c (M - q) b'
theorem l15Step_go (w : World) (m D : Nat) (v : BV) (nv rv : List Value) (bs N : Nat) (dss : List (List Dd)) (b : Bd) (n c : Nat) (h : OwnBd w m D v nv rv bs N dss b) (S : Shp dss b n) (hn : n ≤ 500) (hc : c < dss.length) (hx0 : 0 ≤ b.nxt.getD c 0) (hxl : nxN b c < (dss.getD c []).length) :
    Calls Tryz.prog 67 #[.pointer (some ⟨D, 0, none⟩), .int .i64 (c : Int)] w fun e w' => e = .returned (.tuple #[]) ∧ ∃ nv' rv', OwnBd w' m D v nv' rv' bs N dss (goM dss (eventsB dss) (gAt dss c (nxN b c)) c (dss.getD c []).length b) ∧ TurnB w w' (blkB D v nv rv) (blkB D v nv' rv') := by
  have hd3 : dss.length ≤ 3 := (workB_useR S.work).1
  have hl5 : (dss.getD c []).length ≤ 5 := by
    have := (workB_useR S.work).2 c hc
    simp only [okL, Bool.and_eq_true, decide_eq_true_eq] at this
    exact this.2
  have hcx : c < b.nxt.length := by rw [S.nxt]; exact hc
  obtain ⟨vW, vP, vL, vN, vX, vS, vF, vR⟩ := v
  obtain ⟨gx, cx, eX, -, -, -⟩ := h.oX.lit hcx
  simp only at eX
  subst eX
  have mX := h.ge .nxt trivial gx rfl
  have hbase := h.base
  obtain ⟨k0, hk0⟩ := Int.eq_ofNat_of_zero_le hx0
  have hN0 : nxN b c = k0 := by unfold nxN; rw [hk0, Int.toNat_natCast]
  rw [hN0] at hxl ⊢
  have CN := l15Next_any w _ dss b c h.rd ⟨hc, S.nxt, hx0, by rw [hk0]; omega, by omega⟩
  have eD : nxD dss b c = dAt dss c k0 := by unfold nxD; rw [hN0, if_pos hxl]
  have eI : nxI dss b c = true := by unfold nxI; rw [hN0, decide_eq_true hxl]
  rw [eD, eI] at CN
  obtain ⟨y0, y1, y2, y3, hy⟩ : ∃ y0 y1 y2 y3 : Int, dAt dss c k0 = (y0, y1, y2, y3) := ⟨_, _, _, _, rfl⟩
  have hg : gAt dss c k0 = y3 := by show (dAt dss c k0).2.2.2 = y3; rw [hy]
  rw [hy] at CN
  rw [hg]
  have len' : ∃ M, M = (dss.getD c []).length := ⟨_, rfl⟩
  obtain ⟨M, hM⟩ := len'
  rw [← hM] at hxl hl5 ⊢
  have HM := Lib.hid hM
  clear hM hg hy eD eI hN0
  obtain ⟨e0, e1, e2, e3, e4, e5, e6, e7⟩ := h.cells
  simp only at e0 e1 e2 e3 e4 e5 e6 e7
  have i1 : (0 : Int) ≤ (c : Int) := Int.natCast_nonneg _
  have i2 : (c : Int) < (b.nxt.length : Int) := by omega
  have i3 : ¬ ((10 : Int) ≤ (c : Int)) := by omega
  go_enter Tryz.func67, Tryz.ntmps67
  go_wp2_with fail
  refine CN.mono ?_
  rintro e w1 ⟨rfl, k1⟩
  clear e0 e1 e2 e3 e4 e5 e6 e7 CN
  go_upto_region 6 with fail
  obtain ⟨w2, hw2⟩ : ∃ W : World, W = w1.alloc (.cells #[.int .i64 y0, .int .i64 y1, .int .i64 y2, .int .i64 y3] 51) := ⟨_, rfl⟩
  have kD : Keep w1 w2 := by rw [hw2]; exact (Keep.refl w1).alloc _
  have lD : w1.heap.size < w2.heap.size := by rw [hw2, heap_size]; omega
  have BX : Hid (w2.cell? ⟨w1.heap.size, 3, none⟩ = some (.int .i64 y3)) := Lib.hid (by rw [hw2]; exact box_cell (Keep.refl _) 3)
  rw [← hw2]
  clear hw2
  have NB : ¬ blkB D ⟨vW, vP, vL, vN, .slice (some ⟨gx, 0, none⟩) b.nxt.length cx, vS, vF, vR⟩ nv rv w1.heap.size := fun hB => by have := (h.blk _ hB).2.1; have := k1.size; omega
  have H2 := (h.keep k1).keep kD
  have T2 := ((TurnB.refl w (blkB D ⟨vW, vP, vL, vN, .slice (some ⟨gx, 0, none⟩) b.nxt.length cx, vS, vF, vR⟩ nv rv)).keep k1).keep kD
  have I2 : GoI dss (eventsB dss) y3 c M n k0 b 0 b := ⟨S, by rw [hk0]; rfl, hxl, rfl⟩
  have SL : Hid (∀ b' q, GoI dss (eventsB dss) y3 c M n k0 b q b' → b'.nxt.length = b.nxt.length) := Lib.hid (fun b' q I => by rw [I.shp.nxt, S.nxt])
  generalize w1.heap.size = BD at *
  clear h S hx0 hk0 k1 kD
  go_loopw [9] (fun _ wr => ∃ (q : Nat) (b' : Bd) (nv' rv' : List Value), OwnBd wr m D ⟨vW, vP, vL, vN, .slice (some ⟨gx, 0, none⟩) b.nxt.length cx, vS, vF, vR⟩ nv' rv' bs N dss b' ∧ GoI dss (eventsB dss) y3 c M n k0 b q b' ∧ TurnB w2 wr (blkB D ⟨vW, vP, vL, vN, .slice (some ⟨gx, 0, none⟩) b.nxt.length cx, vS, vF, vR⟩ nv rv) (blkB D ⟨vW, vP, vL, vN, .slice (some ⟨gx, 0, none⟩) b.nxt.length cx, vS, vF, vR⟩ nv' rv')) (fun _ wr => M - (intOf ((wr.cell? ⟨gx, c, none⟩).getD undef)).toNat)
  case atStart => exact ⟨0, b, nv, rv, H2, I2, TurnB.refl _ _⟩
  case round =>
    obtain ⟨q, b', nv', rv', H, I, T⟩ := hrel
    clear I2
    have hlq := I.lt
    have hbl := SL.out b' q I
    have hcx' : c < b'.nxt.length := by rw [hbl]; exact hcx
    obtain ⟨gx', cx', eX', -, dX, -⟩ := H.oX.lit hcx'
    simp only [Value.slice.injEq, Option.some.injEq, Addr.mk.injEq, and_true] at eX'
    obtain ⟨rfl, -, rfl⟩ := eX'
    have d0 := dX c hcx'
    rw [I.nx] at d0
    obtain ⟨kq, hkq⟩ : ∃ kq, kq = k0 + q := ⟨_, rfl⟩
    rw [← hkq] at d0 hlq
    have HKQ := Lib.hid hkq
    have inx : b'.nxt.getD c 0 = (kq : Int) := by rw [I.nx, hkq]
    have CD := l15Deed_any wr m D _ nv' rv' bs N dss b' (n + q) c kq H I.shp (by omega) hc (by rw [← HM.out]; exact hlq)
    have c4 : wr.cell? ⟨D, 4, none⟩ = some (.slice (some ⟨gx, 0, none⟩) b.nxt.length cx) := H.cells.2.2.2.2.1
    have M0 : Hid (M - (intOf ((wr.cell? ⟨gx, c, none⟩).getD undef)).toNat = M - kq) := Lib.hid (by rw [d0]; simp [intOf])
    clear hkq dX
    go_wp2_with fail
    refine CD.mono ?_
    rintro e w3 ⟨rfl, nv3, rv3, H3, T3⟩
    clear CD c4 d0
    have hdn : (deedM dss (eventsB dss) b' c kq).nxt = b'.nxt := deed_nxt _ _ _ _ _
    have hc3 : c < (deedM dss (eventsB dss) b' c kq).nxt.length := by rw [hdn]; exact hcx'
    obtain ⟨gx', cx', eX', lX, dX, fX⟩ := H3.oX.lit hc3
    simp only [Value.slice.injEq, Option.some.injEq, Addr.mk.injEq, and_true] at eX'
    obtain ⟨rfl, -, rfl⟩ := eX'
    have d3 := dX c hc3
    rw [hdn, inx] at d3
    have f3 := fX c
    have c3 : w3.cell? ⟨D, 4, none⟩ = some (.slice (some ⟨gx, 0, none⟩) b.nxt.length cx) := H3.cells.2.2.2.2.1
    have jw : IntKind.i64.wrap ((kq : Int) + 1) = (kq : Int) + 1 := by rw [IntKind.wrap_i64]; omega
    have hON : Hid (oneM dss (eventsB dss) b' c = { deedM dss (eventsB dss) b' c kq with nxt := (deedM dss (eventsB dss) b' c kq).nxt.set c ((kq : Int) + 1) }) := Lib.hid (by
      have e : nxN b' c = kq := by unfold nxN; rw [inx, Int.toNat_natCast]
      rw [oneM, e, inx, hdn])
    have H4 := H3.drew.putX (k := c) (x := (kq : Int) + 1) (by show Value.slice _ _ _ = .slice _ _ _; rw [hdn, hbl])
    rw [← hON.out] at H4
    have T4 := (T3.keep (Keep.refl w3).drew).grown (grown_set w3.drew gx c (.int .i64 ((kq : Int) + 1))) (fun g hg => ⟨.nxt, trivial, hg⟩)
    obtain ⟨on1, on2⟩ := one_nxt (dss := dss) (es := eventsB dss) hcx' inx
    have S4 := I.shp.one c
    have CN := l15Next_any _ _ dss _ c H4.rd ⟨hc, S4.nxt, by rw [on1]; omega, by rw [on1, ← HM.out]; omega, by rw [← HM.out]; omega⟩
    have eI : nxI dss (oneM dss (eventsB dss) b' c) c = decide (kq + 1 < M) := by unfold nxI; rw [on2, HM.out]
    have eD : kq + 1 < M → nxD dss (oneM dss (eventsB dss) b' c) c = dAt dss c (kq + 1) := fun hh => by unfold nxD; rw [on2, if_pos (by rw [← HM.out]; exact hh)]
    rw [eI] at CN
    have HST : Hid (∀ k, (y3 = 0 ∨ kq + 1 = M ∨ gAt dss c (kq + 1) ≠ y3) → goM dss (eventsB dss) y3 c (k + 1) b' = oneM dss (eventsB dss) b' c) := Lib.hid (fun k hh => go_stop (by rw [on2, ← HM.out]; exact hh))
    have HMO : Hid (∀ k, ¬ (y3 = 0 ∨ kq + 1 = M ∨ gAt dss c (kq + 1) ≠ y3) → goM dss (eventsB dss) y3 c (k + 1) b' = goM dss (eventsB dss) y3 c k (oneM dss (eventsB dss) b' c)) := Lib.hid (fun k hh => go_more (by rw [on2, ← HM.out]; exact hh))
    have HGO : Hid (goM dss (eventsB dss) y3 c M b = goM dss (eventsB dss) y3 c (M - q - 1 + 1) b') := Lib.hid (by rw [I.go]; congr 1; have := HKQ.out; omega)
    have NI : Hid (∀ (hh : kq + 1 < M), (goM dss (eventsB dss) y3 c (M - q - 1 + 1) b' = goM dss (eventsB dss) y3 c (M - q - 1) (oneM dss (eventsB dss) b' c)) → GoI dss (eventsB dss) y3 c M n k0 b (q + 1) (oneM dss (eventsB dss) b' c)) := Lib.hid (fun hh e => ⟨S4, by rw [on1, HKQ.out]; congr 1, by have := HKQ.out; omega, by rw [HGO.out, e]; congr 1⟩)
    have DX : Hid (∀ hh : kq + 1 < M, (nxD dss (oneM dss (eventsB dss) b' c) c).2.2.2 = gAt dss c (kq + 1)) := Lib.hid (fun hh => by rw [eD hh])
    have n4 : Hid ((w3.drew.setCell ⟨gx, c, none⟩ (.int .i64 ((kq : Int) + 1))).cell? ⟨gx, c, none⟩ = some (.int .i64 ((kq : Int) + 1))) := Lib.hid (by
      obtain ⟨g', c', e', -, dd, -⟩ := H4.oX.lit (k := c) (by show c < (b'.nxt.set c _).length; simpa using hcx')
      simp only [Value.slice.injEq, Option.some.injEq, Addr.mk.injEq, and_true] at e'
      obtain ⟨rfl, -, rfl⟩ := e'
      have := dd c (by show c < (b'.nxt.set c _).length; simpa using hcx')
      rw [this, on1]; rfl)
    generalize oneM dss (eventsB dss) b' c = b2 at *
    generalize nxD dss b2 c = Y at *
    clear eD eI dX fX H H3 S4 hON on1 on2 inx
    go_upto_region 8 with (first | go_region | fail)
    obtain ⟨w4, hw4⟩ : ∃ W : World, W = (w3.setCell ⟨gx, c, none⟩ (.int .i64 ((kq : Int) + 1))).drew := ⟨_, rfl⟩
    have e4 : w3.drew.setCell ⟨gx, c, none⟩ (.int .i64 ((kq : Int) + 1)) = w4 := by rw [hw4]; rfl
    rw [e4] at H4 T4 CN n4
    rw [← hw4]
    clear hw4 e4 d3 f3 c3
    have NB' : ¬ blkB D ⟨vW, vP, vL, vN, .slice (some ⟨gx, 0, none⟩) b.nxt.length cx, vS, vF, vR⟩ nv' rv' BD := fun hB => by
      rcases T.news BD hB with h1 | h1
      · exact NB h1
      · omega
    have g4 : w4.cell? ⟨BD, 3, none⟩ = some (.int .i64 y3) := (T4.cell (Nat.lt_of_lt_of_le lD T.size) NB').trans ((T.cell lD NB).trans BX.out)
    have lB4 : BD < w4.heap.size := Nat.lt_of_lt_of_le lD (Nat.le_trans T.size T4.size)
    obtain ⟨e0, e1, e2, e3, e4, e5, e6, e7⟩ := H4.cells
    simp only at e0 e1 e2 e3 e4 e5 e6 e7
    obtain ⟨z0, z1, z2, z3⟩ := Y
    simp only at DX
    go_wp2_with fail
    refine CN.mono ?_
    rintro e w5 ⟨rfl, k5⟩
    have H6 := (H4.keep k5).keep ((Keep.refl w5).alloc (.cells #[.int .i64 z0, .int .i64 z1, .int .i64 z2, .int .i64 z3] 51))
    have k6 := k5.trans ((Keep.refl w5).alloc (.cells #[.int .i64 z0, .int .i64 z1, .int .i64 z2, .int .i64 z3] 51))
    have TF := (T2.trans T).trans (T4.keep k6)
    have TL := T.trans (T4.keep k6)
    have g5 := (k5.cell lB4).trans g4
    have lB5 : BD < w5.heap.size := Nat.lt_of_lt_of_le lB4 k5.size
    have g6 : (w5.alloc (.cells #[.int .i64 z0, .int .i64 z1, .int .i64 z2, .int .i64 z3] 51)).cell? ⟨BD, 3, none⟩ = some (.int .i64 y3) := (((Keep.refl w5).alloc _).cell lB5).trans g5
    have lx4 : gx < w4.heap.size := block_lt_of_cell n4.out
    have n6 := Lib.hid ((k6.cell (b := gx) (o := c) lx4).trans n4.out)
    clear e0 e1 e2 e3 e4 e5 e6 e7 CN H4 n4 g4 g5
    by_cases hy0 : y3 = 0
    · have HSTOP : y3 = 0 ∨ kq + 1 = M ∨ gAt dss c (kq + 1) ≠ y3 := .inl hy0
      have b0 : (y3 == 0) = true := by simp [hy0]
      clear hy0
      go_wp2
      (try simp only [Exit.inBlock, Exit.then])
      refine bodyPost_ret (results_none rfl _ _ _) rfl ?_
      exact ⟨rfl, nv3, rv3, by rw [HGO.out, HST.out _ HSTOP]; exact H6, TF⟩
    · have b0 : (y3 == 0) = false := by simp [hy0]
      by_cases hend : kq + 1 < M
      · have bI : decide (kq + 1 < M) = true := decide_eq_true hend
        rw [bI]
        have hz := DX.out hend
        by_cases hgy : z3 = y3
        · have HNS : ¬ (y3 = 0 ∨ kq + 1 = M ∨ gAt dss c (kq + 1) ≠ y3) := by
            rintro (h1 | h1 | h1)
            · exact hy0 h1
            · omega
            · exact h1 (by rw [← hz]; exact hgy)
          have I' := NI.out hend (HMO.out _ HNS)
          have bz : (z3 != y3) = false := by simp [hgy]
          have ZZ : z3 = y3 := hgy
          clear hy0 hz bI hgy ZZ HNS
          go_wp2
          go_roundw
          case rel => exact ⟨q + 1, _, nv3, rv3, H6, I', TL⟩
          case measure =>
            rw [M0.out, n6.out]
            simp only [Option.getD_some, intOf]
            omega
        · have HSTOP : y3 = 0 ∨ kq + 1 = M ∨ gAt dss c (kq + 1) ≠ y3 := .inr (.inr (by rw [← hz]; exact hgy))
          have bz : (z3 != y3) = true := by simpa using hgy
          clear hy0 hz bI hgy
          go_wp2
          (try simp only [Exit.inBlock, Exit.then])
          refine bodyPost_ret (results_none rfl _ _ _) rfl ?_
          exact ⟨rfl, nv3, rv3, by rw [HGO.out, HST.out _ HSTOP]; exact H6, TF⟩
      · have HSTOP : y3 = 0 ∨ kq + 1 = M ∨ gAt dss c (kq + 1) ≠ y3 := .inr (.inl (by omega))
        have bI : decide (kq + 1 < M) = false := decide_eq_false hend
        rw [bI]
        clear hy0 bI
        go_wp2
        (try simp only [Exit.inBlock, Exit.then])
        refine bodyPost_ret (results_none rfl _ _ _) rfl ?_
        exact ⟨rfl, nv3, rv3, by rw [HGO.out, HST.out _ HSTOP]; exact H6, TF⟩
theorem board_note {dss : List (List Dd)} {b : Bd} (h : boardB dss b = true) {c : Nat} (hc : c < dss.length) {x : Nt} (hx : x ∈ b.nts.getD c []) : 0 ≤ x.1 ∧ x.1 ≤ 2 := by
  simp only [boardB, Bool.and_eq_true] at h
  have := List.all_eq_true.1 h.2.2.2 c (List.mem_range.2 hc)
  simp only [ckB, Bool.and_eq_true, ntsB, List.all_eq_true] at this
  have := this.2.2 x hx
  simp only [ntB, Bool.and_eq_true, decide_eq_true_eq] at this
  exact this.1
theorem l15Step_any (w : World) (m D : Nat) (v : BV) (nv rv : List Value) (bs N : Nat) (dss : List (List Dd)) (b : Bd) (s : Int) (h : OwnBd w m D v nv rv bs N dss b) (hb : boardB dss b = true) (hs : isB (possM dss b) s = true) :
    Calls Tryz.prog 67 #[.pointer (some ⟨D, 0, none⟩), .int .i64 s] w fun e w' => e = .returned (.tuple #[]) ∧ ∃ nv' rv', OwnBd w' m D v nv' rv' bs N dss (stepM dss (eventsB dss) b s) ∧ TurnB w w' (blkB D v nv rv) (blkB D v nv' rv') := by
  have S := Shp.of hb
  have hd3 : dss.length ≤ 3 := (workB_useR S.work).1
  have hm := isB_mem hs
  unfold possM at hm
  rw [List.mem_append, List.mem_map, List.mem_map] at hm
  rcases hm with ⟨c, hc, rfl⟩ | ⟨c, hc, rfl⟩
  · rw [List.mem_filter, List.mem_range] at hc
    have hcan := hc.2
    unfold canM at hcan
    simp only [Bool.and_eq_true, decide_eq_true_eq] at hcan
    have e : stepM dss (eventsB dss) b (c : Int) = goM dss (eventsB dss) (gAt dss c (nxN b c)) c (dss.getD c []).length b := by
      unfold stepM
      rw [if_neg (by omega), Int.toNat_natCast]
    rw [e]
    exact l15Step_go w m D v nv rv bs N dss b 20 c h S (by omega) hc.1 (board_clerk hb hc.1).1 hcan.1
  · rw [List.mem_filter, List.mem_range] at hc
    have e : stepM dss (eventsB dss) b (10 + (c : Int)) = flushM b c := by
      unfold stepM
      rw [if_pos (by omega), show (10 + (c : Int) - 10).toNat = c by omega]
    rw [e]
    cases hz : b.nts.getD c [] with
    | nil => rw [hz] at hc; simp at hc
    | cons x r =>
      exact l15Step_flush w m D v nv rv bs N dss b 20 c x r h S (by omega) hc.1 hz (board_note hb hc.1 (by rw [hz]; simp))
structure PsOk (dss : List (List Dd)) (b : Bd) : Prop where
  n : b.nts.length = dss.length
  x : b.nxt.length = dss.length
  m : dss.length ≤ 1048576
  each : ∀ c, c < dss.length → 0 ≤ b.nxt.getD c 0 ∧ b.nxt.getD c 0 ≤ ((dss.getD c []).length : Int) ∧ (dss.getD c []).length ≤ 1048576 ∧ (b.nts.getD c []).length ≤ 1048576
theorem PsOk.nx {dss : List (List Dd)} {b : Bd} (h : PsOk dss b) {c : Nat} (hc : c < dss.length) : NxOk dss b c :=
  ⟨hc, h.x, (h.each c hc).1, (h.each c hc).2.1, (h.each c hc).2.2.1⟩
theorem can_next (dss : List (List Dd)) (b : Bd) (c : Nat) : canM dss b c = (nxI dss b c && ((decide ((nxD dss b c).1 ≤ 2) && decide ((nxD dss b c).2.2.2 = 0)) || (b.nts.getD c []).isEmpty)) := by
  unfold canM nxI nxD gAt
  by_cases h : nxN b c < (dss.getD c []).length
  · rw [if_pos h, decide_eq_true h]
  · rw [decide_eq_false h]; rfl
theorem l15Can_any (w : World) (v : BV) (dss : List (List Dd)) (b : Bd) (c : Nat) (h : RdBd w v dss b) (hp : PsOk dss b) (hc : c < dss.length) :
    Calls Tryz.prog 92 #[v.agg, .int .i64 c] w fun e w' => e = .returned (.bool (canM dss b c)) ∧ Keep w w' := by
  have C := fun (W : World) (kW : Keep w W) => l15Next_any W v dss b c (h.keep kW) (hp.nx hc)
  have HC : Hid (canM dss b c = (nxI dss b c && ((decide ((nxD dss b c).1 ≤ 2) && decide ((nxD dss b c).2.2.2 = 0)) || (b.nts.getD c []).isEmpty))) := Lib.hid (can_next dss b c)
  have hcn : c < b.nts.length := by rw [hp.n]; exact hc
  have hN := h.N
  obtain ⟨aW, aP, aL, aN, aX, aS, aF, aR, cW, cP, cL, cN, cX, cS, cF, cR, rfl⟩ := h.shapes
  obtain ⟨a', c', he', hN⟩ := hN
  simp only [Value.slice.injEq, true_and] at he'
  obtain ⟨rfl, rfl⟩ := he'
  rcases hN with h0 | ⟨bn, on, rfl, hbn, hcn'⟩
  · exfalso; rw [h0] at hcn; simp at hcn
  obtain ⟨vn, d3, r3⟩ := hcn' c hcn
  obtain ⟨an, cn, rfl, -⟩ := r3
  generalize canM dss b c = ANS at HC ⊢
  generalize nxD dss b c = D at C HC
  generalize nxI dss b c = I at C HC
  generalize b.nts.getD c [] = ns at *
  obtain ⟨y0, y1, y2, y3⟩ := D
  simp only at HC
  have j1 : (0 : Int) ≤ (c : Int) := Int.natCast_nonneg _
  have j2 : (c : Int) < (b.nts.length : Int) := by omega
  clear hcn' h
  go_enter Tryz.func92, Tryz.ntmps92
  go_wp2_with fail
  refine (C _ ((Keep.refl w).alloc _)).mono ?_
  rintro e w1 ⟨rfl, k1⟩
  have K1 := ((Keep.refl w).alloc _).trans k1
  have e3 : w1.cell? ⟨w.heap.size, 3, none⟩ = some (.slice (some ⟨bn, on, none⟩) b.nts.length cN) := box_cell k1 3
  have d4 := (K1.cell hbn).trans d3
  have s1 := K1.size
  have z1 : w.heap.size < w1.heap.size := by have := k1.size; simp at this; omega
  have z2 : bn < w1.heap.size := Nat.lt_of_lt_of_le hbn s1
  have e5 : (w1.alloc (.cells #[.int .i64 y0, .int .i64 y1, .int .i64 y2, .int .i64 y3] 51)).cell? ⟨w.heap.size, 3, none⟩ = some (.slice (some ⟨bn, on, none⟩) b.nts.length cN) := (((Keep.refl w1).alloc _).cell z1).trans e3
  have e6 : (w1.alloc (.cells #[.int .i64 y0, .int .i64 y1, .int .i64 y2, .int .i64 y3] 51)).cell? ⟨bn, on + c, none⟩ = some (.slice an ns.length (ns.length + cn)) := (((Keep.refl w1).alloc _).cell z2).trans d4
  clear C d3
  cases I
  · have HE : Hid (ANS = false) := Lib.hid (by rw [HC.out]; rfl)
    go_wp2
    go_ret
    exact ⟨by rw [HE.out]; rfl, K1.alloc _⟩
  · by_cases h2 : y0 ≤ 2
    · by_cases h0 : y3 = 0
      · have HE : Hid (ANS = true) := Lib.hid (by rw [HC.out, decide_eq_true h2, decide_eq_true h0]; rfl)
        have b0 : (y3 == 0) = true := by simp [h0]
        clear HC
        subst h0
        go_wp2
        go_ret
        exact ⟨by rw [HE.out]; rfl, K1.alloc _⟩
      · have HE : Hid (ANS = ns.isEmpty) := Lib.hid (by rw [HC.out, decide_eq_true h2, decide_eq_false h0]; simp)
        have b0 : (y3 == 0) = false := by simp [h0]
        have HQ : Hid (((ns.length : Int) == 0) = ns.isEmpty) := Lib.hid (by cases ns <;> simp; omega)
        clear HC
        go_wp2
        go_ret
        exact ⟨by rw [HE.out, ← HQ.out]; rfl, K1.alloc _⟩
    · have HE : Hid (ANS = ns.isEmpty) := Lib.hid (by rw [HC.out, decide_eq_false h2]; simp)
      have HQ : Hid (((ns.length : Int) == 0) = ns.isEmpty) := Lib.hid (by cases ns <;> simp; omega)
      have h2' : ¬ (y0 ≤ 2) := h2
      clear HC
      go_wp2
      go_ret
      exact ⟨by rw [HE.out, ← HQ.out]; rfl, K1.alloc _⟩
theorem l15Possible_any (w : World) (v : BV) (dss : List (List Dd)) (b : Bd) (h : RdBd w v dss b) (hp : PsOk dss b) :
    Calls Tryz.prog 66 #[v.agg] w fun e w' => ∃ v', e = .returned v' ∧ Own w' w.heap.size v' (possM dss b) ∧ Keep w w' := by
  have C := fun (W : World) (kW : Keep w W) (c : Nat) (hc : c < dss.length) => l15Can_any W v dss b c (h.keep kW) hp hc
  obtain ⟨i0, hi, hz0, hz1, hz2⟩ := info_parts Tryz.infoI
  have HN := Lib.hid h.N
  have hm := hp.m
  have hpn := Lib.hid hp.n
  obtain ⟨aW, aP, aL, aN, aX, aS, aF, aR, cW, cP, cL, cN, cX, cS, cF, cR, rfl⟩ := h.shapes
  clear h hp
  go_enter Tryz.func66, Tryz.ntmps66
  go_upto_region 1 with fail
  obtain ⟨wB, hwB⟩ : ∃ W : World, W = w.alloc (.cells #[.slice aW dss.length cW, .slice aP b.plc.length cP, .slice aL b.lst.length cL, .slice aN b.nts.length cN, .slice aX b.nxt.length cX, .slice aS b.sn.length cS, .slice aF b.fr.length cF, .slice aR b.rws.length cR] 30) := ⟨_, rfl⟩
  have kB : Keep w wB := by rw [hwB]; exact (Keep.refl w).alloc _
  have sB : wB.heap.size = w.heap.size + 1 := by rw [hwB]; exact heap_size _ _
  have BC : Hid (∀ (W : World), Keep wB W → W.cell? ⟨w.heap.size, 0, none⟩ = some (.slice aW dss.length cW) ∧ W.cell? ⟨w.heap.size, 1, none⟩ = some (.slice aP b.plc.length cP) ∧ W.cell? ⟨w.heap.size, 2, none⟩ = some (.slice aL b.lst.length cL) ∧ W.cell? ⟨w.heap.size, 3, none⟩ = some (.slice aN b.nts.length cN) ∧ W.cell? ⟨w.heap.size, 4, none⟩ = some (.slice aX b.nxt.length cX) ∧ W.cell? ⟨w.heap.size, 5, none⟩ = some (.slice aS b.sn.length cS) ∧ W.cell? ⟨w.heap.size, 6, none⟩ = some (.slice aF b.fr.length cF) ∧ W.cell? ⟨w.heap.size, 7, none⟩ = some (.slice aR b.rws.length cR)) := Lib.hid (by
    rw [hwB]
    exact fun W k => ⟨box_cell k 0, box_cell k 1, box_cell k 2, box_cell k 3, box_cell k 4, box_cell k 5, box_cell k 6, box_cell k 7⟩)
  rw [← hwB]
  clear hwB
  have SB := Lib.hid sB
  have lB : w.heap.size < wB.heap.size := by omega
  clear sB
  have hown0 : Own (wB.alloc (.cells #[] 2)) wB.heap.size (.slice (some ⟨wB.heap.size, 0, none⟩) 0 0) [] := World.ownsRow_lit wB #[] 0 (Nat.le_refl _) (by decide) rfl
  go_wp2
  go_loopw [3, 4] (fun v0 i wr => ∃ (k : Nat) (v : Value), v = v0 ∧ k ≤ dss.length ∧ i = .int .i64 k ∧ Own wr wB.heap.size v (canK dss b k) ∧ Keep wB wr) (fun _ i _ => dss.length - (intOf i).toNat)
  case atStart => exact ⟨0, _, rfl, Nat.zero_le _, rfl, hown0, (Keep.refl _).alloc _⟩
  case round =>
    obtain ⟨k, v, rfl, hk, rfl, ho, hK⟩ := hrel
    clear hown0
    obtain ⟨b0, b1, b2, b3, b4, b5, b6, b7⟩ := BC.out _ hK
    by_cases hlt : k < dss.length
    · have i1 : (0 : Int) ≤ (k : Int) := Int.natCast_nonneg _
      have i2 : (k : Int) < (dss.length : Int) := by omega
      go_wp2_with fail
      refine (C _ (kB.trans hK) k hlt).mono ?_
      rintro e w2 ⟨rfl, k2⟩
      have hK2 := hK.trans k2
      have hml : (canK dss b k).length ≤ k := canK_len _ _ _
      have hsz := hK2.size
      replace ho := ho.keep k2
      clear b0 b1 b2 b3 b4 b5 b6 b7
      cases hc : canM dss b k
      · have HM : Hid (canK dss b (k + 1) = canK dss b k) := Lib.hid (canK_miss hc)
        go_wp2
        go_roundw
        case rel => exact ⟨k + 1, _, rfl, by omega, by go_num, by rw [HM.out]; exact ho, hK2⟩
        case measure => simp [intOf]; omega
      · have HM : Hid (canK dss b (k + 1) = canK dss b k ++ [(k : Int)]) := Lib.hid (canK_hit hc)
        go_wp2_with (at_builtin; refine wpList_append_own _ rfl _ _ 26 rfl wB.heap.size 2 i0 (.int .i64 0) 1 8 Tryz.underlying26 hi hz0 hz1 hz2 rfl (by decide) _ _ _ rfl (World.ownsRow.alloc ho _) ⟨_, 0, none⟩ 1 1 [.int .i64 k] rfl rfl ?c1 ?c2 ?c3 ?c4 ?c5 ?_)
        case c1 =>
          intro j u hj
          match j, hj with
          | 0, hj => simp at hj; subst hj; simp [Addr.add]
        case c2 => intro u hu; simp at hu; subst hu; rfl
        case c3 => unfold maxLen; omega
        case c4 => omega
        case c5 => simp; omega
        intro v' w1 hown' hgrow _
        have hK1 : Keep wB w1 := (hK2.alloc _).grown hgrow ho.ge
        clear hgrow
        go_wp2
        go_roundw
        case rel => exact ⟨k + 1, _, rfl, by omega, by go_num, by rw [HM.out]; exact own_hit hown', hK1⟩
        case measure => simp [intOf]; omega
    · obtain rfl : k = dss.length := by omega
      have HP : Hid (canK dss b dss.length ++ ntK b dss.length = possM dss b) := Lib.hid (poss_same dss b)
      have hml : (canK dss b dss.length).length ≤ dss.length := canK_len _ _ _
      generalize canK dss b dss.length = CK at *
      have ho0 : Own wr wB.heap.size v (CK ++ ntK b 0) := by rw [show ntK b 0 = [] from rfl, List.append_nil]; exact ho
      clear ho hk hlt
      go_wp2
      clear b0 b1 b2 b3 b4 b5 b6 b7
      go_loopw [3, 5] (fun v0 i wr => ∃ (k : Nat) (v : Value), v = v0 ∧ k ≤ dss.length ∧ i = .int .i64 k ∧ Own wr wB.heap.size v (CK ++ ntK b k) ∧ Keep wB wr) (fun _ i _ => dss.length - (intOf i).toNat)
      case atStart => exact ⟨0, _, rfl, Nat.zero_le _, rfl, ho0, hK⟩
      case round =>
        clear hK ho0
        obtain ⟨k, v, rfl, hk, rfl, ho, hK⟩ := hrel
        obtain ⟨b0, b1, b2, b3, b4, b5, b6, b7⟩ := BC.out _ hK
        by_cases hlt : k < dss.length
        · have i1 : (0 : Int) ≤ (k : Int) := Int.natCast_nonneg _
          have i2 : (k : Int) < (dss.length : Int) := by omega
          have hkn : k < b.nts.length := by rw [hpn.out]; exact hlt
          have i3 : (k : Int) < (b.nts.length : Int) := by omega
          have hN := HN.out.keep (kB.trans hK)
          obtain ⟨a', c', he', hN⟩ := hN
          simp only [Value.slice.injEq, true_and] at he'
          obtain ⟨rfl, rfl⟩ := he'
          rcases hN with h0 | ⟨bn, on, rfl, hbn, hcn'⟩
          · exfalso; rw [h0] at hkn; simp at hkn
          obtain ⟨vn, d3, r3⟩ := hcn' k hkn
          obtain ⟨an, cn, rfl, -⟩ := r3
          have hml2 := ntK_len b k
          have hml3 : (CK ++ ntK b k).length ≤ dss.length + k := by rw [List.length_append]; omega
          have hsz := hK.size
          have HH : 0 < (b.nts.getD k []).length → Hid (ntK b (k + 1) = ntK b k ++ [10 + (k : Int)]) := fun h => Lib.hid (ntK_hit h)
          have HZ : ¬ 0 < (b.nts.getD k []).length → Hid (ntK b (k + 1) = ntK b k) := fun h => Lib.hid (ntK_miss h)
          generalize b.nts.getD k [] = ns at *
          have i4 : IntKind.i64.wrap (10 + (k : Int)) = 10 + (k : Int) := by rw [IntKind.wrap_i64]; omega
          clear hcn'
          by_cases hz : 0 < ns.length
          · have HM : Hid (CK ++ ntK b (k + 1) = (CK ++ ntK b k) ++ [10 + (k : Int)]) := Lib.hid (by rw [(HH hz).out, List.append_assoc])
            have i5 : (0 : Int) < (ns.length : Int) := by omega
            clear HH HZ
            generalize CK ++ ntK b k = PK at *
            go_wp2_with (at_builtin; refine wpList_append_own _ rfl _ _ 26 rfl wB.heap.size 2 i0 (.int .i64 0) 1 8 Tryz.underlying26 hi hz0 hz1 hz2 rfl (by decide) _ _ _ rfl (World.ownsRow.alloc ho _) ⟨_, 0, none⟩ 1 1 [.int .i64 (10 + (k : Int))] rfl rfl ?c1 ?c2 ?c3 ?c4 ?c5 ?_)
            case c1 =>
              intro j u hj
              match j, hj with
              | 0, hj => simp at hj; subst hj; simp [Addr.add]
            case c2 => intro u hu; simp at hu; subst hu; rfl
            case c3 => unfold maxLen; omega
            case c4 => omega
            case c5 => simp; omega
            intro v' w1 hown' hgrow _
            have hK1 : Keep wB w1 := (hK.alloc _).grown hgrow ho.ge
            clear hgrow b0 b1 b2 b3 b4 b5 b6 b7
            go_wp2
            go_roundw
            case rel => exact ⟨k + 1, _, rfl, by omega, by go_num, by rw [HM.out]; exact own_hit hown', hK1⟩
            case measure => simp [intOf]; omega
          · have HM := HZ hz
            have i5 : ¬ ((0 : Int) < (ns.length : Int)) := by omega
            clear HH HZ
            go_wp2
            clear b0 b1 b2 b3 b4 b5 b6 b7
            go_roundw
            case rel => exact ⟨k + 1, _, rfl, by omega, by go_num, by rw [HM.out]; exact ho, hK⟩
            case measure => simp [intOf]; omega
        · obtain rfl : k = dss.length := by omega
          go_wp2
          go_ret
          exact ⟨_, rfl, by rw [← HP.out]; exact ho.base_le (by have := SB.out; omega), kB.trans hK⟩
theorem ps_of {dss : List (List Dd)} {b : Bd} (h : boardB dss b = true) : PsOk dss b := by
  have S := Shp.of h
  have u := workB_useR S.work
  refine ⟨S.nts, S.nxt, by omega, fun c hc => ?_⟩
  have h1 := board_clerk h hc
  have h2 := u.2 c hc
  simp only [okL, Bool.and_eq_true, decide_eq_true_eq] at h2
  have h3 := S.nl c
  exact ⟨h1.1, h1.2, by omega, by omega⟩
theorem and255 (a : Int) : 0 ≤ bits .and .i64 a 255 ∧ bits .and .i64 a 255 ≤ 255 := by
  have e : bits .and .i64 a 255 = IntKind.i64.wrap (((BitVec.ofInt 64 a &&& BitVec.ofInt 64 255).toNat : Nat) : Int) := rfl
  have h : (BitVec.ofInt 64 a &&& BitVec.ofInt 64 255).toNat ≤ 255 := by
    rw [BitVec.toNat_and]
    exact Nat.and_le_right
  rw [e, IntKind.wrap_i64]
  omega
def RdB (w : World) (B : Nat) (a : Option Addr) (zs : List Int) : Prop :=
  zs.length ≤ 4096 ∧ (zs = [] ∨ ∃ b off, a = some ⟨b, off, none⟩ ∧ b < B ∧ b < w.heap.size ∧ ∀ i, i < zs.length → w.cell? ⟨b, off + i, none⟩ = some (.int .u8 (zs.getD i 0)) ∧ 0 ≤ zs.getD i 0 ∧ zs.getD i 0 ≤ 255)
def Cur (w : World) (B g : Nat) : Prop :=
  B ≤ g ∧ ∃ (a : Option Addr) (cap : Nat) (zs : List Int) (i : Nat) (h : Int), w.heap[g]? = some (.cells #[.slice a zs.length cap, .int .i64 i, .int .i64 h] 91 (0, 0)) ∧ i ≤ zs.length ∧ RdB w B a zs
theorem RdB.kept {w w' : World} {B : Nat} {a : Option Addr} {zs : List Int} {row : Option Nat} (h : RdB w B a zs) (hg : w.grownBy w' row) (hr : ∀ k, row = some k → B ≤ k) : RdB w' B a zs := by
  refine ⟨h.1, ?_⟩
  rcases h.2 with h | ⟨b, off, ha, hb, hbs, hc⟩
  · exact .inl h
  · refine .inr ⟨b, off, ha, hb, Nat.lt_of_lt_of_le hbs hg.size, fun i hi => ⟨?_, (hc i hi).2⟩⟩
    rw [World.cell?_of_block (w := w) (hg.block b hbs (fun e => by have := hr b e.symm; omega))]
    exact (hc i hi).1
theorem RdB.up {w w' : World} {a : Option Addr} {zs : List Int} (h : RdB w w.heap.size a zs) (k : Keep w w') : RdB w' w'.heap.size a zs := by
  have h' := h.kept k.grownBy (by simp)
  refine ⟨h'.1, ?_⟩
  rcases h'.2 with e | ⟨b, off, ha, hb, hbs, hc⟩
  · exact .inl e
  · exact .inr ⟨b, off, ha, hbs, hbs, hc⟩
theorem Cur.lt {w : World} {B g : Nat} (h : Cur w B g) : g < w.heap.size := by
  obtain ⟨_, a, cap, zs, i, x, hh, _⟩ := h
  exact (Array.getElem?_eq_some_iff.1 hh).1
theorem Cur.kept {w w' : World} {B g : Nat} {row : Option Nat} (h : Cur w B g) (hg : w.grownBy w' row) (hne : row ≠ some g) (hr : ∀ k, row = some k → B ≤ k) : Cur w' B g := by
  have hlt := h.lt
  obtain ⟨hB, a, cap, zs, i, x, hh, hi, hb⟩ := h
  exact ⟨hB, a, cap, zs, i, x, by rw [hg.block g hlt (fun e => hne e.symm)]; exact hh, hi, hb.kept hg hr⟩
theorem Cur.keep {w w' : World} {B g : Nat} (h : Cur w B g) (k : Keep w w') : Cur w' B g := h.kept k.grownBy (by simp) (by simp)
def CurI (w : World) (B g : Nat) (a : Option Addr) (cap : Nat) (zs : List Int) (i h : Int) : Prop :=
  B ≤ g ∧ w.heap[g]? = some (.cells #[.slice a zs.length cap, .int .i64 i, .int .i64 h] 91 (0, 0)) ∧ RdB w B a zs
theorem CurI.cur {w : World} {B g : Nat} {a : Option Addr} {cap : Nat} {zs : List Int} {i h : Int} (c : CurI w B g a cap zs i h) (h0 : 0 ≤ i) (hi : i ≤ zs.length) : Cur w B g := by
  obtain ⟨n, rfl⟩ := Int.eq_ofNat_of_zero_le h0
  exact ⟨c.1, a, cap, zs, n, h, c.2.1, by omega, c.2.2⟩
theorem grown_setCell (w : World) (g j : Nat) (v : Value) : w.grownBy (w.setCell ⟨g, j, none⟩ v) (some g) :=
  ⟨rfl, rfl, rfl, by simp, fun k _ hk => heap_setCell_other w ⟨g, j, none⟩ k v (fun e => hk (by simp [e]))⟩
theorem CurI.seth {w : World} {B g : Nat} {a : Option Addr} {cap : Nat} {zs : List Int} {i h : Int} (c : CurI w B g a cap zs i h) (y : Int) : CurI (w.setCell ⟨g, 2, none⟩ (.int .i64 y)) B g a cap zs i y :=
  ⟨c.1, by rw [heap_setCell_same w g 2 _ _ _ c.2.1]; rfl, c.2.2.kept (grown_setCell w g 2 _) (by intro k hk; simp at hk; subst hk; exact c.1)⟩
theorem CurI.seti {w : World} {B g : Nat} {a : Option Addr} {cap : Nat} {zs : List Int} {i h : Int} (c : CurI w B g a cap zs i h) (y : Int) : CurI (w.setCell ⟨g, 1, none⟩ (.int .i64 y)) B g a cap zs y h :=
  ⟨c.1, by rw [heap_setCell_same w g 1 _ _ _ c.2.1]; rfl, c.2.2.kept (grown_setCell w g 1 _) (by intro k hk; simp at hk; subst hk; exact c.1)⟩
theorem grown_drewN (w : World) (n : Nat) (row : Option Nat) : w.grownBy (w.drewN n) row := ⟨rfl, rfl, rfl, Nat.le_refl _, fun _ _ _ => rfl⟩
theorem CurI.drewN {w : World} {B g : Nat} {a : Option Addr} {cap : Nat} {zs : List Int} {i h : Int} (c : CurI w B g a cap zs i h) (n : Nat) : CurI (w.drewN n) B g a cap zs i h :=
  ⟨c.1, c.2.1, c.2.2.kept (row := none) (grown_drewN w n none) (by simp)⟩
theorem byte_any (w : World) (B g : Nat) (hc : Cur w B g) :
    Calls Tryz.prog 85 #[.pointer (some ⟨g, 0, none⟩)] w fun e w' => ∃ x, e = .returned (.int .i64 x) ∧ 0 ≤ x ∧ x ≤ 255 ∧ Cur w' B g ∧ w.grownBy w' (some g) := by
  obtain ⟨hB, a, cap, zs, i, x, hh, hi, hb⟩ := hc
  have C : CurI w B g a cap zs i x := ⟨hB, hh, hb⟩
  have c0 : w.cell? ⟨g, 0, none⟩ = some (.slice a zs.length cap) := by rw [cell_of_row w g 0 _ _ (0, 0) hh]; rfl
  have c1 : w.cell? ⟨g, 1, none⟩ = some (.int .i64 i) := by rw [cell_of_row w g 1 _ _ (0, 0) hh]; rfl
  have c2 : w.cell? ⟨g, 2, none⟩ = some (.int .i64 x) := by rw [cell_of_row w g 2 _ _ (0, 0) hh]; rfl
  have f1 : w.frozen? ⟨g, 1, none⟩ = false := frozen_of_row w g 1 _ _ hh
  have f2 : w.frozen? ⟨g, 2, none⟩ = false := frozen_of_row w g 2 _ _ hh
  clear hh
  have hzl := hb.1
  by_cases hlt : i < zs.length
  · rcases hb.2 with h | ⟨b, off, rfl, hbB, hbs, hcc⟩
    · exfalso; rw [h] at hlt; simp at hlt
    obtain ⟨d1, d2, d3⟩ := hcc i hlt
    have hbg : b ≠ g := by omega
    obtain ⟨q, hq⟩ : ∃ q, q = zs.getD i 0 := ⟨_, rfl⟩
    rw [← hq] at d1 d2 d3
    clear hcc hq hb
    go_enter Tryz.func85, Tryz.ntmps85
    go_wp2
    go_quiet (fail)
    go_wp2
    go_quiet (fail)
    go_wp2
    go_quiet (fail)
    go_wp2
    go_ret
    exact ⟨_, rfl, (and255 _).1, (and255 _).2, (((C.seth _).drewN _).seti _).cur (by omega) (by omega), grown_trans (grown_trans (grown_setCell w g 2 _) (grown_drewN _ _ _)) (grown_setCell _ g 1 _)⟩
  · clear hb
    go_enter Tryz.func85, Tryz.ntmps85
    go_wp2
    go_quiet (fail)
    go_wp2
    go_quiet (fail)
    go_wp2
    go_ret
    exact ⟨_, rfl, (and255 _).1, (and255 _).2, (((C.seth _).drewN _).drewN _).cur (by omega) (by omega), grown_trans (grown_trans (grown_setCell w g 2 _) (grown_drewN _ _ _)) (grown_drewN _ _ _)⟩
theorem new_any (w : World) (a : Option Addr) (cap : Nat) (zs : List Int) (hb : RdB w w.heap.size a zs) :
    Calls Tryz.prog 36 #[.slice a zs.length cap] w fun e w' => e = .returned (.pointer (some ⟨w.heap.size, 0, none⟩)) ∧ Cur w' w.heap.size w.heap.size ∧ Keep w w' := by
  have hzl := hb.1
  go_enter Tryz.func36, Tryz.ntmps36
  go_wp2
  go_loop [3, 4] (fun x i => ∃ (k : Nat) (h : Int), k ≤ zs.length ∧ i = .int .i64 k ∧ x = .int .i64 h) (fun _ i => zs.length - (intOf i).toNat)
  case atStart => exact ⟨0, _, Nat.zero_le _, rfl, rfl⟩
  case round =>
    obtain ⟨k, h, hk, rfl, rfl⟩ := hrel
    by_cases hlt : k < zs.length
    · rcases hb.2 with h | ⟨b, off, rfl, hbB, hbs, hcc⟩
      · exfalso; rw [h] at hlt; simp at hlt
      obtain ⟨d1, d2, d3⟩ := hcc k hlt
      obtain ⟨q, hq⟩ : ∃ q, q = zs.getD k 0 := ⟨_, rfl⟩
      rw [← hq] at d1 d2 d3
      clear hcc hq
      go_wp2
      go_round
      case rel => exact ⟨k + 1, _, by omega, by go_num, rfl⟩
      case measure => simp [intOf]; omega
    · go_wp2
      go_ret
      refine ⟨rfl, ⟨Nat.le_refl _, a, cap, zs, 0, h, heap_alloc_new w _, Nat.zero_le _, ?_⟩, (Keep.refl w).alloc _⟩
      exact hb.kept (World.grownBy_alloc w _ none) (by simp)
theorem emod_lt' {x n : Int} (h1 : 1 ≤ n) : 0 ≤ x % n ∧ x % n < n := ⟨Int.emod_nonneg x (by omega), Int.emod_lt_of_pos x (by omega)⟩
theorem below_any (w : World) (B g : Nat) (n : Int) (hc : Cur w B g) (h1 : 1 ≤ n) :
    Calls Tryz.prog 61 #[.pointer (some ⟨g, 0, none⟩), .int .i64 n] w fun e w' => ∃ x, e = .returned (.int .i64 x) ∧ 0 ≤ x ∧ x < n ∧ Cur w' B g ∧ w.grownBy w' (some g) := by
  by_cases h2 : n ≤ 256
  · go_enter Tryz.func61, Tryz.ntmps61
    go_wp2_with fail
    refine (byte_any _ B g hc).mono ?_
    rintro e w1 ⟨x, rfl, x0, x1, c1, g1⟩
    go_wp2
    go_ret
    exact ⟨_, rfl, (emod_lt' h1).1, (emod_lt' h1).2, c1, g1⟩
  · go_enter Tryz.func61, Tryz.ntmps61
    go_wp2_with fail
    refine (byte_any _ B g hc).mono ?_
    rintro e w1 ⟨x, rfl, x0, x1, c1, g1⟩
    go_wp2_with fail
    refine (byte_any _ B g c1).mono ?_
    rintro e w2 ⟨y, rfl, y0, y1, c2, g2⟩
    go_wp2_with fail
    refine (byte_any _ B g c2).mono ?_
    rintro e w3 ⟨z, rfl, z0, z1, c3, g3⟩
    go_wp2_with fail
    refine (byte_any _ B g c3).mono ?_
    rintro e w4 ⟨u, rfl, u0, u1, c4, g4⟩
    go_wp2
    go_ret
    exact ⟨_, rfl, (emod_lt' h1).1, (emod_lt' h1).2, c4, grown_trans (grown_trans (grown_trans g1 g2) g3) g4⟩
theorem once_any (w : World) (B g : Nat) (n : Int) (hc : Cur w B g) (h1 : 1 ≤ n) :
    Calls Tryz.prog 60 #[.pointer (some ⟨g, 0, none⟩), .int .i64 n] w fun e w' => ∃ b : Bool, e = .returned (.bool b) ∧ Cur w' B g ∧ w.grownBy w' (some g) := by
  go_enter Tryz.func60, Tryz.ntmps60
  go_wp2_with fail
  refine (below_any _ B g _ hc h1).mono ?_
  rintro e w1 ⟨x, rfl, x0, x1, c1, g1⟩
  go_wp2
  go_ret
  exact ⟨_, rfl, c1, g1⟩
theorem lit_int {w1 w2 : World} {e : TypeId} {row : Option Nat} (l : List Int) (hg : (w1.alloc (.cells (l.map (Value.int .i64)).toArray e)).grownBy w2 row) (hne : row ≠ some w1.heap.size) (j : Nat) (hj : j < l.length) :
    ∃ y, w2.cell? ⟨w1.heap.size, j, none⟩ = some (.int .i64 y) := by
  refine ⟨l[j], ?_⟩
  have h1 := heap_alloc_new w1 (.cells (l.map (Value.int .i64)).toArray e)
  rw [World.cell?_of_block (w := w1.alloc (.cells (l.map (Value.int .i64)).toArray e)) (hg.block w1.heap.size (by simp) (fun e => hne e.symm)), cell_of_row _ _ j _ _ _ h1]
  simp [hj]
theorem rdb_of_row {w : World} {a : Option Addr} {len cap : Nat} {ys : List Int} (hlen : len ≤ 4096)
    (h : (a = none ∧ len = 0 ∧ cap = 0 ∧ ys = []) ∨ ∃ x, a = some x ∧ len ≤ cap ∧ cap ≤ maxLen ∧ ys.length = cap ∧ (∀ i, i < ys.length → w.cell? (x.add i) = some (.int .u8 (ys.getD i 0))) ∧ ∀ n ∈ ys, (Lit.int .u8 n).wf = true) :
    ∃ zs : List Int, zs.length = len ∧ RdB w w.heap.size a zs := by
  rcases h with ⟨rfl, rfl, rfl, rfl⟩ | ⟨x, rfl, hl, hm, hy, hc, hw⟩
  · exact ⟨[], rfl, by simp, .inl rfl⟩
  · have hzl : (ys.take len).length = len := by rw [List.length_take]; omega
    refine ⟨ys.take len, hzl, by omega, ?_⟩
    by_cases h0 : len = 0
    · left; subst h0; simp
    · right
      obtain ⟨b, off, spot⟩ := x
      have hc0 := hc 0 (by omega)
      have hspot : spot = none := by simpa [Addr.add] using World.cell?_spot hc0
      subst hspot
      have hcc : ∀ i, i < (ys.take len).length → w.cell? ⟨b, off + i, none⟩ = some (.int .u8 ((ys.take len).getD i 0)) ∧ 0 ≤ (ys.take len).getD i 0 ∧ (ys.take len).getD i 0 ≤ 255 := by
        intro i hi
        have hi' : i < ys.length := by omega
        have h1 := hc i hi'
        have e1 : (⟨b, off, none⟩ : Addr).add i = ⟨b, off + i, none⟩ := by unfold Addr.add; split <;> simp_all
        rw [e1] at h1
        have e2 : (ys.take len).getD i 0 = ys.getD i 0 := by
          rw [List.getD_eq_getElem?_getD, List.getD_eq_getElem?_getD, List.getElem?_take, if_pos (by omega)]
        rw [e2]
        refine ⟨h1, ?_⟩
        have hm : ys.getD i 0 ∈ ys := by rw [List.getD_eq_getElem?_getD, List.getElem?_eq_getElem hi']; exact List.getElem_mem hi'
        have := bounds_u8 (hw _ hm)
        omega
      refine ⟨b, off, rfl, ?_, ?_, hcc⟩
      all_goals
        have h2 := (hcc 0 (by omega)).1
        apply Classical.byContradiction
        intro hnb
        have h3 : w.heap[b]? = none := by simp; omega
        simp [World.cell?, h3] at h2
theorem from_any (w : World) (B g : Nat) (lo hi : Int) (hc : Cur w B g) (h0 : -1099511627776 ≤ lo) (h1 : lo ≤ hi) (h2 : hi ≤ 1099511627776) :
    Calls Tryz.prog 38 #[.pointer (some ⟨g, 0, none⟩), .int .i64 lo, .int .i64 hi] w fun e w' => ∃ x, e = .returned (.int .i64 x) ∧ lo ≤ x ∧ x ≤ hi ∧ Cur w' B g ∧ w.grownBy w' (some g) := by
  go_enter Tryz.func38, Tryz.ntmps38
  go_wp2_with fail
  refine (below_any _ B g _ hc (by omega)).mono ?_
  rintro e w1 ⟨x, rfl, x0, x1, c1, g1⟩
  go_wp2
  go_ret
  exact ⟨_, rfl, by omega, by omega, c1, g1⟩
abbrev deedC (k p v g : Int) : Obj := .cells #[.int .i64 k, .int .i64 p, .int .i64 v, .int .i64 g] 51
def St (w1 wr : World) (D : Nat) (k p v g : Int) : Prop := wr.heap[D]? = some (deedC k p v g) ∧ w1.grownBy wr (some D)
theorem St.start {w1 : World} (k p v g : Int) : St w1 (w1.alloc (deedC k p v g)) w1.heap.size k p v g :=
  ⟨heap_alloc_new w1 _, World.grownBy_alloc w1 _ (some w1.heap.size)⟩
theorem St.size {w1 wr : World} {D : Nat} {k p v g : Int} (h : St w1 wr D k p v g) : D < wr.heap.size := (Array.getElem?_eq_some_iff.1 h.1).1
theorem St.keep {w1 wr wr' : World} {D : Nat} {k p v g : Int} (h : St w1 wr D k p v g) (hk : Keep wr wr') : St w1 wr' D k p v g :=
  ⟨(Below.block hk D h.size).trans h.1, grown_trans h.2 ⟨Below.os hk, Below.tape hk, Below.output hk, Below.size hk, fun i hi _ => Below.block hk i hi⟩⟩
theorem St.cells {w1 wr : World} {D : Nat} {k p v g : Int} (h : St w1 wr D k p v g) :
    wr.cell? ⟨D, 0, none⟩ = some (.int .i64 k) ∧ wr.cell? ⟨D, 1, none⟩ = some (.int .i64 p) ∧ wr.cell? ⟨D, 2, none⟩ = some (.int .i64 v) ∧ wr.cell? ⟨D, 3, none⟩ = some (.int .i64 g) :=
  ⟨cell_of_row wr D 0 _ _ (0, 0) h.1, cell_of_row wr D 1 _ _ (0, 0) h.1, cell_of_row wr D 2 _ _ (0, 0) h.1, cell_of_row wr D 3 _ _ (0, 0) h.1⟩
theorem St.free {w1 wr : World} {D : Nat} {k p v g : Int} (h : St w1 wr D k p v g) (i : Nat) : wr.frozen? ⟨D, i, none⟩ = false := frozen_of_row wr D i _ _ h.1
theorem St.set0 {w1 wr : World} {D : Nat} {k p v g : Int} (h : St w1 wr D k p v g) (x : Int) : St w1 (wr.setCell ⟨D, 0, none⟩ (.int .i64 x)) D x p v g :=
  ⟨by rw [heap_setCell_same wr D 0 _ _ _ h.1]; rfl, grown_trans h.2 ⟨rfl, rfl, rfl, by simp, fun i _ hi => heap_setCell_other wr ⟨D, 0, none⟩ i _ (fun e => hi (by simp [e]))⟩⟩
theorem St.set1 {w1 wr : World} {D : Nat} {k p v g : Int} (h : St w1 wr D k p v g) (x : Int) : St w1 (wr.setCell ⟨D, 1, none⟩ (.int .i64 x)) D k x v g :=
  ⟨by rw [heap_setCell_same wr D 1 _ _ _ h.1]; rfl, grown_trans h.2 ⟨rfl, rfl, rfl, by simp, fun i _ hi => heap_setCell_other wr ⟨D, 1, none⟩ i _ (fun e => hi (by simp [e]))⟩⟩
theorem St.set2 {w1 wr : World} {D : Nat} {k p v g : Int} (h : St w1 wr D k p v g) (x : Int) : St w1 (wr.setCell ⟨D, 2, none⟩ (.int .i64 x)) D k p x g :=
  ⟨by rw [heap_setCell_same wr D 2 _ _ _ h.1]; rfl, grown_trans h.2 ⟨rfl, rfl, rfl, by simp, fun i _ hi => heap_setCell_other wr ⟨D, 2, none⟩ i _ (fun e => hi (by simp [e]))⟩⟩
theorem St.set3 {w1 wr : World} {D : Nat} {k p v g : Int} (h : St w1 wr D k p v g) (x : Int) : St w1 (wr.setCell ⟨D, 3, none⟩ (.int .i64 x)) D k p v x :=
  ⟨by rw [heap_setCell_same wr D 3 _ _ _ h.1]; rfl, grown_trans h.2 ⟨rfl, rfl, rfl, by simp, fun i _ hi => heap_setCell_other wr ⟨D, 3, none⟩ i _ (fun e => hi (by simp [e]))⟩⟩
theorem St.keep1 {w1 wr : World} {k p v g : Int} (h : St w1 wr w1.heap.size k p v g) : Keep w1 wr :=
  (Keep.refl w1).grown h.2 (fun k hk => by simp at hk; omega)
def Box (w : World) (D : Nat) (k p v g : Int) : Prop := w.heap[D]? = some (deedC k p v g)
theorem Box.lt {w : World} {D : Nat} {k p v g : Int} (h : Box w D k p v g) : D < w.heap.size := (Array.getElem?_eq_some_iff.1 h).1
theorem Box.kept {w w' : World} {D : Nat} {k p v g : Int} {row : Option Nat} (h : Box w D k p v g) (hg : w.grownBy w' row) (hne : row ≠ some D) : Box w' D k p v g :=
  (hg.block D h.lt (fun e => hne e.symm)).trans h
theorem Box.cells {w : World} {D : Nat} {k p v g : Int} (h : Box w D k p v g) :
    w.cell? ⟨D, 0, none⟩ = some (.int .i64 k) ∧ w.cell? ⟨D, 1, none⟩ = some (.int .i64 p) ∧ w.cell? ⟨D, 2, none⟩ = some (.int .i64 v) ∧ w.cell? ⟨D, 3, none⟩ = some (.int .i64 g) :=
  ⟨cell_of_row w D 0 _ _ (0, 0) h, cell_of_row w D 1 _ _ (0, 0) h, cell_of_row w D 2 _ _ (0, 0) h, cell_of_row w D 3 _ _ (0, 0) h⟩
theorem Box.free {w : World} {D : Nat} {k p v g : Int} (h : Box w D k p v g) : w.frozen? ⟨D, 0, none⟩ = false ∧ w.frozen? ⟨D, 1, none⟩ = false ∧ w.frozen? ⟨D, 2, none⟩ = false ∧ w.frozen? ⟨D, 3, none⟩ = false :=
  ⟨frozen_of_row w D 0 _ _ h, frozen_of_row w D 1 _ _ h, frozen_of_row w D 2 _ _ h, frozen_of_row w D 3 _ _ h⟩
theorem Box.set0 {w : World} {D : Nat} {k p v g : Int} (h : Box w D k p v g) (x : Int) : Box (w.setCell ⟨D, 0, none⟩ (.int .i64 x)) D x p v g := by unfold Box; rw [heap_setCell_same w D 0 _ _ _ h]; rfl
theorem Box.set1 {w : World} {D : Nat} {k p v g : Int} (h : Box w D k p v g) (x : Int) : Box (w.setCell ⟨D, 1, none⟩ (.int .i64 x)) D k x v g := by unfold Box; rw [heap_setCell_same w D 1 _ _ _ h]; rfl
theorem Box.set2 {w : World} {D : Nat} {k p v g : Int} (h : Box w D k p v g) (x : Int) : Box (w.setCell ⟨D, 2, none⟩ (.int .i64 x)) D k p x g := by unfold Box; rw [heap_setCell_same w D 2 _ _ _ h]; rfl
theorem Box.set3 {w : World} {D : Nat} {k p v g : Int} (h : Box w D k p v g) (x : Int) : Box (w.setCell ⟨D, 3, none⟩ (.int .i64 x)) D k p v x := by unfold Box; rw [heap_setCell_same w D 3 _ _ _ h]; rfl
theorem Box.new (w : World) (k p v g : Int) : Box (w.alloc (deedC k p v g)) w.heap.size k p v g := heap_alloc_new w _
def Dr (w wr : World) (B c : Nat) : Prop := Cur wr B c ∧ w.grownBy wr (some c)
theorem Dr.step {w wr wr' : World} {B c : Nat} (h : Dr w wr B c) (hc : Cur wr' B c) (hg : wr.grownBy wr' (some c)) : Dr w wr' B c := ⟨hc, grown_trans h.2 hg⟩
theorem Dr.alloc {w wr : World} {B c : Nat} (h : Dr w wr B c) (o : Obj) : Dr w (wr.alloc o) B c :=
  ⟨h.1.keep ((Keep.refl wr).alloc o), grown_trans h.2 (World.grownBy_alloc wr o (some c))⟩
theorem Dr.set {w wr : World} {B c D : Nat} (h : Dr w wr B c) (hD : w.heap.size ≤ D) (hc : c < w.heap.size) (hB : B ≤ c) (j : Nat) (x : Value) : Dr w (wr.setCell ⟨D, j, none⟩ x) B c := by
  have hg := grown_setCell wr D j x
  refine ⟨h.1.kept hg (by simp; omega) (by intro k hk; simp at hk; omega), ?_⟩
  exact ⟨hg.os.trans h.2.os, hg.tape.trans h.2.tape, hg.output.trans h.2.output, Nat.le_trans h.2.size hg.size, fun i hi hne => (hg.block i (Nat.lt_of_lt_of_le hi h.2.size) (by simp; omega)).trans (h.2.block i hi hne)⟩
theorem Dr.refl {w : World} {B c : Nat} (h : Cur w B c) : Dr w w B c := ⟨h, grown_drewN w 0 _⟩
theorem l4Draw_any (w : World) (B c : Nat) (hc : Cur w B c) :
    Calls Tryz.prog 116 #[.pointer (some ⟨c, 0, none⟩)] w fun e w' => ∃ k p v g, e = .returned (deedV k p v g) ∧ Dr w w' B c ∧ 1 ≤ k ∧ k ≤ 4 := by
  have hcl := hc.lt
  have hB := hc.1
  have R0 := Box.new w 0 0 0 0
  have D0 := (Dr.refl hc).alloc (deedC 0 0 0 0)
  go_enter Tryz.func116, Tryz.ntmps116
  go_wp2_with fail
  refine (below_any _ B c _ D0.1 (by omega)).mono ?_
  rintro e w1 ⟨x, rfl, x0, x1, c1, g1⟩
  have R1 := R0.kept g1 (by simp; omega)
  have D1 := D0.step c1 g1
  clear R0 D0 c1 g1
  go_wp2_with fail
  refine (below_any _ B c _ D1.1 (by omega)).mono ?_
  rintro e w2 ⟨y, rfl, y0, y1, c2, g2⟩
  have R2 := R1.kept g2 (by simp; omega)
  have D2 := D1.step c2 g2
  have S2 := D2.2.size
  clear R1 D1 c2 g2
  have X2 := Box.new w2 (1 + x) y 0 0
  have R2' := R2.kept (World.grownBy_alloc w2 (deedC (1 + x) y 0 0) none) (by simp)
  have D2' := D2.alloc (deedC (1 + x) y 0 0)
  have hRX : w.heap.size < w2.heap.size := R2.lt
  clear R2 D2
  go_wp2_with fail
  refine (once_any _ B c _ D2'.1 (by omega)).mono ?_
  rintro e w3 ⟨b, rfl, c3, g3⟩
  have X3 := X2.kept g3 (by simp; omega)
  have R3 := R2'.kept g3 (by simp; omega)
  have D3 := D2'.step c3 g3
  clear X2 R2' D2' c3 g3
  obtain ⟨s0, s1, s2, s3⟩ := X3.cells
  obtain ⟨f0, f1, f2, f3⟩ := X3.free
  have hX3 := X3.lt
  go_upto_if 11 with fail
  go_cut [] from 4 (fun wx => ∃ K, 1 ≤ K ∧ K ≤ 4 ∧ Box wx w2.heap.size K y 0 0 ∧ Box wx w.heap.size 0 0 0 0 ∧ Dr w wx B c)
  case first =>
    cases b
    · go_wp2
      go_meet
      case rel => exact ⟨_, by omega, by omega, X3, R3, D3⟩
    · go_wp2_with fail
      refine (below_any _ B c _ D3.1 (by omega)).mono ?_
      rintro e w4 ⟨z, rfl, z0, z1, c4, g4⟩
      have X4 := X3.kept g4 (by simp; omega)
      have R4 := R3.kept g4 (by simp; omega)
      have D4 := D3.step c4 g4
      obtain ⟨t0, t1, t2, t3⟩ := X4.cells
      obtain ⟨h0, h1, h2, h3⟩ := X4.free
      have hX4 := X4.lt
      go_wp2
      go_meet
      case rel => exact ⟨_, by omega, by omega, X4.set0 _, R4.kept (grown_setCell w4 _ 0 _) (by simp; omega), D4.set (by omega) hcl hB 0 _⟩
  case rest =>
    obtain ⟨K, k0, k1, X4, R4, D4⟩ := hcut
    clear X3 R3 D3 s0 s1 s2 s3 f0 f1 f2 f3 hX3
    obtain ⟨t0, t1, t2, t3⟩ := X4.cells
    obtain ⟨h0, h1, h2, h3⟩ := X4.free
    have hX4 := X4.lt
    have hK : K = 1 ∨ K = 2 ∨ K = 3 ∨ K = 4 := by omega
    rcases hK with rfl | rfl | rfl | rfl
    · clear k0 k1
      obtain ⟨r0, r1, r2, r3⟩ := R4.cells
      obtain ⟨q0, q1, q2, q3⟩ := R4.free
      go_wp2
      have hZ := (((R4.set0 1).set1 y).set2 0).set3 0
      refine bodyPost_ret (results_row (by rfl) _ _ w.heap.size _ _ (0, 0) _ rfl hZ Tryz.underlying51 rfl (by kernel_rfl)) rfl ?_
      exact ⟨_, _, _, _, rfl, (((D4.set (Nat.le_refl _) hcl hB 0 _).set (Nat.le_refl _) hcl hB 1 _).set (Nat.le_refl _) hcl hB 2 _).set (Nat.le_refl _) hcl hB 3 _, by decide, by decide⟩
    · clear k0 k1
      go_wp2_with fail
      refine (below_any _ B c _ D4.1 (by omega)).mono ?_
      rintro e w5 ⟨z, rfl, z0, z1, c5, g5⟩
      have X5 := X4.kept g5 (by simp; omega)
      have R5 := R4.kept g5 (by simp; omega)
      have D5 := D4.step c5 g5
      obtain ⟨v0, v1, v2, v3⟩ := X5.cells
      obtain ⟨n0, n1, n2, n3⟩ := X5.free
      have hX5 := X5.lt
      have R6 := R5.kept (grown_setCell w5 w2.heap.size 2 (.int .i64 (1 + z))) (by simp; omega)
      have D6 := D5.set (show w.heap.size ≤ w2.heap.size by omega) hcl hB 2 (.int .i64 (1 + z))
      obtain ⟨r0, r1, r2, r3⟩ := R6.cells
      obtain ⟨q0, q1, q2, q3⟩ := R6.free
      go_wp2
      have hZ := (((R6.set0 2).set1 y).set2 (1 + z)).set3 0
      refine bodyPost_ret (results_row (by rfl) _ _ w.heap.size _ _ (0, 0) _ rfl hZ Tryz.underlying51 rfl (by kernel_rfl)) rfl ?_
      exact ⟨_, _, _, _, rfl, (((D6.set (Nat.le_refl _) hcl hB 0 _).set (Nat.le_refl _) hcl hB 1 _).set (Nat.le_refl _) hcl hB 2 _).set (Nat.le_refl _) hcl hB 3 _, by decide, by decide⟩
    · clear k0 k1
      go_wp2_with fail
      refine (below_any _ B c _ D4.1 (by omega)).mono ?_
      rintro e w5 ⟨z, rfl, z0, z1, c5, g5⟩
      have X5 := X4.kept g5 (by simp; omega)
      have R5 := R4.kept g5 (by simp; omega)
      have D5 := D4.step c5 g5
      obtain ⟨v0, v1, v2, v3⟩ := X5.cells
      obtain ⟨n0, n1, n2, n3⟩ := X5.free
      have hX5 := X5.lt
      have R6 := R5.kept (grown_setCell w5 w2.heap.size 2 (.int .i64 (1 + z))) (by simp; omega)
      have D6 := D5.set (show w.heap.size ≤ w2.heap.size by omega) hcl hB 2 (.int .i64 (1 + z))
      obtain ⟨r0, r1, r2, r3⟩ := R6.cells
      obtain ⟨q0, q1, q2, q3⟩ := R6.free
      go_wp2
      have hZ := (((R6.set0 3).set1 y).set2 (1 + z)).set3 0
      refine bodyPost_ret (results_row (by rfl) _ _ w.heap.size _ _ (0, 0) _ rfl hZ Tryz.underlying51 rfl (by kernel_rfl)) rfl ?_
      exact ⟨_, _, _, _, rfl, (((D6.set (Nat.le_refl _) hcl hB 0 _).set (Nat.le_refl _) hcl hB 1 _).set (Nat.le_refl _) hcl hB 2 _).set (Nat.le_refl _) hcl hB 3 _, by decide, by decide⟩
    · clear k0 k1
      have R6 := R4.kept (grown_setCell wc w2.heap.size 1 (.int .i64 0)) (by simp; omega)
      have D6 := D4.set (show w.heap.size ≤ w2.heap.size by omega) hcl hB 1 (.int .i64 0)
      obtain ⟨r0, r1, r2, r3⟩ := R6.cells
      obtain ⟨q0, q1, q2, q3⟩ := R6.free
      go_wp2
      have hZ := (((R6.set0 4).set1 0).set2 0).set3 0
      refine bodyPost_ret (results_row (by rfl) _ _ w.heap.size _ _ (0, 0) _ rfl hZ Tryz.underlying51 rfl (by kernel_rfl)) rfl ?_
      exact ⟨_, _, _, _, rfl, (((D6.set (Nat.le_refl _) hcl hB 0 _).set (Nat.le_refl _) hcl hB 1 _).set (Nat.le_refl _) hcl hB 2 _).set (Nat.le_refl _) hcl hB 3 _, by decide, by decide⟩
theorem l4DrawAny_any (w : World) (B c : Nat) (hc : Cur w B c) :
    Calls Tryz.prog 98 #[.pointer (some ⟨c, 0, none⟩)] w fun e w' => ∃ k p v g, e = .returned (deedV k p v g) ∧ Dr w w' B c := by
  have hcl := hc.lt
  have hB := hc.1
  have R0 := Box.new w 0 0 0 0
  have D0 := (Dr.refl hc).alloc (deedC 0 0 0 0)
  go_enter Tryz.func98, Tryz.ntmps98
  go_wp2_with fail
  refine (l4Draw_any _ B c D0.1).mono ?_
  rintro e w1 ⟨k, p, v, g, rfl, ⟨c1, g1⟩, -, -⟩
  have R1 := R0.kept g1 (by simp; omega)
  have D1 := D0.step c1 g1
  clear R0 D0 c1 g1
  have hRX : w.heap.size < w1.heap.size := R1.lt
  have X2 := Box.new w1 k p v g
  have R2 := R1.kept (World.grownBy_alloc w1 (deedC k p v g) none) (by simp)
  have D2 := D1.alloc (deedC k p v g)
  clear R1 D1
  obtain ⟨W2, hW2⟩ : ∃ W2, W2 = w1.alloc (deedC k p v g) := ⟨_, rfl⟩
  go_upto_region 2 with fail
  go_cut [12] from 4 (fun s12 wx => ∃ b, s12 = .bool b ∧ Box wx w1.heap.size k p v g ∧ Box wx w.heap.size 0 0 0 0 ∧ Dr w wx B c)
  case first =>
    clear hW2
    by_cases hk : k ≤ 2
    · go_wp2_with fail
      refine (once_any _ B c _ D2.1 (by omega)).mono ?_
      rintro e w3 ⟨b, rfl, c3, g3⟩
      go_wp2
      go_meet
      case rel => exact ⟨_, rfl, X2.kept g3 (by simp; omega), R2.kept g3 (by simp; omega), D2.step c3 g3⟩
    · go_wp2
      go_meet
      case rel => exact ⟨_, rfl, X2, R2, D2⟩
  case rest =>
    obtain ⟨b, rfl, X3, R3, D3⟩ := hcut
    clear X2 R2 D2 hW2
    go_upto_if 12 with fail
    go_cut [] from 4 (fun wx => ∃ g, Box wx w1.heap.size k p v g ∧ Box wx w.heap.size 0 0 0 0 ∧ Dr w wx B c)
    case first =>
      cases b
      · go_wp2
        go_meet
        case rel => exact ⟨_, X3, R3, D3⟩
      · go_wp2_with fail
        refine (below_any _ B c _ D3.1 (by omega)).mono ?_
        rintro e w4 ⟨z, rfl, z0, z1, c4, g4⟩
        have X4 := X3.kept g4 (by simp; omega)
        have R4 := R3.kept g4 (by simp; omega)
        have D4 := D3.step c4 g4
        obtain ⟨t0, t1, t2, t3⟩ := X4.cells
        obtain ⟨h0, h1, h2, h3⟩ := X4.free
        have hX4 := X4.lt
        go_wp2
        go_meet
        case rel => exact ⟨_, X4.set3 _, R4.kept (grown_setCell w4 _ 3 _) (by simp; omega), D4.set (by omega) hcl hB 3 _⟩
    case rest =>
      clear X3 R3 D3
      obtain ⟨g, X3, R3, D3⟩ := hcut
      go_wp2_with fail
      refine (once_any _ B c _ D3.1 (by omega)).mono ?_
      rintro e w4 ⟨b, rfl, c4, g4⟩
      have X4 := X3.kept g4 (by simp; omega)
      have R4 := R3.kept g4 (by simp; omega)
      have D4 := D3.step c4 g4
      clear X3 R3 D3 c4 g4
      go_upto_if 18 with fail
      go_cut [] from 4 (fun wx => ∃ k p v g, Box wx w1.heap.size k p v g ∧ Box wx w.heap.size 0 0 0 0 ∧ Dr w wx B c)
      case first =>
        cases b
        · go_wp2
          go_meet
          case rel => exact ⟨_, _, _, _, X4, R4, D4⟩
        go_wp2_with fail
        refine (below_any _ B c _ D4.1 (by omega)).mono ?_
        rintro e w5 ⟨q, rfl, q0, q1, c5, g5⟩
        have X5 := X4.kept g5 (by simp; omega)
        have R5 := R4.kept g5 (by simp; omega)
        have D5 := D4.step c5 g5
        have hX5 := X5.lt
        clear X4 R4 D4 c5 g5
        have hq : q = 0 ∨ q = 1 ∨ q = 2 ∨ q = 3 := by omega
        clear q0 q1
        rcases hq with rfl | rfl | rfl | rfl
        · go_wp2_with fail
          refine (from_any _ B c _ _ D5.1 (by omega) (by omega) (by omega)).mono ?_
          rintro e w6 ⟨z, rfl, z0, z1, c6, g6⟩
          have X6 := X5.kept g6 (by simp; omega)
          have R6 := R5.kept g6 (by simp; omega)
          have D6 := D5.step c6 g6
          obtain ⟨v0, v1, v2, v3⟩ := X6.cells
          obtain ⟨n0, n1, n2, n3⟩ := X6.free
          have hX6 := X6.lt
          go_wp2
          go_meet
          case rel => exact ⟨_, _, _, _, X6.set0 _, R6.kept (grown_setCell w6 _ 0 _) (by simp; omega), D6.set (by omega) hcl hB 0 _⟩
        · have DL := D5.alloc (.cells #[.int .i64 (-1), .int .i64 2, .int .i64 3] 2)
          have XL := X5.kept (World.grownBy_alloc w5 (.cells #[.int .i64 (-1), .int .i64 2, .int .i64 3] 2) none) (by simp)
          have RL := R5.kept (World.grownBy_alloc w5 (.cells #[.int .i64 (-1), .int .i64 2, .int .i64 3] 2) none) (by simp)
          have hSz := heap_size w5 (.cells #[.int .i64 (-1), .int .i64 2, .int .i64 3] 2)
          go_wp2_with fail
          refine (below_any _ B c _ DL.1 (by omega)).mono ?_
          rintro e w6 ⟨z, rfl, z0, z1, c6, g6⟩
          obtain ⟨zn, rfl⟩ := Int.eq_ofNat_of_zero_le z0
          obtain ⟨y, hy⟩ := lit_int (w1 := w5) (e := 2) [-1, 2, 3] g6 (by simp; omega) zn (by simp; omega)
          have hS6 : w5.heap.size < w6.heap.size := by have := g6.size; omega
          have X6 := XL.kept g6 (by simp; omega)
          have R6 := RL.kept g6 (by simp; omega)
          have D6 := DL.step c6 g6
          clear DL XL RL hSz c6 g6
          obtain ⟨v0, v1, v2, v3⟩ := X6.cells
          obtain ⟨n0, n1, n2, n3⟩ := X6.free
          have hX6 := X6.lt
          go_wp2
          go_meet
          case rel => exact ⟨_, _, _, _, X6.set1 _, R6.kept (grown_setCell w6 _ 1 _) (by simp; omega), D6.set (by omega) hcl hB 1 _⟩
        · have DL := D5.alloc (.cells #[.int .i64 (-1), .int .i64 0, .int .i64 9, .int .i64 10] 2)
          have XL := X5.kept (World.grownBy_alloc w5 (.cells #[.int .i64 (-1), .int .i64 0, .int .i64 9, .int .i64 10] 2) none) (by simp)
          have RL := R5.kept (World.grownBy_alloc w5 (.cells #[.int .i64 (-1), .int .i64 0, .int .i64 9, .int .i64 10] 2) none) (by simp)
          have hSz := heap_size w5 (.cells #[.int .i64 (-1), .int .i64 0, .int .i64 9, .int .i64 10] 2)
          go_wp2_with fail
          refine (below_any _ B c _ DL.1 (by omega)).mono ?_
          rintro e w6 ⟨z, rfl, z0, z1, c6, g6⟩
          obtain ⟨zn, rfl⟩ := Int.eq_ofNat_of_zero_le z0
          obtain ⟨y, hy⟩ := lit_int (w1 := w5) (e := 2) [-1, 0, 9, 10] g6 (by simp; omega) zn (by simp; omega)
          have hS6 : w5.heap.size < w6.heap.size := by have := g6.size; omega
          have X6 := XL.kept g6 (by simp; omega)
          have R6 := RL.kept g6 (by simp; omega)
          have D6 := DL.step c6 g6
          clear DL XL RL hSz c6 g6
          obtain ⟨v0, v1, v2, v3⟩ := X6.cells
          obtain ⟨n0, n1, n2, n3⟩ := X6.free
          have hX6 := X6.lt
          go_wp2
          go_meet
          case rel => exact ⟨_, _, _, _, X6.set2 _, R6.kept (grown_setCell w6 _ 2 _) (by simp; omega), D6.set (by omega) hcl hB 2 _⟩
        · have DL := D5.alloc (.cells #[.int .i64 (-1), .int .i64 9, .int .i64 10] 2)
          have XL := X5.kept (World.grownBy_alloc w5 (.cells #[.int .i64 (-1), .int .i64 9, .int .i64 10] 2) none) (by simp)
          have RL := R5.kept (World.grownBy_alloc w5 (.cells #[.int .i64 (-1), .int .i64 9, .int .i64 10] 2) none) (by simp)
          have hSz := heap_size w5 (.cells #[.int .i64 (-1), .int .i64 9, .int .i64 10] 2)
          go_wp2_with fail
          refine (below_any _ B c _ DL.1 (by omega)).mono ?_
          rintro e w6 ⟨z, rfl, z0, z1, c6, g6⟩
          obtain ⟨zn, rfl⟩ := Int.eq_ofNat_of_zero_le z0
          obtain ⟨y, hy⟩ := lit_int (w1 := w5) (e := 2) [-1, 9, 10] g6 (by simp; omega) zn (by simp; omega)
          have hS6 : w5.heap.size < w6.heap.size := by have := g6.size; omega
          have X6 := XL.kept g6 (by simp; omega)
          have R6 := RL.kept g6 (by simp; omega)
          have D6 := DL.step c6 g6
          clear DL XL RL hSz c6 g6
          obtain ⟨v0, v1, v2, v3⟩ := X6.cells
          obtain ⟨n0, n1, n2, n3⟩ := X6.free
          have hX6 := X6.lt
          go_wp2
          go_meet
          case rel => exact ⟨_, _, _, _, X6.set3 _, R6.kept (grown_setCell w6 _ 3 _) (by simp; omega), D6.set (by omega) hcl hB 3 _⟩
      case rest =>
        clear X4 R4 D4
        obtain ⟨k, p, v, g, X4, R4, D4⟩ := hcut
        obtain ⟨t0, t1, t2, t3⟩ := X4.cells
        have hX4 := X4.lt
        obtain ⟨r0, r1, r2, r3⟩ := R4.cells
        obtain ⟨q0, q1, q2, q3⟩ := R4.free
        go_wp2
        have hZ := (((R4.set0 k).set1 p).set2 v).set3 g
        refine bodyPost_ret (results_row (by rfl) _ _ w.heap.size _ _ (0, 0) _ rfl hZ Tryz.underlying51 rfl (by kernel_rfl)) rfl ?_
        exact ⟨_, _, _, _, rfl, (((D4.set (Nat.le_refl _) hcl hB 0 _).set (Nat.le_refl _) hcl hB 1 _).set (Nat.le_refl _) hcl hB 2 _).set (Nat.le_refl _) hcl hB 3 _⟩
end Go.Proofs.YtgakfkjjkobpiaaGreat
