/- Gathered texts. -/
import Derived.Test.YtgakfkjjkobpiaaGreatMQ
import Derived.Maps.AppendAt
import Derived.Deep.CutRange
import Derived.Defers
import Derived.Recover
import Derived.Lib.Hide
import Derived.Laws.Rows
import Derived.Deep.Cut
set_option maxRecDepth 100000
set_option maxHeartbeats 8000000
namespace Go.Proofs.YtgakfkjjkobpiaaGreat
open Go.ChangeShapes Go.WideShapes Go.ChangeAt Go.RowKit
theorem workB_useE {dss : List (List Dd)} (h : workB dss = true) : 1 ≤ dss.length ∧ dss.length ≤ 3 ∧ ∀ i, i < dss.length → okL (dss.getD i []) = true := by
  simp only [workB, Bool.and_eq_true, decide_eq_true_eq] at h
  obtain ⟨⟨⟨⟨h1, h2⟩, _⟩, _⟩, _⟩ := h
  exact ⟨h1.1, h1.2, fun i hi => all_get [] h2 i hi⟩
abbrev cO (v : Value) (t : Int) : Obj := .cells #[v, .int .i64 t] 112
abbrev dO (k p v g : Int) : Obj := .cells #[.int .i64 k, .int .i64 p, .int .i64 v, .int .i64 g] 51
theorem implEventsOf_any (w : World) (v : Value) (dss : List (List Dd)) (h : RdW w v dss) (hx : dss.length ≤ 1048576) (hm : ∀ i, i < dss.length → (dss.getD i []).length ≤ 1048576) :
    Calls Tryz.prog 74 #[v] w fun e w' => ∃ v', e = .returned v' ∧ AppE w' w.heap.size v' (eventsB dss) ∧ Keep w w' := by
  cases hb : workB dss
  · have HE : Hid (eventsB dss = []) := Lib.hid (by rw [eventsB, hb]; rfl)
    have O : ∀ w1 : World, Keep w w1 → AppE (w1.alloc (.cells #[] 89)) w.heap.size (.slice (some ⟨w1.heap.size, 0, none⟩) 0 0) [] := fun w1 k1 => World.ownsRow_lit w1 #[] 0 k1.size (by decide) (by simp)
    go_enter Tryz.func74, Tryz.ntmps74
    go_wp2_with fail
    refine (implWorkOk_any _ _ _ h hx hm).mono ?_
    rintro e w1 ⟨rfl, k1⟩
    go_wp2
    go_ret
    exact ⟨_, rfl, by rw [HE.out]; exact O w1 k1, k1.alloc _⟩
  · obtain ⟨h1, h3, u2⟩ := workB_useE hb
    have HE : Hid (eventsB dss = evsP dss dss.length) := Lib.hid (by rw [eventsB, if_pos hb, (evsP_same hb dss.length (Nat.le_refl _)).1])
    obtain ⟨j0, hj, hy0, hy1, hy2⟩ := info_parts Tryz.infoE
    go_enter Tryz.func74, Tryz.ntmps74
    go_wp2_with fail
    refine (implWorkOk_any _ _ _ h hx hm).mono ?_
    rintro e w0 ⟨rfl, k0⟩
    go_wp2_with fail
    refine (beginnings_any _).mono ?_
    rintro e w1 ⟨x1, rfl, a1, k1⟩
    go_wp2_with fail
    refine (clerksOf_at w _ (k0.trans k1) _ _ h h1 h3 hm).mono ?_
    rintro e w2 ⟨v2, rfl, rc, k2⟩
    have K01 : Keep w0 w2 := k1.trans k2
    have hsz0 := k0.size
    clear hb h hm hx
    obtain ⟨b, c1, V, rfl, hbl, hbu, hc⟩ := rc
    have HR : ∀ i, i < dss.length → RdD w (V i) (dss.getD i []) := fun i hi => (hc i hi).1
    obtain ⟨ob, hob⟩ : ∃ ob, w2.heap[b]? = some ob := ⟨_, Array.getElem?_eq_getElem hbu⟩
    have HC : ∀ wq : World, wq.heap[b]? = some ob → ∀ i, i < dss.length → wq.cell? ⟨b, i * 2, none⟩ = some (V i) ∧ wq.cell? ⟨b, i * 2 + 1, none⟩ = some (.int .i64 (takW dss i)) := fun wq hq i hi => by
      have e : wq.heap[b]? = w2.heap[b]? := hq.trans hob.symm
      have f : ∀ j, wq.cell? ⟨b, j, none⟩ = w2.cell? ⟨b, j, none⟩ := fun j => by simp only [World.cell?, e]
      exact ⟨(f _).trans (hc i hi).2.1, (f _).trans (hc i hi).2.2⟩
    clear hc
    have L0 : LP w0 w2 x1 evBeg [(b, ob)] := LP.add ⟨a1.keep k2, K01, by simp⟩ b ob (fun e => by have := (a1.lt _ e).2; omega) hob
    clear a1 hob hbl
    go_wp2
    go_loopw [3, 20] (fun x i wr => ∃ k : Nat, ∃ es : List Ev, k ≤ dss.length ∧ i = .int .i64 k ∧ Hid (es = evsP dss k) ∧ 1 ≤ es.length ∧ es.length ≤ 3 + 10 * k ∧ LP w0 wr x es [(b, ob)]) (fun _ i _ => dss.length - (intOf i).toNat)
    case atStart => exact ⟨0, evBeg, Nat.zero_le _, rfl, Lib.hid rfl, by decide, by decide, L0⟩
    case round =>
      clear L0 K01 k2 hbu
      obtain ⟨k, es, hk, rfl, hE, he1, hel, hL⟩ := hrel
      by_cases hlt : k < dss.length
      · have r1 := HR k hlt
        have hKw : Keep w wr := k0.trans hL.keep
        obtain ⟨d1, d2⟩ := HC wr (hL.held b ob (by simp)).2 k hlt
        have hbw := hL.lt (n := b) (o := ob) (by simp)
        have okk := u2 k hlt
        have HV : Hid (evsP dss (k + 1) = clkP k (dss.getD k []) es (dss.getD k []).length) := Lib.hid (by rw [evsP, hE.out])
        obtain ⟨ds, hds⟩ : ∃ ds, ds = dss.getD k [] := ⟨_, rfl⟩
        rw [← hds] at r1 okk HV
        clear hds
        generalize takW dss k = t at d2
        obtain ⟨u, hu⟩ : ∃ u, u = V k := ⟨_, rfl⟩
        rw [← hu] at d1 r1
        clear hu
        have R1 := r1
        obtain ⟨ai, ci, rfl, r1⟩ := r1
        have hl5 : ds.length ≤ 5 := by simp [okL] at okk; omega
        have i1 : (0 : Int) ≤ (k : Int) := Int.natCast_nonneg _
        have i2 : (k : Int) < (dss.length : Int) := by omega
        obtain ⟨wo, hwo⟩ : ∃ wo : World, wo = wr := ⟨_, rfl⟩
        subst hwo
        have L1 := hL.new (cO (.slice ai ds.length (ds.length + ci)) t)
        go_wp2
        go_loopw [3, 28] (fun x i wq => ∃ q : Nat, ∃ evs : List Ev, q ≤ ds.length ∧ i = .int .i64 q ∧ Hid (evs = clkP k ds es q) ∧ 1 ≤ evs.length ∧ evs.length ≤ 3 + 10 * k + 2 * q ∧ LP w0 wq x evs [(wo.heap.size, cO (.slice ai ds.length (ds.length + ci)) t), (b, ob)]) (fun _ i _ => ds.length - (intOf i).toNat)
        case atStart => exact ⟨0, es, Nat.zero_le _, rfl, Lib.hid rfl, he1, by omega, L1⟩
        case round =>
          clear L1 d1 d2
          obtain ⟨q, evs, hq, rfl, hC, hv1, hev, hI⟩ := hrel
          by_cases hlq : q < ds.length
          · have hKq : Keep w wr := k0.trans hI.keep
            have R2 := R1.keep hKq
            rcases r1 with h | ⟨b2, o2, rfl, hb2, hc2⟩
            · exfalso; rw [h] at hlq; simp at hlq
            have AT := (hc2 q hlq).keep hb2 hKq
            have okq : okD (ds.getD q zD) = true := by
              simp only [okL, Bool.and_eq_true] at okk
              exact all_get zD okk.1 q hlq
            clear hc2 okk
            have hb3 : b2 < wr.heap.size := Nat.lt_of_lt_of_le hb2 hKq.size
            have HST : Hid (clkP k ds es (q + 1) = evs ++ oneE k q (ds.getD q zD) (ncE evs (goB ds q))) := Lib.hid (by rw [clkP, hC.out])
            clear hC
            obtain ⟨d, hd⟩ : ∃ d, d = ds.getD q zD := ⟨_, rfl⟩
            rw [← hd] at AT okq HST
            clear hd
            have KD := okD_kindE okq
            obtain ⟨x0, x1, x2, x3⟩ := d
            obtain ⟨A0, A1, A2, A3⟩ := AT
            simp only at A0 A1 A2 A3 KD
            have j1 : (0 : Int) ≤ (q : Int) := Int.natCast_nonneg _
            have j2 : (q : Int) < (ds.length : Int) := by omega
            have z5 := hI.lt (n := wo.heap.size) (o := cO (.slice (some ⟨b2, o2, none⟩) ds.length (ds.length + ci)) t) (by simp)
            have c5 : wr.cell? ⟨wo.heap.size, 0, none⟩ = some (.slice (some ⟨b2, o2, none⟩) ds.length (ds.length + ci)) := (hI.held wo.heap.size (cO (.slice (some ⟨b2, o2, none⟩) ds.length (ds.length + ci)) t) (by simp)) |>.2 |> fun h => cell_of_row wr _ 0 _ _ (0, 0) h
            clear okq
            rcases KD with rfl | rfl | rfl | rfl
            · have HS : Hid (clkP k ds es (q + 1) = evs ++ oneE k q (1, x1, x2, x3) (ncE evs (goB ds q))) := HST
              clear HST
              have L2 := hI.new (dO 1 x1 x2 x3)
              have K2 : Keep wr (wr.alloc (dO 1 x1 x2 x3)) := (Keep.refl wr).alloc _
              have R3 := R2.keep K2
              go_wp2_with fail
              refine (goesOn_any _ _ _ R3 q hlq (by omega)).mono ?_
              rintro e w3 ⟨rfl, k3⟩
              have L3 := L2.more k3
              go_wp2_with fail
              refine (nextClass_any _ _ _ L3.app.rd (by omega) hv1 _).mono ?_
              generalize goB ds q = go at HS
              generalize hcl : ncE evs go = cl at HS
              clear hcl
              rintro e w4 ⟨rfl, k4⟩
              have L4 := L3.more k4
              have z7 := L4.lt (n := wr.heap.size) (o := dO 1 x1 x2 x3) (by simp)
              have s0 : w4.cell? ⟨wr.heap.size, 0, none⟩ = some (.int .i64 1) := L4.cell (n := wr.heap.size) (cs := #[.int .i64 1, .int .i64 x1, .int .i64 x2, .int .i64 x3]) (t := 51) (by simp) 0
              have s1 : w4.cell? ⟨wr.heap.size, 1, none⟩ = some (.int .i64 x1) := L4.cell (n := wr.heap.size) (cs := #[.int .i64 1, .int .i64 x1, .int .i64 x2, .int .i64 x3]) (t := 51) (by simp) 1
              have s2 : w4.cell? ⟨wr.heap.size, 2, none⟩ = some (.int .i64 x2) := L4.cell (n := wr.heap.size) (cs := #[.int .i64 1, .int .i64 x1, .int .i64 x2, .int .i64 x3]) (t := 51) (by simp) 2
              have s3 : w4.cell? ⟨wr.heap.size, 3, none⟩ = some (.int .i64 x3) := L4.cell (n := wr.heap.size) (cs := #[.int .i64 1, .int .i64 x1, .int .i64 x2, .int .i64 x3]) (t := 51) (by simp) 3
              clear A0 A1 A2 A3 c5 L2 L3 R3 K2
              go_wp2_with fail
              refine (shapes_rd _ _ _ _).mono ?_
              rintro e w5 ⟨B, rfl, hB, hBl, k5⟩
              have L5 := L4.later k5 hBl hB
              clear L4 s0 s1 s2 s3 z7 hI
              have z8 := L5.lt (n := B) (o := .cells #[rdV x1] 124) (by simp)
              have c6 : w5.cell? ⟨B, 0, none⟩ = some (rdV x1) := L5.cell (n := B) (cs := #[rdV x1]) (t := 124) (by simp) 0
              go_wp2
              refine wp_loop_rounds 2 ?_
              rw [rounds_succ]
              go_wp2_with fail
              refine (eventOf_rd _ _).mono ?_
              rintro e wa0 ⟨rfl, ka0⟩
              have La0 := L5.more ka0
              have Lb0 := (La0.more ((Keep.refl wa0).alloc (eO k q true x1 0 cl))).more ((Keep.refl _).alloc (eO k q true x1 0 cl))
              have hs0 : w0.heap.size ≤ wa0.heap.size := La0.keep.size
              go_wp2_with (at_builtin; refine wpList_append_own_at _ rfl _ _ 69 rfl w0.heap.size 89 j0 (.agg #[.int .i64 0, .int .i64 0, .bool false, .int .i64 0, .int .i64 0, .int .i64 0]) 6 48 Tryz.underlying69 hj hy0 hy1 hy2 rfl (by decide) _ _ _ rfl Lb0.app ⟨_, 0, none⟩ 1 1 (cE ((k : Int), (q : Int), true, x1, 0, cl)) rfl rfl ?c1_0 ?c2_0 ?c3_0 ?c4_0 ?c5_0 ?_)
              case c1_0 => exact cE_newP _ _ (heap_size _ _) _ _ _ _ _ _
              case c2_0 => exact cE_oneP _
              case c3_0 => unfold maxLen; first | omega | (simp; omega)
              case c4_0 => first | omega | (simp; omega)
              case c5_0 => first | omega | (simp; omega)
              intro v0' wb0 hown' hgrow _ hblk
              have Lc0 := Lb0.hit _ hown' hgrow (by rw [heap_size, heap_size]; exact hblk)
              clear hgrow hown' hblk Lb0 La0 L5
              go_wp2
              rw [rounds_succ]
              go_wp2
              go_roundw
              case rel => exact ⟨q + 1, _, by omega, by go_num, Lib.hid (by rw [HS.out]; simp [oneE]), by first | omega | (simp <;> omega), by first | omega | (simp <;> omega), Lc0.less (fun y hy => by simp only [List.mem_cons, List.not_mem_nil, or_false] at hy ⊢; rcases hy with rfl | rfl <;> simp)⟩
              case measure => simp [intOf]; omega
            · have HS : Hid (clkP k ds es (q + 1) = evs ++ oneE k q (2, x1, x2, x3) (ncE evs (goB ds q))) := HST
              clear HST
              have L2 := hI.new (dO 2 x1 x2 x3)
              have K2 : Keep wr (wr.alloc (dO 2 x1 x2 x3)) := (Keep.refl wr).alloc _
              have R3 := R2.keep K2
              go_wp2_with fail
              refine (goesOn_any _ _ _ R3 q hlq (by omega)).mono ?_
              rintro e w3 ⟨rfl, k3⟩
              have L3 := L2.more k3
              go_wp2_with fail
              refine (nextClass_any _ _ _ L3.app.rd (by omega) hv1 _).mono ?_
              generalize goB ds q = go at HS
              generalize hcl : ncE evs go = cl at HS
              clear hcl
              rintro e w4 ⟨rfl, k4⟩
              have L4 := L3.more k4
              have z7 := L4.lt (n := wr.heap.size) (o := dO 2 x1 x2 x3) (by simp)
              have s0 : w4.cell? ⟨wr.heap.size, 0, none⟩ = some (.int .i64 2) := L4.cell (n := wr.heap.size) (cs := #[.int .i64 2, .int .i64 x1, .int .i64 x2, .int .i64 x3]) (t := 51) (by simp) 0
              have s1 : w4.cell? ⟨wr.heap.size, 1, none⟩ = some (.int .i64 x1) := L4.cell (n := wr.heap.size) (cs := #[.int .i64 2, .int .i64 x1, .int .i64 x2, .int .i64 x3]) (t := 51) (by simp) 1
              have s2 : w4.cell? ⟨wr.heap.size, 2, none⟩ = some (.int .i64 x2) := L4.cell (n := wr.heap.size) (cs := #[.int .i64 2, .int .i64 x1, .int .i64 x2, .int .i64 x3]) (t := 51) (by simp) 2
              have s3 : w4.cell? ⟨wr.heap.size, 3, none⟩ = some (.int .i64 x3) := L4.cell (n := wr.heap.size) (cs := #[.int .i64 2, .int .i64 x1, .int .i64 x2, .int .i64 x3]) (t := 51) (by simp) 3
              clear A0 A1 A2 A3 c5 L2 L3 R3 K2
              go_wp2_with fail
              refine (shapes_wr _ _ _ _).mono ?_
              rintro e w5 ⟨B, rfl, hB, hBl, k5⟩
              have L5 := L4.later k5 hBl hB
              clear L4 s0 s1 s2 s3 z7 hI
              have z8 := L5.lt (n := B) (o := .cells #[wrV x1 x2] 124) (by simp)
              have c6 : w5.cell? ⟨B, 0, none⟩ = some (wrV x1 x2) := L5.cell (n := B) (cs := #[wrV x1 x2]) (t := 124) (by simp) 0
              go_wp2
              refine wp_loop_rounds 2 ?_
              rw [rounds_succ]
              go_wp2_with fail
              refine (eventOf_wr _ _ _).mono ?_
              rintro e wa0 ⟨rfl, ka0⟩
              have La0 := L5.more ka0
              have Lb0 := (La0.more ((Keep.refl wa0).alloc (eO k q false x1 x2 cl))).more ((Keep.refl _).alloc (eO k q false x1 x2 cl))
              have hs0 : w0.heap.size ≤ wa0.heap.size := La0.keep.size
              go_wp2_with (at_builtin; refine wpList_append_own_at _ rfl _ _ 69 rfl w0.heap.size 89 j0 (.agg #[.int .i64 0, .int .i64 0, .bool false, .int .i64 0, .int .i64 0, .int .i64 0]) 6 48 Tryz.underlying69 hj hy0 hy1 hy2 rfl (by decide) _ _ _ rfl Lb0.app ⟨_, 0, none⟩ 1 1 (cE ((k : Int), (q : Int), false, x1, x2, cl)) rfl rfl ?c1_0 ?c2_0 ?c3_0 ?c4_0 ?c5_0 ?_)
              case c1_0 => exact cE_newP _ _ (heap_size _ _) _ _ _ _ _ _
              case c2_0 => exact cE_oneP _
              case c3_0 => unfold maxLen; first | omega | (simp; omega)
              case c4_0 => first | omega | (simp; omega)
              case c5_0 => first | omega | (simp; omega)
              intro v0' wb0 hown' hgrow _ hblk
              have Lc0 := Lb0.hit _ hown' hgrow (by rw [heap_size, heap_size]; exact hblk)
              clear hgrow hown' hblk Lb0 La0 L5
              go_wp2
              rw [rounds_succ]
              go_wp2
              go_roundw
              case rel => exact ⟨q + 1, _, by omega, by go_num, Lib.hid (by rw [HS.out]; simp [oneE]), by first | omega | (simp <;> omega), by first | omega | (simp <;> omega), Lc0.less (fun y hy => by simp only [List.mem_cons, List.not_mem_nil, or_false] at hy ⊢; rcases hy with rfl | rfl <;> simp)⟩
              case measure => simp [intOf]; omega
            · have HS : Hid (clkP k ds es (q + 1) = evs ++ oneE k q (3, x1, x2, x3) (ncE evs (goB ds q))) := HST
              clear HST
              have L2 := hI.new (dO 3 x1 x2 x3)
              have K2 : Keep wr (wr.alloc (dO 3 x1 x2 x3)) := (Keep.refl wr).alloc _
              have R3 := R2.keep K2
              go_wp2_with fail
              refine (goesOn_any _ _ _ R3 q hlq (by omega)).mono ?_
              rintro e w3 ⟨rfl, k3⟩
              have L3 := L2.more k3
              go_wp2_with fail
              refine (nextClass_any _ _ _ L3.app.rd (by omega) hv1 _).mono ?_
              generalize goB ds q = go at HS
              generalize hcl : ncE evs go = cl at HS
              clear hcl
              rintro e w4 ⟨rfl, k4⟩
              have L4 := L3.more k4
              have z7 := L4.lt (n := wr.heap.size) (o := dO 3 x1 x2 x3) (by simp)
              have s0 : w4.cell? ⟨wr.heap.size, 0, none⟩ = some (.int .i64 3) := L4.cell (n := wr.heap.size) (cs := #[.int .i64 3, .int .i64 x1, .int .i64 x2, .int .i64 x3]) (t := 51) (by simp) 0
              have s1 : w4.cell? ⟨wr.heap.size, 1, none⟩ = some (.int .i64 x1) := L4.cell (n := wr.heap.size) (cs := #[.int .i64 3, .int .i64 x1, .int .i64 x2, .int .i64 x3]) (t := 51) (by simp) 1
              have s2 : w4.cell? ⟨wr.heap.size, 2, none⟩ = some (.int .i64 x2) := L4.cell (n := wr.heap.size) (cs := #[.int .i64 3, .int .i64 x1, .int .i64 x2, .int .i64 x3]) (t := 51) (by simp) 2
              have s3 : w4.cell? ⟨wr.heap.size, 3, none⟩ = some (.int .i64 x3) := L4.cell (n := wr.heap.size) (cs := #[.int .i64 3, .int .i64 x1, .int .i64 x2, .int .i64 x3]) (t := 51) (by simp) 3
              clear A0 A1 A2 A3 c5 L2 L3 R3 K2
              go_wp2_with fail
              refine (shapes_sw _ _ _ _).mono ?_
              rintro e w5 ⟨B, rfl, hB, hBl, k5⟩
              have L5 := L4.later k5 hBl hB
              clear L4 s0 s1 s2 s3 z7 hI
              have z8 := L5.lt (n := B) (o := .cells #[rdV x1, wrV x1 x2] 124) (by simp)
              have c6 : w5.cell? ⟨B, 0, none⟩ = some (rdV x1) := L5.cell (n := B) (cs := #[rdV x1, wrV x1 x2]) (t := 124) (by simp) 0
              have c7 : w5.cell? ⟨B, 1, none⟩ = some (wrV x1 x2) := L5.cell (n := B) (cs := #[rdV x1, wrV x1 x2]) (t := 124) (by simp) 1
              go_wp2
              refine wp_loop_rounds 3 ?_
              rw [rounds_succ]
              go_wp2_with fail
              refine (eventOf_rd _ _).mono ?_
              rintro e wa0 ⟨rfl, ka0⟩
              have La0 := L5.more ka0
              have Lb0 := (La0.more ((Keep.refl wa0).alloc (eO k q true x1 0 cl))).more ((Keep.refl _).alloc (eO k q true x1 0 cl))
              have hs0 : w0.heap.size ≤ wa0.heap.size := La0.keep.size
              go_wp2_with (at_builtin; refine wpList_append_own_at _ rfl _ _ 69 rfl w0.heap.size 89 j0 (.agg #[.int .i64 0, .int .i64 0, .bool false, .int .i64 0, .int .i64 0, .int .i64 0]) 6 48 Tryz.underlying69 hj hy0 hy1 hy2 rfl (by decide) _ _ _ rfl Lb0.app ⟨_, 0, none⟩ 1 1 (cE ((k : Int), (q : Int), true, x1, 0, cl)) rfl rfl ?c1_0 ?c2_0 ?c3_0 ?c4_0 ?c5_0 ?_)
              case c1_0 => exact cE_newP _ _ (heap_size _ _) _ _ _ _ _ _
              case c2_0 => exact cE_oneP _
              case c3_0 => unfold maxLen; first | omega | (simp; omega)
              case c4_0 => first | omega | (simp; omega)
              case c5_0 => first | omega | (simp; omega)
              intro v0' wb0 hown' hgrow _ hblk
              have Lc0 := Lb0.hit _ hown' hgrow (by rw [heap_size, heap_size]; exact hblk)
              clear hgrow hown' hblk Lb0 La0 L5
              obtain ⟨ev1, hev1⟩ : ∃ ev1, ev1 = evs ++ [((k : Int), (q : Int), true, x1, 0, cl)] := ⟨_, rfl⟩
              rw [← hev1] at Lc0
              have HV1 := Lib.hid hev1
              have hl1 : ev1.length ≤ evs.length + 1 := by rw [hev1]; simp
              clear hev1
              clear c6 c7 z8
              have z8 := Lc0.lt (n := B) (o := .cells #[rdV x1, wrV x1 x2] 124) (by simp)
              have c7 : wb0.cell? ⟨B, 1, none⟩ = some (wrV x1 x2) := Lc0.cell (n := B) (cs := #[rdV x1, wrV x1 x2]) (t := 124) (by simp) 1
              go_wp2
              rw [rounds_succ]
              go_wp2_with fail
              refine (eventOf_wr _ _ _).mono ?_
              rintro e wa1 ⟨rfl, ka1⟩
              have La1 := Lc0.more ka1
              have Lb1 := (La1.more ((Keep.refl wa1).alloc (eO k q false x1 x2 cl))).more ((Keep.refl _).alloc (eO k q false x1 x2 cl))
              have hs1 : w0.heap.size ≤ wa1.heap.size := La1.keep.size
              go_wp2_with (at_builtin; refine wpList_append_own_at _ rfl _ _ 69 rfl w0.heap.size 89 j0 (.agg #[.int .i64 0, .int .i64 0, .bool false, .int .i64 0, .int .i64 0, .int .i64 0]) 6 48 Tryz.underlying69 hj hy0 hy1 hy2 rfl (by decide) _ _ _ rfl Lb1.app ⟨_, 0, none⟩ 1 1 (cE ((k : Int), (q : Int), false, x1, x2, cl)) rfl rfl ?c1_1 ?c2_1 ?c3_1 ?c4_1 ?c5_1 ?_)
              case c1_1 => exact cE_newP _ _ (heap_size _ _) _ _ _ _ _ _
              case c2_1 => exact cE_oneP _
              case c3_1 => unfold maxLen; first | omega | (simp; omega)
              case c4_1 => first | omega | (simp; omega)
              case c5_1 => first | omega | (simp; omega)
              intro v1' wb1 hown' hgrow _ hblk
              have Lc1 := Lb1.hit _ hown' hgrow (by rw [heap_size, heap_size]; exact hblk)
              clear hgrow hown' hblk Lb1 La1 Lc0
              go_wp2
              rw [rounds_succ]
              go_wp2
              go_roundw
              case rel => exact ⟨q + 1, _, by omega, by go_num, Lib.hid (by rw [HS.out, HV1.out]; simp [oneE]), by first | omega | (simp <;> omega), by first | omega | (simp <;> omega), Lc1.less (fun y hy => by simp only [List.mem_cons, List.not_mem_nil, or_false] at hy ⊢; rcases hy with rfl | rfl <;> simp)⟩
              case measure => simp [intOf]; omega
            · have HS : Hid (clkP k ds es (q + 1) = evs ++ oneE k q (4, x1, x2, x3) (ncE evs (goB ds q))) := HST
              clear HST
              have L2 := hI.new (dO 4 x1 x2 x3)
              have K2 : Keep wr (wr.alloc (dO 4 x1 x2 x3)) := (Keep.refl wr).alloc _
              have R3 := R2.keep K2
              go_wp2_with fail
              refine (goesOn_any _ _ _ R3 q hlq (by omega)).mono ?_
              rintro e w3 ⟨rfl, k3⟩
              have L3 := L2.more k3
              go_wp2_with fail
              refine (nextClass_any _ _ _ L3.app.rd (by omega) hv1 _).mono ?_
              generalize goB ds q = go at HS
              generalize hcl : ncE evs go = cl at HS
              clear hcl
              rintro e w4 ⟨rfl, k4⟩
              have L4 := L3.more k4
              have z7 := L4.lt (n := wr.heap.size) (o := dO 4 x1 x2 x3) (by simp)
              have s0 : w4.cell? ⟨wr.heap.size, 0, none⟩ = some (.int .i64 4) := L4.cell (n := wr.heap.size) (cs := #[.int .i64 4, .int .i64 x1, .int .i64 x2, .int .i64 x3]) (t := 51) (by simp) 0
              have s1 : w4.cell? ⟨wr.heap.size, 1, none⟩ = some (.int .i64 x1) := L4.cell (n := wr.heap.size) (cs := #[.int .i64 4, .int .i64 x1, .int .i64 x2, .int .i64 x3]) (t := 51) (by simp) 1
              have s2 : w4.cell? ⟨wr.heap.size, 2, none⟩ = some (.int .i64 x2) := L4.cell (n := wr.heap.size) (cs := #[.int .i64 4, .int .i64 x1, .int .i64 x2, .int .i64 x3]) (t := 51) (by simp) 2
              have s3 : w4.cell? ⟨wr.heap.size, 3, none⟩ = some (.int .i64 x3) := L4.cell (n := wr.heap.size) (cs := #[.int .i64 4, .int .i64 x1, .int .i64 x2, .int .i64 x3]) (t := 51) (by simp) 3
              clear A0 A1 A2 A3 c5 L2 L3 R3 K2
              go_wp2_with fail
              refine (shapes_wa _ _ _ _).mono ?_
              rintro e w5 ⟨B, rfl, hB, hBl, k5⟩
              have L5 := L4.later k5 hBl hB
              clear L4 s0 s1 s2 s3 z7 hI
              have z8 := L5.lt (n := B) (o := .cells #[] 124) (by simp)
              go_wp2
              refine wp_loop_rounds 1 ?_
              rw [rounds_succ]
              go_wp2
              go_roundw
              case rel => exact ⟨q + 1, _, by omega, by go_num, Lib.hid (by rw [HS.out]; simp [oneE]), by first | omega | (simp <;> omega), by first | omega | (simp <;> omega), L5.less (fun y hy => by simp only [List.mem_cons, List.not_mem_nil, or_false] at hy ⊢; rcases hy with rfl | rfl <;> simp)⟩
              case measure => simp [intOf]; omega
          · obtain rfl : q = ds.length := by omega
            go_wp2
            go_roundw
            case rel => exact ⟨k + 1, evs, by omega, by go_num, Lib.hid (by rw [HV.out]; exact hC.out), hv1, by omega, hI.less (fun y hy => by simp only [List.mem_cons, List.not_mem_nil, or_false] at hy ⊢; subst hy; simp)⟩
            case measure => simp [intOf]; omega
      · obtain rfl : k = dss.length := by omega
        go_wp2
        go_ret
        exact ⟨_, rfl, by rw [HE.out, ← hE.out]; exact app_base hL.app hsz0, k0.trans hL.keep⟩
def nbA (k : Nat) : Bd := ⟨List.replicate k 0, (List.range k).map (fun (i : Nat) => (i : Int)), [], [], [], [], (List.range k).map (fun (i : Nat) => [(i : Int)])⟩
def nbB (k : Nat) : Bd := ⟨[0, 0, 0], [0, 1, 2], List.replicate k [], List.replicate k 0, [], [], [[0], [1], [2]]⟩
def nbC (n k : Nat) : Bd := ⟨[0, 0, 0], [0, 1, 2], List.replicate n [], List.replicate n 0, List.replicate k (-1), List.replicate k (-1), [[0], [1], [2]]⟩
theorem nbA_more (k : Nat) : nbA (k + 1) = { { { nbA k with plc := (nbA k).plc ++ [0] } with lst := (nbA k).lst ++ [(k : Int)] } with rws := (nbA k).rws ++ [[(k : Int)]] } := by
  unfold nbA
  simp only [List.range_succ, List.map_append, List.map_cons, List.map_nil, List.replicate_succ']
theorem nbB_more (k : Nat) : nbB (k + 1) = { { nbB k with nts := (nbB k).nts ++ [[]] } with nxt := (nbB k).nxt ++ [0] } := by
  unfold nbB
  simp only [List.replicate_succ']
theorem nbC_more (n k : Nat) : nbC n (k + 1) = { { nbC n k with sn := (nbC n k).sn ++ [-1] } with fr := (nbC n k).fr ++ [-1] } := by
  unfold nbC
  simp only [List.replicate_succ']
theorem rd_one (w : World) (x : Int) : Rd (w.alloc (.cells #[.int .i64 x] 2)) (.slice (some ⟨w.heap.size, 0, none⟩) 1 1) [x] :=
  ⟨_, 1, rfl, .inr ⟨w.heap.size, 0, rfl, by rw [heap_size]; omega, fun i hi => by
    obtain rfl : i = 0 := by simpa using hi
    rw [cell_of_row _ _ _ _ _ _ (heap_alloc_new w _)]; rfl⟩⟩
theorem newBoard_yes (w : World) (v : Value) (dss : List (List Dd)) (h : RdW w v dss) (hb : workB dss = true) (hx : dss.length ≤ 1048576) (hm : ∀ i, i < dss.length → (dss.getD i []).length ≤ 1048576) :
    Calls Tryz.prog 35 #[v] w fun e w' => ∃ bv nv rv wv, e = .returned (BV.agg bv) ∧ OwnA w' w.heap.size bv nv rv wv dss (newM dss) ∧ Keep w w' := by
  have CW := fun (W : World) (kW : Keep w W) => implWorkOk_any W _ dss (h.keep kW) hx hm
  have CC := fun (W : World) (kW : Keep w W) => copiedWork_any W _ dss (h.keep kW) hx hm
  have CE := fun (W : World) (kW : Keep w W) => implEventsOf_any W _ dss (h.keep kW) hx hm
  rw [hb] at CW
  have u1 := (workB_useR hb).1
  obtain ⟨aD, cDd, rfl, -⟩ := id h
  clear h hm hb
  obtain ⟨ng0, ngi, ngz0, ngz1, ngz2⟩ := info_parts Tryz.infoNl
  obtain ⟨ig0, igi, igz0, igz1, igz2⟩ := info_parts Tryz.infoIl
  obtain ⟨w1, hw1⟩ : ∃ W : World, W = w.alloc (.cells #[nilS, nilS, nilS, nilS, nilS, nilS, nilS, nilS] 30) := ⟨_, rfl⟩
  have K1 : Keep w w1 := by rw [hw1]; exact (Keep.refl w).alloc _
  have s1 : w1.heap.size = w.heap.size + 1 := by rw [hw1, heap_size]
  have hR1 : w1.heap[w.heap.size]? = some (.cells #[nilS, nilS, nilS, nilS, nilS, nilS, nilS, nilS] 30 (0, 0)) := by rw [hw1]; exact heap_alloc_new _ _
  go_enter Tryz.func35, Tryz.ntmps35
  go_upto_region 1 with fail
  rw [← hw1]
  clear hw1
  go_wp2_with fail
  refine (CW _ K1).mono ?_
  rintro e w2 ⟨rfl, k2⟩
  go_wp2_with fail
  refine (must_yes _).mono ?_
  rintro e w2 ⟨rfl, rfl⟩
  have K2 := K1.trans k2
  go_wp2_with fail
  refine (CC _ K2).mono ?_
  rintro e w3 ⟨v3, V, rfl, X3, k3⟩
  have s2 := k2.size
  have s3 := k3.size
  have LW3 := X3.ownLW
  have O3 := (ownVal_zero X3.rdX.upto (Nat.le_refl _) w1.heap.size).box (by omega)
  obtain ⟨a3, c3, hv3, -⟩ := id X3.rdW
  subst hv3
  obtain ⟨w4, hw4⟩ : ∃ W : World, W = w3.alloc (.cells #[.slice a3 dss.length c3, nilS, nilS, nilS, nilS, nilS, nilS, nilS] 30) := ⟨_, rfl⟩
  have k4 : Keep w3 w4 := by rw [hw4]; exact (Keep.refl w3).alloc _
  have s4 : w4.heap.size = w3.heap.size + 1 := by rw [hw4, heap_size]
  replace O3 : OwnBd w4 w1.heap.size w3.heap.size ⟨.slice a3 dss.length c3, nilS, nilS, nilS, nilS, nilS, nilS, nilS⟩ [] [] w2.heap.size w3.heap.size dss ⟨[], [], [], [], [], [], []⟩ := by rw [hw4]; exact O3
  clear X3
  go_upto_region 3 with fail
  rw [← hw4]
  clear hw4
  go_wp2_with fail
  refine (beginnings_any w4).mono ?_
  rintro e w5 ⟨v5, rfl, A5, k5⟩
  have s5 := k5.size
  have N5 := NB.start (O3.keep k5)
  have LW5 := Lib.hid (LW3.keep (k4.trans k5))
  have hR5 := Lib.hid ((Below.block ((k2.trans k3).trans (k4.trans k5)) w.heap.size (by omega)).trans hR1)
  have K5 := K2.trans (k3.trans (k4.trans k5))
  have hD : w1.heap.size ≤ w3.heap.size ∧ w3.heap.size < w4.heap.size := by omega
  have hbs : w1.heap.size ≤ w2.heap.size := s2
  have hD5 : w3.heap.size < w5.heap.size := by omega
  obtain ⟨ae, ce, hv5, -⟩ := id A5.rd
  rw [show evBeg.length = 3 from rfl] at hv5
  subst hv5
  clear LW3 O3 CW CC hR1 k2 k3 k4 k5 K1 K2
  have hmw : w.heap.size < w1.heap.size := by omega
  clear s1 s4 s3 s2 s5
  generalize w1.heap.size = m at *
  generalize w2.heap.size = bs at *
  generalize w3.heap.size = D at *
  go_wp2
  go_loopw [4, 14] (fun _ i wr => ∃ (k : Nat) (bv : BV) (rv : List Value), k ≤ 3 ∧ i = .int .i64 k ∧ Hid (bv.W = .slice a3 dss.length c3) ∧ NB w5 wr m D bv [] rv bs D dss (nbA k)) (fun _ i _ => 3 - (intOf i).toNat)
  case atStart => exact ⟨0, _, [], Nat.zero_le _, rfl, Lib.hid rfl, N5⟩
  case round =>
    obtain ⟨k, bv, rv, hk, rfl, hW, NR⟩ := hrel
    by_cases hlt : k < 3
    · have A5r : AppE wr w4.heap.size (.slice ae 3 (3 + ce)) evBeg := World.ownsRow.kept A5 NR.sm (ne_of_ge (fun q hq => (World.ownsRow.lt A5 q hq).1) hD.2)
      obtain ⟨a', c', he', hE⟩ := A5r.rd
      rw [show evBeg.length = 3 from rfl] at he'
      simp only [Value.slice.injEq, true_and] at he'
      obtain ⟨rfl, hce⟩ := he'
      rcases hE with h0 | ⟨bq, oq, rfl, hbq, hcq⟩
      · exact absurd h0 (by simp [evBeg])
      have hev : evBeg[k]? = some ((-1 : Int), (-1 : Int), false, (k : Int), (0 : Int), (k : Int)) := by
        have : k = 0 ∨ k = 1 ∨ k = 2 := by omega
        rcases this with rfl | rfl | rfl <;> rfl
      obtain ⟨q0, q1, q2, q3, q4, q5⟩ := atE (hcq k _ hev)
      have i1 : (0 : Int) ≤ (k : Int) := Int.natCast_nonneg _
      have i2 : (k : Int) < 3 := by omega
      obtain ⟨w6, hw6⟩ : ∃ W : World, W = wr.alloc (eO (-1) (-1) false k 0 k) := ⟨_, rfl⟩
      have k6 : Keep wr w6 := by rw [hw6]; exact (Keep.refl wr).alloc _
      have f4 : w6.cell? ⟨wr.heap.size, 4, none⟩ = some (.int .i64 0) := by rw [hw6, cell_of_row _ _ 4 _ _ _ (heap_alloc_new wr _)]; rfl
      have N6 := NR.keep k6
      clear hcq A5r NR hev hce k6
      go_upto_region 6 with fail
      rw [← hw6]
      clear hw6 q0 q1 q2 q3 q4 q5
      have Aa := N6.keep ((Keep.refl w6).alloc (.cells #[.int .i64 (0 : Int)] 2))
      obtain ⟨za0, za1, za2, za3, za4, za5, za6, za7⟩ := N6.ob.cells
      go_wp2_with (at_builtin; refine wpList_append_rd rfl _ _ rfl m _ _ rfl Aa.ob.oP _ rfl [(0 : Int)] (rd_one w6 (0 : Int)) (by unfold nbA; simp; omega) (by simp) (Nat.le_of_lt (Nat.lt_of_le_of_lt Aa.ob.base.1 Aa.ob.base.2)) ?_)
      intro ua xa Oa Ga Ba
      obtain ⟨la, HZa⟩ : ∃ l, Hid (l = (nbA k).plc ++ [(0 : Int)]) := ⟨_, Lib.hid rfl⟩
      replace Oa : Own xa m ua ((nbA k).plc ++ [(0 : Int)]) := Oa
      rw [← HZa.out] at Oa
      obtain ⟨Na, Ca, Fa⟩ := Aa.growP Ga (by rw [heap_size]; exact Ba) Oa
      obtain ⟨aua, cua, hua, -⟩ := id Oa.rd
      subst hua
      clear za0 za1 za2 za3 za4 za5 za6 za7 Aa N6 Oa Ga Ba
      go_upto_region 7 with fail
      generalize xa.setCell ⟨D, 1, none⟩ (.slice aua la.length cua) = ya at *
      clear Ca Fa
      have Ab := Na.keep ((Keep.refl ya).alloc (.cells #[.int .i64 (k : Int)] 2))
      obtain ⟨zb0, zb1, zb2, zb3, zb4, zb5, zb6, zb7⟩ := Na.ob.cells
      go_wp2_with (at_builtin; refine wpList_append_rd rfl _ _ rfl m _ _ rfl Ab.ob.oL _ rfl [(k : Int)] (rd_one ya (k : Int)) (by unfold nbA; simp; omega) (by simp) (Nat.le_of_lt (Nat.lt_of_le_of_lt Ab.ob.base.1 Ab.ob.base.2)) ?_)
      intro ub xb Ob Gb Bb
      obtain ⟨lb, HZb⟩ : ∃ l, Hid (l = (nbA k).lst ++ [(k : Int)]) := ⟨_, Lib.hid rfl⟩
      replace Ob : Own xb m ub ((nbA k).lst ++ [(k : Int)]) := Ob
      rw [← HZb.out] at Ob
      obtain ⟨Nb, Cb, Fb⟩ := Ab.growL Gb (by rw [heap_size]; exact Bb) Ob
      obtain ⟨aub, cub, hub, -⟩ := id Ob.rd
      subst hub
      clear zb0 zb1 zb2 zb3 zb4 zb5 zb6 zb7 Ab Na Ob Gb Bb
      go_upto_region 8 with fail
      generalize xb.setCell ⟨D, 2, none⟩ (.slice aub lb.length cub) = yb at *
      clear Cb Fb
      obtain ⟨zc0, zc1, zc2, zc3, zc4, zc5, zc6, zc7⟩ := Nb.ob.cells
      have kca : Keep yb (yb.alloc (.cells #[.int .i64 (k : Int)] 2)) := (Keep.refl yb).alloc _
      have kcb : Keep (yb.alloc (.cells #[.int .i64 (k : Int)] 2)) ((yb.alloc (.cells #[.int .i64 (k : Int)] 2)).alloc (.cells #[(Value.slice (some ⟨yb.heap.size, 0, none⟩) 1 1)] 26)) := (Keep.refl _).alloc _
      have kc := kca.trans kcb
      have hmc : m ≤ yb.heap.size := Nat.le_of_lt (Nat.lt_of_le_of_lt Nb.ob.base.1 Nb.ob.base.2)
      have oca : Own (yb.alloc (.cells #[.int .i64 (k : Int)] 2)) m (.slice (some ⟨yb.heap.size, 0, none⟩) 1 1) [(k : Int)] := World.ownsRow_lit yb #[.int .i64 (k : Int)] 1 hmc (by decide) rfl
      have oc := World.ownsRow.kept oca kcb.grownBy (by cases (Value.ownBlock (Value.slice (some ⟨yb.heap.size, 0, none⟩) 1 1)) <;> simp)
      have Rc : World.ownsRow _ m 26 1 bv.R rv.length rv := (Nb.keep kc).ob.fam.own .rws trivial
      have hnc : rv.length ≤ 3 := by rw [(Nb.ob).lr]; unfold nbA; simp; omega
      go_wp2_with (at_builtin; refine wpList_append_own_at _ rfl _ _ 28 rfl m 26 ig0 (.slice none 0 0) 1 24 Tryz.underlying28 igi igz0 igz1 igz2 rfl (by decide) _ _ _ rfl Rc ⟨_, 0, none⟩ 1 1 [(Value.slice (some ⟨yb.heap.size, 0, none⟩) 1 1)] rfl rfl (by intro j q hj; match j, hj with | 0, hj => (simp at hj; subst hj; simp [Addr.add])) (by intro q hq; simp at hq; subst hq; rfl) (by unfold maxLen; omega) (by omega) (by simp; omega) ?_)
      intro uc xc Pc Gc _ Bc
      obtain ⟨hc, HZc⟩ : ∃ l, Hid (l = rv ++ [(Value.slice (some ⟨yb.heap.size, 0, none⟩) 1 1)]) := ⟨_, Lib.hid rfl⟩
      have Qc : (hdR 26 (rv ++ [(Value.slice (some ⟨yb.heap.size, 0, none⟩) 1 1)]) uc).own xc m := by
        show xc.ownsRow m 26 1 uc (rv ++ [(Value.slice (some ⟨yb.heap.size, 0, none⟩) 1 1)]).length (rv ++ [(Value.slice (some ⟨yb.heap.size, 0, none⟩) 1 1)])
        rw [List.length_append]; exact Pc
      obtain ⟨Nc, Cc, Fc⟩ := Nb.pushR (u := (Value.slice (some ⟨yb.heap.size, 0, none⟩) 1 1)) kc (fun q hq => Nat.le_of_eq (Option.some.inj hq)) oc Gc (by rw [heap_size, heap_size]; exact Bc) Qc
      rw [← HZc.out] at Nc Qc
      obtain ⟨auc, cuc, huc, -⟩ := own_head Qc
      subst huc
      clear zc0 zc1 zc2 zc3 zc4 zc5 zc6 zc7 Nb Rc Pc Qc Gc Bc oc oca kc kca kcb hnc hmc
      go_upto_region 9 with fail
      generalize xc.setCell ⟨D, 7, none⟩ (.slice auc hc.length cuc) = yc at *
      clear Cc Fc
      obtain ⟨bz, hZ, NZ⟩ : ∃ bz : BV, Hid (bz.W = .slice a3 dss.length c3) ∧ NB w5 yc m D bz [] hc bs D dss (nbA (k + 1)) := by
        rw [nbA_more, ← HZa.out, ← HZb.out]
        refine ⟨_, ?_, Nc⟩
        exact hW
      clear Nc HZa HZb HZc
      go_wp2
      go_roundw
      case rel => exact ⟨k + 1, bz, hc, by omega, by go_num, hZ, NZ⟩
      case measure => simp [intOf]; omega
    obtain rfl : k = 3 := by omega
    have N7 : NB w5 wr m D bv [] rv bs D dss (nbB 0) := NR
    clear NR A5 hlt hk
    rw [show ((3 : Nat) : Int) = 3 from rfl]
    go_wp2
    obtain ⟨wo, rfl⟩ : ∃ wo : World, wo = wr := ⟨_, rfl⟩
    go_loopw [42] (fun i wr => ∃ (k : Nat) (bv : BV) (nv : List Value), k ≤ dss.length ∧ i = .int .i64 k ∧ Hid (bv.W = .slice a3 dss.length c3) ∧ NB w5 wr m D bv nv rv bs D dss (nbB k)) (fun i _ => dss.length - (intOf i).toNat)
    case atStart => exact ⟨0, bv, [], Nat.zero_le _, rfl, hW, N7⟩
    case round =>
      clear N7 hW
      obtain ⟨k, bv, nv, hk, rfl, hW, NR⟩ := hrel
      by_cases hlt : k < dss.length
      · have i1 : (0 : Int) ≤ (k : Int) := Int.natCast_nonneg _
        have i2 : (k : Int) < (dss.length : Int) := by omega
        obtain ⟨za0, za1, za2, za3, za4, za5, za6, za7⟩ := NR.ob.cells
        have kaa : Keep wr (wr.alloc (.cells #[] 44)) := (Keep.refl wr).alloc _
        have kab : Keep (wr.alloc (.cells #[] 44)) ((wr.alloc (.cells #[] 44)).alloc (.cells #[(Value.slice (some ⟨wr.heap.size, 0, none⟩) 0 0)] 42)) := (Keep.refl _).alloc _
        have ka := kaa.trans kab
        have hma : m ≤ wr.heap.size := Nat.le_of_lt (Nat.lt_of_le_of_lt NR.ob.base.1 NR.ob.base.2)
        have oaa : AppT cN 44 3 (wr.alloc (.cells #[] 44)) m (.slice (some ⟨wr.heap.size, 0, none⟩) 0 0) [] := World.ownsRow_lit wr #[] 0 hma (by decide) rfl
        have oa := World.ownsRow.kept oaa kab.grownBy (by cases (Value.ownBlock (Value.slice (some ⟨wr.heap.size, 0, none⟩) 0 0)) <;> simp)
        have Ra : World.ownsRow _ m 42 1 bv.N nv.length nv := (NR.keep ka).ob.fam.own .nts trivial
        have hna : nv.length ≤ 3 := by rw [(NR.ob).ln]; unfold nbB; simp; omega
        go_wp2_with (at_builtin; refine wpList_append_own_at _ rfl _ _ 27 rfl m 42 ng0 (.slice none 0 0) 1 24 Tryz.underlying27 ngi ngz0 ngz1 ngz2 rfl (by decide) _ _ _ rfl Ra ⟨_, 0, none⟩ 1 1 [(Value.slice (some ⟨wr.heap.size, 0, none⟩) 0 0)] rfl rfl (by intro j q hj; match j, hj with | 0, hj => (simp at hj; subst hj; simp [Addr.add])) (by intro q hq; simp at hq; subst hq; rfl) (by unfold maxLen; omega) (by omega) (by simp; omega) ?_)
        intro ua xa Pa Ga _ Ba
        obtain ⟨ha, HZa⟩ : ∃ l, Hid (l = nv ++ [(Value.slice (some ⟨wr.heap.size, 0, none⟩) 0 0)]) := ⟨_, Lib.hid rfl⟩
        have Qa : (hdR 42 (nv ++ [(Value.slice (some ⟨wr.heap.size, 0, none⟩) 0 0)]) ua).own xa m := by
          show xa.ownsRow m 42 1 ua (nv ++ [(Value.slice (some ⟨wr.heap.size, 0, none⟩) 0 0)]).length (nv ++ [(Value.slice (some ⟨wr.heap.size, 0, none⟩) 0 0)])
          rw [List.length_append]; exact Pa
        obtain ⟨Na, Ca, Fa⟩ := NR.pushN (u := (Value.slice (some ⟨wr.heap.size, 0, none⟩) 0 0)) ka (fun q hq => Nat.le_of_eq (Option.some.inj hq)) oa Ga (by rw [heap_size, heap_size]; exact Ba) Qa
        rw [← HZa.out] at Na Qa
        obtain ⟨aua, cua, hua, -⟩ := own_head Qa
        subst hua
        clear za0 za1 za2 za3 za4 za5 za6 za7 NR Ra Pa Qa Ga Ba oa oaa ka kaa kab hna hma
        go_upto_region 13 with fail
        generalize xa.setCell ⟨D, 3, none⟩ (.slice aua ha.length cua) = ya at *
        clear Ca Fa
        have Ab := Na.keep ((Keep.refl ya).alloc (.cells #[.int .i64 (0 : Int)] 2))
        obtain ⟨zb0, zb1, zb2, zb3, zb4, zb5, zb6, zb7⟩ := Na.ob.cells
        go_wp2_with (at_builtin; refine wpList_append_rd rfl _ _ rfl m _ _ rfl Ab.ob.oX _ rfl [(0 : Int)] (rd_one ya (0 : Int)) (by unfold nbB; simp; omega) (by simp) (Nat.le_of_lt (Nat.lt_of_le_of_lt Ab.ob.base.1 Ab.ob.base.2)) ?_)
        intro ub xb Ob Gb Bb
        obtain ⟨lb, HZb⟩ : ∃ l, Hid (l = (nbB k).nxt ++ [(0 : Int)]) := ⟨_, Lib.hid rfl⟩
        replace Ob : Own xb m ub ((nbB k).nxt ++ [(0 : Int)]) := Ob
        rw [← HZb.out] at Ob
        obtain ⟨Nb, Cb, Fb⟩ := Ab.growX Gb (by rw [heap_size]; exact Bb) Ob
        obtain ⟨aub, cub, hub, -⟩ := id Ob.rd
        subst hub
        clear zb0 zb1 zb2 zb3 zb4 zb5 zb6 zb7 Ab Na Ob Gb Bb
        go_upto_region 14 with fail
        generalize xb.setCell ⟨D, 4, none⟩ (.slice aub lb.length cub) = yb at *
        clear Cb Fb
        obtain ⟨bz, hZ, NZ⟩ : ∃ bz : BV, Hid (bz.W = .slice a3 dss.length c3) ∧ NB w5 yb m D bz ha rv bs D dss (nbB (k + 1)) := by
          rw [nbB_more, ← HZb.out]
          refine ⟨_, ?_, Nb⟩
          exact hW
        clear Nb HZa HZb
        go_wp2
        go_roundw
        case rel => exact ⟨k + 1, bz, ha, by omega, by go_num, hZ, NZ⟩
        case measure => simp [intOf]; omega
      have N8 : NB w5 wr m D bv nv rv bs D dss (nbC dss.length 0) := by
        rw [show k = dss.length by omega] at NR; exact NR
      have K8 : Keep w wr := K5.grown NR.sm (fun q hq => by have := Option.some.inj hq; omega)
      obtain rfl : k = dss.length := by omega
      clear NR hlt hk
      go_wp2_with fail
      refine (CE _ K8).mono ?_
      rintro e w9 ⟨v9, rfl, A9, k9⟩
      have N9 := N8.keep k9
      have CR := implReadsOf_any w9 _ _ A9.rd (by have := eventsB_len9 dss; omega)
      obtain ⟨a9, c9, hv9, -⟩ := id A9.rd
      subst hv9
      clear A9 N8
      go_wp2_with fail
      refine CR.mono ?_
      rintro e w10 ⟨v10, rfl, O10, k10⟩
      have N10 := N9.keep k10
      have HN : Hid (newM dss = nbC dss.length (idxB rdE (eventsB dss)).length) := Lib.hid rfl
      have ln := idxB_len rdE (eventsB dss)
      obtain ⟨a10, c10, hv10, -⟩ := id O10.rd
      subst hv10
      clear O10 N9 CR CE
      generalize (idxB rdE (eventsB dss)).length = R at *
      go_wp2
      go_loopw [60] (fun i wr => ∃ (k : Nat) (bv : BV), k ≤ R ∧ i = .int .i64 k ∧ Hid (bv.W = .slice a3 dss.length c3) ∧ NB w5 wr m D bv nv rv bs D dss (nbC dss.length k)) (fun i _ => R - (intOf i).toNat)
      case atStart => exact ⟨0, bv, Nat.zero_le _, rfl, hW, N10⟩
      case round =>
        clear N10 hW
        obtain ⟨k, bv, hk, rfl, hW, NR⟩ := hrel
        by_cases hlt : k < R
        · have i1 : (0 : Int) ≤ (k : Int) := Int.natCast_nonneg _
          have i2 : (k : Int) < (R : Int) := by omega
          have Aa := NR.keep ((Keep.refl wr).alloc (.cells #[.int .i64 (-1 : Int)] 2))
          obtain ⟨za0, za1, za2, za3, za4, za5, za6, za7⟩ := NR.ob.cells
          go_wp2_with (at_builtin; refine wpList_append_rd rfl _ _ rfl m _ _ rfl Aa.ob.oS _ rfl [(-1 : Int)] (rd_one wr (-1 : Int)) (by unfold nbC; simp; omega) (by simp) (Nat.le_of_lt (Nat.lt_of_le_of_lt Aa.ob.base.1 Aa.ob.base.2)) ?_)
          intro ua xa Oa Ga Ba
          obtain ⟨la, HZa⟩ : ∃ l, Hid (l = (nbC dss.length k).sn ++ [(-1 : Int)]) := ⟨_, Lib.hid rfl⟩
          replace Oa : Own xa m ua ((nbC dss.length k).sn ++ [(-1 : Int)]) := Oa
          rw [← HZa.out] at Oa
          obtain ⟨Na, Ca, Fa⟩ := Aa.growS Ga (by rw [heap_size]; exact Ba) Oa
          obtain ⟨aua, cua, hua, -⟩ := id Oa.rd
          subst hua
          clear za0 za1 za2 za3 za4 za5 za6 za7 Aa NR Oa Ga Ba
          go_upto_region 18 with fail
          generalize xa.setCell ⟨D, 5, none⟩ (.slice aua la.length cua) = ya at *
          clear Ca Fa
          have Ab := Na.keep ((Keep.refl ya).alloc (.cells #[.int .i64 (-1 : Int)] 2))
          obtain ⟨zb0, zb1, zb2, zb3, zb4, zb5, zb6, zb7⟩ := Na.ob.cells
          go_wp2_with (at_builtin; refine wpList_append_rd rfl _ _ rfl m _ _ rfl Ab.ob.oF _ rfl [(-1 : Int)] (rd_one ya (-1 : Int)) (by unfold nbC; simp; omega) (by simp) (Nat.le_of_lt (Nat.lt_of_le_of_lt Ab.ob.base.1 Ab.ob.base.2)) ?_)
          intro ub xb Ob Gb Bb
          obtain ⟨lb, HZb⟩ : ∃ l, Hid (l = (nbC dss.length k).fr ++ [(-1 : Int)]) := ⟨_, Lib.hid rfl⟩
          replace Ob : Own xb m ub ((nbC dss.length k).fr ++ [(-1 : Int)]) := Ob
          rw [← HZb.out] at Ob
          obtain ⟨Nb, Cb, Fb⟩ := Ab.growF Gb (by rw [heap_size]; exact Bb) Ob
          obtain ⟨aub, cub, hub, -⟩ := id Ob.rd
          subst hub
          clear zb0 zb1 zb2 zb3 zb4 zb5 zb6 zb7 Ab Na Ob Gb Bb
          go_upto_region 19 with fail
          generalize xb.setCell ⟨D, 6, none⟩ (.slice aub lb.length cub) = yb at *
          clear Cb Fb
          obtain ⟨bz, hZ, NZ⟩ : ∃ bz : BV, Hid (bz.W = .slice a3 dss.length c3) ∧ NB w5 yb m D bz nv rv bs D dss (nbC dss.length (k + 1)) := by
            rw [nbC_more, ← HZa.out, ← HZb.out]
            refine ⟨_, ?_, Nb⟩
            exact hW
          clear Nb HZa HZb
          go_wp2
          go_roundw
          case rel => exact ⟨k + 1, bz, by omega, by go_num, hZ, NZ⟩
          case measure => simp [intOf]; omega
        obtain rfl : k = R := by omega
        have KZ : Keep w wr := K5.grown NR.sm (fun q hq => by have := Option.some.inj hq; omega)
        have LZ := LW5.out.kept NR.sm NR.ob.nD
        rw [← hW.out] at LZ
        have OA := NR.ob.all LZ hbs
        have hRw := (NR.sm.block w.heap.size (by have := K5.size; omega) (fun e => by have := Option.some.inj e; omega)).trans hR5.out
        have hDw := NR.ob.heapD
        rw [← HN.out] at OA
        clear NR LZ
        obtain ⟨nb, hnb⟩ : ∃ nb, nb = newM dss := ⟨_, rfl⟩
        rw [← hnb] at OA
        have HNB := Lib.hid hnb
        clear hnb
        obtain ⟨vW, vP, vL, vN, vX, vS, vF, vR⟩ := bv
        obtain ⟨bW, bP, bL, bN, bX, bS, bF, bR, dW, dP, dL, dN, dX, dS, dF, dR, hsh⟩ := OA.rd.shapes
        injection hsh with e1 e2 e3 e4 e5 e6 e7 e8
        subst e1 e2 e3 e4 e5 e6 e7 e8
        have HG := Lib.hid (grown_row3 wr w.heap.size #[.slice bW dss.length dW, .slice bP nb.plc.length dP, .slice bL nb.lst.length dL, .slice bN nb.nts.length dN, .slice bX nb.nxt.length dX, .slice bS nb.sn.length dS, .slice bF nb.fr.length dF, .slice bR nb.rws.length dR])
        have HZ := Lib.hid (setRow_heap wr w.heap.size _ #[.slice bW dss.length dW, .slice bP nb.plc.length dP, .slice bL nb.lst.length dL, .slice bN nb.nts.length dN, .slice bX nb.nxt.length dX, .slice bS nb.sn.length dS, .slice bF nb.fr.length dF, .slice bR nb.rws.length dR] _ _ hRw)
        have HO := Lib.hid (OA.far HG.out hmw)
        have HK := Lib.hid (KZ.grown HG.out (fun q hq => Nat.le_of_eq (Option.some.inj hq)))
        simp only [BV.arr] at hDw
        clear OA KZ hD hD5 hbs LW5 hW hlt hk
        go_wp2_with (first | refine wpList_load_row rfl 30 _ rfl D rfl 30 _ (0, 0) _ hDw Tryz.underlying30 rfl board_info ?_ | refine wpList_store_row rfl 30 _ _ rfl w.heap.size _ rfl rfl 30 _ hRw board_info rfl (by simp [Value.oneCell']) ?_ | fail)
        refine bodyPost_ret (results_row (by rfl) _ _ w.heap.size _ _ (0, 0) _ rfl HZ.out Tryz.underlying30 rfl board_info) rfl ?_
        exact ⟨⟨.slice bW dss.length dW, .slice bP nb.plc.length dP, .slice bL nb.lst.length dL, .slice bN nb.nts.length dN, .slice bX nb.nxt.length dX, .slice bS nb.sn.length dS, .slice bF nb.fr.length dF, .slice bR nb.rws.length dR⟩, nv, rv, _, rfl, by rw [← HNB.out]; exact ⟨HO.out.fam.base_le2 (Nat.le_of_lt hmw), HO.out.ln, HO.out.lr, HO.out.lw⟩, HK.out⟩
theorem newBoard_no (w : World) (v : Value) (dss : List (List Dd)) (h : RdW w v dss) (hb : workB dss = false) (hx : dss.length ≤ 1048576) (hm : ∀ i, i < dss.length → (dss.getD i []).length ≤ 1048576) :
    Calls Tryz.prog 35 #[v] w fun e w' => e = PN ∧ Keep w w' := by
  have CW := fun (W : World) (kW : Keep w W) => implWorkOk_any W _ dss (h.keep kW) hx hm
  rw [hb] at CW
  obtain ⟨aD, cDd, rfl, -⟩ := id h
  clear h hm hb
  go_enter Tryz.func35, Tryz.ntmps35
  go_wp2_with fail
  refine (CW _ ((Keep.refl w).alloc _)).mono ?_
  rintro e w2 ⟨rfl, k2⟩
  go_wp2_with fail
  refine (must_no _).mono ?_
  rintro e w3 ⟨rfl, rfl⟩
  go_wp2
  exact ⟨rfl, rfl, ((Keep.refl w).alloc _).trans k2⟩
theorem nwb_idle (p0 p1 : Addr) (w : World) : CallsD Tryz.prog 34 #[.pointer (some p0), .pointer (some p1)] .returning w fun e u' w' => e = .returned (.tuple #[]) ∧ u' = .returning ∧ w' = w := by
  refine callsD_of_wpS Tryz.func34 rfl fun c₀ cs hu => ?_
  apply wpS_seq
  apply wpS_region
  have hn : ∀ w : World, (binOp BinOp.neq 20 .nilIface .nilIface).run Tryz.prog w = .ok (.bool false) w := fun _ => by kernel_rfl
  simp [wpOpsS, go_sem, recoverD, hu, Tryz.ntmps34, Exit.thenS, hn]
  refine wpS_cond (t := false) (by simp [Act.eval, Array.replicate]) ?_
  simp only [Bool.false_eq_true, if_false]
  refine wpS_of_wp (wp_skip ?_)
  cases c₀
  simp_all [bodyPostS, results, Tryz.results34]
theorem nwb_hit (g g' : Nat) (hne : g' ≠ g) (w : World) (old : Array Value) (ho : old.size = 8) (x' : Value) (hg : w.heap[g]? = some (.cells old 30 (0, 0))) (hg' : w.heap[g']? = some (.cells #[x'] 4 (0, 0))) :
    CallsD Tryz.prog 34 #[.pointer (some ⟨g, 0, none⟩), .pointer (some ⟨g', 0, none⟩)] (.panicking [{ v := pnV, recovered := false }]) w fun e u' w' => e = .returned (.tuple #[]) ∧ u' = .panicking [{ v := pnV, recovered := true }] ∧ w' = (w.setRow g #[nilS, nilS, nilS, nilS, nilS, nilS, nilS, nilS]).setCell ⟨g', 0, none⟩ (.bool false) := by
  have hg2 : (w.setRow g #[nilS, nilS, nilS, nilS, nilS, nilS, nilS, nilS]).heap[g']? = some (.cells #[x'] 4 (0, 0)) := ((grown_row3 w g #[nilS, nilS, nilS, nilS, nilS, nilS, nilS, nilS]).block g' (Array.getElem?_eq_some_iff.1 hg').1 (fun e => hne (Option.some.inj e))).trans hg'
  have hc2 : (w.setRow g #[nilS, nilS, nilS, nilS, nilS, nilS, nilS, nilS]).cell? ⟨g', 0, none⟩ = some x' := by rw [cell_of_row _ g' 0 _ _ _ hg2]; rfl
  have hf2 : (w.setRow g #[nilS, nilS, nilS, nilS, nilS, nilS, nilS, nilS]).frozen? ⟨g', 0, none⟩ = false := frozen_of_row _ g' 0 _ _ hg2
  have hv : ∀ w : World, (binOp BinOp.neq 20 pnV .nilIface).run Tryz.prog w = .ok (.bool true) w := fun _ => by kernel_rfl
  refine callsD_of_wpS Tryz.func34 rfl fun c₀ cs hu => ?_
  apply wpS_seq
  apply wpS_region
  simp [wpOpsS, go_sem, recoverD, hu, Tryz.ntmps34, Exit.thenS, hv]
  refine wpS_cond (t := true) (by simp [Act.eval, Array.replicate]) ?_
  simp only [if_true]
  refine wpS_of_wp ?_
  go_wp2_with (first | refine wpList_store_row rfl 30 _ _ rfl g _ rfl rfl 30 _ hg board_info ho (by simp [Value.oneCell']) ?_ | fail)
  cases c₀
  simp_all [bodyPostS, results, Tryz.results34]
theorem results_row_one {P : Program} {fn : Func} {p q : Tmp} {ty ty' : TypeId} (h : fn.results = #[.cell p ty, .cell q ty']) (tmps : Array Value) (w : World) (g g' : Nat) (t : TypeId) (cs : Array Value) (fr : Nat × Nat) (d : TypeDesc) {x : Value}
    (hp : tmps.getD p undef = .pointer (some ⟨g, 0, none⟩)) (hg : w.heap[g]? = some (.cells cs t fr)) (hq : tmps.getD q undef = .pointer (some ⟨g', 0, none⟩)) (hc : w.cell? ⟨g', 0, none⟩ = some x)
    (hu : P.underlying ty = some d) (hd : (match d with | .struct _ | .array _ _ => true | _ => false) = true) (hi : (P.info? ty).map (·.size) = some cs.size) (hagg : (isAgg ty').run P w = .ok false w) :
    (results fn tmps).run P w = .ok (.tuple #[.agg cs, x]) w := by
  have hp' : tmps[p]?.getD undef = .pointer (some ⟨g, 0, none⟩) := by simpa using hp
  have hq' : tmps[q]?.getD undef = .pointer (some ⟨g', 0, none⟩) := by simpa using hq
  have hl : (loadVar ty' ⟨g', 0, none⟩).run P w = .ok x w := by
    simp [Sem.run_bind, Result.andThen, loadVar, load, hagg]
    simp [Sem.run, hc]
  simp [results, h, hp', hq', asAddr, run_loadVar_row w g t ty cs fr d hg hu hd hi, hl]
theorem ownA_zero (w : World) (m : Nat) : OwnA w m bd0 [] [] [] [] zBd := by
  have hv : ∀ i, liveA [] [] [] i → (famA bd0 [] [] [] [] zBd i).v.ownBlock = none := fun i hi => by
    cases i with
    | wk => rfl
    | wd c => exact absurd (show c < 0 from hi) (by omega)
    | b i =>
      cases i with
      | bd => exact absurd rfl hi.2
      | nt c => exact absurd (show c < 0 from hi.1) (by omega)
      | rw c => exact absurd (show c < 0 from hi.1) (by omega)
      | _ => rfl
  refine ⟨⟨fun i hi => ?_, fun i j hi _ _ => .inl (hv i hi)⟩, rfl, rfl, rfl⟩
  cases i with
  | wk => exact ⟨rfl, .inl ⟨rfl, rfl⟩⟩
  | wd c => exact absurd (show c < 0 from hi) (by omega)
  | b i =>
    cases i with
    | bd => exact absurd rfl hi.2
    | nt c => exact absurd (show c < 0 from hi.1) (by omega)
    | rw c => exact absurd (show c < 0 from hi.1) (by omega)
    | _ => exact ⟨rfl, .inl ⟨rfl, rfl⟩⟩
theorem implNewBoard_any (w : World) (v : Value) (dss : List (List Dd)) (h : RdW w v dss) (hx : dss.length ≤ 1048576) (hm : ∀ i, i < dss.length → (dss.getD i []).length ≤ 1048576) :
    Calls Tryz.prog 8 #[v] w fun e w' => ∃ bv : BV, e = .returned (.tuple #[bv.agg, .bool (workB dss)]) ∧ FreeBd w' w.heap.size w'.heap.size bv (newD dss) (newB dss) ∧ Keep w w' := by
  have CN := fun (W : World) (kW : Keep w W) (e : workB dss = false) => newBoard_no W _ dss (h.keep kW) e hx hm
  have CY := fun (W : World) (kW : Keep w W) (e : workB dss = true) => newBoard_yes W _ dss (h.keep kW) e hx hm
  have HD : Hid (newD dss = if workB dss = true then dss else []) := Lib.hid rfl
  have HB : Hid (newB dss = if workB dss = true then newM dss else zBd) := Lib.hid rfl
  obtain ⟨aD, cDd, rfl, -⟩ := id h
  clear h hm
  have hmf : ∀ (fn : Fn) (first cap : Array Value) (w : World), (Instr.makeFunc fn first cap).run Tryz.prog w = .ok (.func fn first cap) w := fun _ _ _ _ => rfl
  obtain ⟨w1, hw1⟩ : ∃ W : World, W = ((w.alloc (.cells #[nilS, nilS, nilS, nilS, nilS, nilS, nilS, nilS] 30)).alloc (.cells #[.bool false] 4)) := ⟨_, rfl⟩
  have K1 : Keep w w1 := by rw [hw1]; exact ((Keep.refl w).alloc _).alloc _
  have s1 : w1.heap.size = w.heap.size + 2 := by rw [hw1, heap_size, heap_size]
  have hV1 : w1.heap[w.heap.size + 1]? = some (.cells #[.bool false] 4 (0, 0)) := by
    rw [hw1, heap_at, if_pos (by rw [heap_size])]
  have hR1 : w1.heap[w.heap.size]? = some (.cells #[nilS, nilS, nilS, nilS, nilS, nilS, nilS, nilS] 30 (0, 0)) := by rw [hw1]; exact (Below.block ((Keep.refl _).alloc _) _ (by rw [heap_size]; omega)).trans (heap_alloc_new _ _)
  go_enter_defers Tryz.func8, Tryz.ntmps8
  go_upto_region 2 with fail
  rw [← hw1]
  clear hw1
  cases hb : workB dss
  · have C := CN _ K1 hb
    have HDz : Hid (newD dss = []) := Lib.hid (by rw [HD.out, hb]; rfl)
    have HBz : Hid (newB dss = zBd) := Lib.hid (by rw [HB.out, hb]; rfl)
    clear CN CY HD HB
    go_wp2_with fail
    refine C.mono ?_
    rintro e w2 ⟨rfl, k2⟩
    have K2 := K1.trans k2
    have z2 := k2.size
    have hR2 := (Below.block k2 w.heap.size (by omega)).trans hR1
    have hV2 := (Below.block k2 (w.heap.size + 1) (by omega)).trans hV1
    have g3 := grown_row3 w2 w.heap.size #[nilS, nilS, nilS, nilS, nilS, nilS, nilS, nilS]
    have h3 := setRow_heap w2 w.heap.size _ #[nilS, nilS, nilS, nilS, nilS, nilS, nilS, nilS] _ _ hR2
    have v3 := (g3.block (w.heap.size + 1) (by omega) (fun e => by have := Option.some.inj e; omega)).trans hV2
    have v4 := heap_setCell_same _ (w.heap.size + 1) 0 _ _ (.bool false) v3
    have h4 := (heap_setCell_other (w2.setRow w.heap.size #[nilS, nilS, nilS, nilS, nilS, nilS, nilS, nilS]) ⟨w.heap.size + 1, 0, none⟩ w.heap.size (.bool false) (by show w.heap.size ≠ w.heap.size + 1; omega)).trans h3
    have g4 := grown_set (w2.setRow w.heap.size #[nilS, nilS, nilS, nilS, nilS, nilS, nilS, nilS]) (w.heap.size + 1) 0 (.bool false)
    have HR3 := Lib.hid h4
    have HC3 : Hid (((w2.setRow w.heap.size #[nilS, nilS, nilS, nilS, nilS, nilS, nilS, nilS]).setCell ⟨w.heap.size + 1, 0, none⟩ (.bool false)).cell? ⟨w.heap.size + 1, 0, none⟩ = some (.bool false)) := Lib.hid (by rw [cell_of_row _ _ 0 _ _ _ v4]; rfl)
    have KZ := Lib.hid ((K2.grown g3 (fun k hk => by have := Option.some.inj hk; omega)).grown g4 (fun k hk => by have := Option.some.inj hk; omega))
    have c3 : (w2.setRow w.heap.size #[nilS, nilS, nilS, nilS, nilS, nilS, nilS, nilS]).cell? ⟨w.heap.size + 1, 0, none⟩ = some (.bool false) := by rw [cell_of_row _ _ 0 _ _ _ v3]; rfl
    have f3 := frozen_of_row (w2.setRow w.heap.size #[nilS, nilS, nilS, nilS, nilS, nilS, nilS, nilS]) (w.heap.size + 1) 0 _ _ v3
    clear g3 h3 v3 v4 h4 g4 c3 f3 hR1 hV1
    go_wp2
    refine leaves_cons (f := 34) (args := #[.pointer (some ⟨w.heap.size, 0, none⟩), .pointer (some ⟨w.heap.size + 1, 0, none⟩)]) (by simp) (by simp [go_sem]) ?_
    refine (nwb_hit _ _ (by omega) _ _ rfl _ hR2 hV2).mono ?_
    rintro e u' w9 ⟨rfl, rfl, rfl⟩
    have hres := fun (tmps : Array Value) (h0 : tmps.getD 2 undef = .pointer (some ⟨w.heap.size, 0, none⟩)) (h1 : tmps.getD 3 undef = .pointer (some ⟨w.heap.size + 1, 0, none⟩)) => results_row_one (P := Tryz.prog) (fn := Tryz.f8) (by rfl) tmps _ w.heap.size (w.heap.size + 1) 30 _ (0, 0) _ h0 HR3.out h1 HC3.out Tryz.underlying30 rfl board_info (by kernel_rfl)
    show ∃ v, (results _ _).run Tryz.prog _ = .ok v _ ∧ _
    refine ⟨_, hres _ rfl rfl, ?_⟩
    exact ⟨bd0, by rw [hb], by rw [HDz.out, HBz.out]; exact (ownA_zero _ _).free, KZ.out⟩
  · have C := CY _ K1 hb
    have HDz : Hid (newD dss = dss) := Lib.hid (by rw [HD.out, hb]; rfl)
    have HBz : Hid (newB dss = newM dss) := Lib.hid (by rw [HB.out, hb]; rfl)
    clear CN CY HD HB
    go_wp2_with fail
    refine C.mono ?_
    rintro e w2 ⟨bv, nv, rv, wv, rfl, OA, k2⟩
    have K2 := K1.trans k2
    have z2 := k2.size
    have hR2 := (Below.block k2 w.heap.size (by omega)).trans hR1
    have hV2 := (Below.block k2 (w.heap.size + 1) (by omega)).trans hV1
    obtain ⟨nb, hnb⟩ : ∃ nb, nb = newM dss := ⟨_, rfl⟩
    rw [← hnb] at OA HBz
    clear hnb C
    obtain ⟨vW, vP, vL, vN, vX, vS, vF, vR⟩ := bv
    obtain ⟨bW, bP, bL, bN, bX, bS, bF, bR, dW, dP, dL, dN, dX, dS, dF, dR, hsh⟩ := OA.rd.shapes
    injection hsh with e1 e2 e3 e4 e5 e6 e7 e8
    subst e1 e2 e3 e4 e5 e6 e7 e8
    have g3 := grown_row3 w2 w.heap.size #[.slice bW dss.length dW, .slice bP nb.plc.length dP, .slice bL nb.lst.length dL, .slice bN nb.nts.length dN, .slice bX nb.nxt.length dX, .slice bS nb.sn.length dS, .slice bF nb.fr.length dF, .slice bR nb.rws.length dR]
    have h3 := setRow_heap w2 w.heap.size _ #[.slice bW dss.length dW, .slice bP nb.plc.length dP, .slice bL nb.lst.length dL, .slice bN nb.nts.length dN, .slice bX nb.nxt.length dX, .slice bS nb.sn.length dS, .slice bF nb.fr.length dF, .slice bR nb.rws.length dR] _ _ hR2
    have v3 := (g3.block (w.heap.size + 1) (by omega) (fun e => by have := Option.some.inj e; omega)).trans hV2
    have v4 := heap_setCell_same _ (w.heap.size + 1) 0 _ _ (.bool true) v3
    have h4 := (heap_setCell_other (w2.setRow w.heap.size #[.slice bW dss.length dW, .slice bP nb.plc.length dP, .slice bL nb.lst.length dL, .slice bN nb.nts.length dN, .slice bX nb.nxt.length dX, .slice bS nb.sn.length dS, .slice bF nb.fr.length dF, .slice bR nb.rws.length dR]) ⟨w.heap.size + 1, 0, none⟩ w.heap.size (.bool true) (by show w.heap.size ≠ w.heap.size + 1; omega)).trans h3
    have g4 := grown_set (w2.setRow w.heap.size #[.slice bW dss.length dW, .slice bP nb.plc.length dP, .slice bL nb.lst.length dL, .slice bN nb.nts.length dN, .slice bX nb.nxt.length dX, .slice bS nb.sn.length dS, .slice bF nb.fr.length dF, .slice bR nb.rws.length dR]) (w.heap.size + 1) 0 (.bool true)
    have HR3 := Lib.hid h4
    have HC3 : Hid (((w2.setRow w.heap.size #[.slice bW dss.length dW, .slice bP nb.plc.length dP, .slice bL nb.lst.length dL, .slice bN nb.nts.length dN, .slice bX nb.nxt.length dX, .slice bS nb.sn.length dS, .slice bF nb.fr.length dF, .slice bR nb.rws.length dR]).setCell ⟨w.heap.size + 1, 0, none⟩ (.bool true)).cell? ⟨w.heap.size + 1, 0, none⟩ = some (.bool true)) := Lib.hid (by rw [cell_of_row _ _ 0 _ _ _ v4]; rfl)
    have KZ := Lib.hid ((K2.grown g3 (fun k hk => by have := Option.some.inj hk; omega)).grown g4 (fun k hk => by have := Option.some.inj hk; omega))
    have c3 : (w2.setRow w.heap.size #[.slice bW dss.length dW, .slice bP nb.plc.length dP, .slice bL nb.lst.length dL, .slice bN nb.nts.length dN, .slice bX nb.nxt.length dX, .slice bS nb.sn.length dS, .slice bF nb.fr.length dF, .slice bR nb.rws.length dR]).cell? ⟨w.heap.size + 1, 0, none⟩ = some (.bool false) := by rw [cell_of_row _ _ 0 _ _ _ v3]; rfl
    have f3 := frozen_of_row (w2.setRow w.heap.size #[.slice bW dss.length dW, .slice bP nb.plc.length dP, .slice bL nb.lst.length dL, .slice bN nb.nts.length dN, .slice bX nb.nxt.length dX, .slice bS nb.sn.length dS, .slice bF nb.fr.length dF, .slice bR nb.rws.length dR]) (w.heap.size + 1) 0 _ _ v3
    have O4 := Lib.hid ((OA.far g3 (by omega)).far g4 (by omega))
    clear g3 h3 v3 v4 h4 g4 hR1 hV1 OA
    go_wp2_with (first | refine wpList_store_row rfl 30 _ _ rfl w.heap.size _ rfl rfl 30 _ hR2 board_info rfl (by simp [Value.oneCell']) ?_ | fail)
    refine leaves_cons (f := 34) (args := #[.pointer (some ⟨w.heap.size, 0, none⟩), .pointer (some ⟨w.heap.size + 1, 0, none⟩)]) (by simp) (by simp [go_sem]) ?_
    refine (nwb_idle _ _ _).mono ?_
    rintro e u' w9 ⟨rfl, rfl, rfl⟩
    have hres := fun (tmps : Array Value) (h0 : tmps.getD 2 undef = .pointer (some ⟨w.heap.size, 0, none⟩)) (h1 : tmps.getD 3 undef = .pointer (some ⟨w.heap.size + 1, 0, none⟩)) => results_row_one (P := Tryz.prog) (fn := Tryz.f8) (by rfl) tmps _ w.heap.size (w.heap.size + 1) 30 _ (0, 0) _ h0 HR3.out h1 HC3.out Tryz.underlying30 rfl board_info (by kernel_rfl)
    show ∃ v, (results _ _).run Tryz.prog _ = .ok v _ ∧ _
    refine ⟨_, hres _ rfl rfl, ?_⟩
    exact ⟨⟨_, _, _, _, _, _, _, _⟩, by rw [hb], by rw [HDz.out, HBz.out]; exact OwnA.free ⟨O4.out.fam.base_le2 (by omega), O4.out.ln, O4.out.lr, O4.out.lw⟩, KZ.out⟩
theorem mustStand_any (w : World) (v : BV) (dss : List (List Dd)) (b : Bd) (last : Int) (h : RdBd w v dss b) (hz : SzBd dss b) :
    Calls Tryz.prog 76 #[v.agg, .int .i64 last] w fun e w' => e = mustE (standP last b) ∧ Keep w w' := by
  obtain ⟨aW, aP, aL, aN, aX, aS, aF, aR, cW, cP, cL, cN, cX, cS, cF, cR, rfl⟩ := h.shapes
  have CP := fun (W : World) (kW : Keep w W) => mustNums_any W _ b.plc 3 0 9 (h.P.keep kW) hz.plc
  have CL := fun (W : World) (kW : Keep w W) => mustNums_any W _ b.lst 3 0 last (h.L.keep kW) hz.lst
  have HD : Hid (standP last b = (numP b.plc 3 0 9 && (numP b.lst 3 0 last && (decide (b.rws.length = 3) && b.rws.all (rowP last))))) := Lib.hid rfl
  have HR := Lib.hid h.R
  have HZ := Lib.hid hz.r2
  have hz1 := hz.r1
  have c1 : (w.alloc (.cells #[.slice aW dss.length cW, .slice aP b.plc.length cP, .slice aL b.lst.length cL, .slice aN b.nts.length cN, .slice aX b.nxt.length cX, .slice aS b.sn.length cS, .slice aF b.fr.length cF, .slice aR b.rws.length cR] 30)).cell? ⟨w.heap.size, 1, none⟩ = some (.slice aP b.plc.length cP) := box_cell (Keep.refl _) 1
  have c2 : (w.alloc (.cells #[.slice aW dss.length cW, .slice aP b.plc.length cP, .slice aL b.lst.length cL, .slice aN b.nts.length cN, .slice aX b.nxt.length cX, .slice aS b.sn.length cS, .slice aF b.fr.length cF, .slice aR b.rws.length cR] 30)).cell? ⟨w.heap.size, 2, none⟩ = some (.slice aL b.lst.length cL) := box_cell (Keep.refl _) 2
  have c7 : (w.alloc (.cells #[.slice aW dss.length cW, .slice aP b.plc.length cP, .slice aL b.lst.length cL, .slice aN b.nts.length cN, .slice aX b.nxt.length cX, .slice aS b.sn.length cS, .slice aF b.fr.length cF, .slice aR b.rws.length cR] 30)).cell? ⟨w.heap.size, 7, none⟩ = some (.slice aR b.rws.length cR) := box_cell (Keep.refl _) 7
  have KW : Keep w (w.alloc (.cells #[.slice aW dss.length cW, .slice aP b.plc.length cP, .slice aL b.lst.length cL, .slice aN b.nts.length cN, .slice aX b.nxt.length cX, .slice aS b.sn.length cS, .slice aF b.fr.length cF, .slice aR b.rws.length cR] 30)) := (Keep.refl w).alloc _
  clear h hz
  go_enter Tryz.func76, Tryz.ntmps76
  go_upto_region 1 with fail
  generalize (w.alloc (.cells #[.slice aW dss.length cW, .slice aP b.plc.length cP, .slice aL b.lst.length cL, .slice aN b.nts.length cN, .slice aX b.nxt.length cX, .slice aS b.sn.length cS, .slice aF b.fr.length cF, .slice aR b.rws.length cR] 30)) = w1 at *
  go_wp2_with fail
  refine (CP _ KW).mono ?_
  rintro e w2 ⟨rfl, rfl⟩
  cases hp : numP b.plc 3 0 9
  · have HE : Hid (standP last b = false) := Lib.hid (by rw [HD.out, hp]; rfl)
    rw [mustE_no rfl]
    go_wp2
    exact ⟨rfl, by rw [mustE_no HE.out], KW⟩
  rw [mustE_yes rfl]
  go_wp2_with fail
  refine (CL _ KW).mono ?_
  rintro e w2 ⟨rfl, rfl⟩
  cases hl : numP b.lst 3 0 last
  · have HE : Hid (standP last b = false) := Lib.hid (by rw [HD.out, hl]; simp)
    rw [mustE_no rfl]
    go_wp2
    exact ⟨rfl, by rw [mustE_no HE.out], KW⟩
  rw [mustE_yes rfl]
  go_wp2_with fail
  refine (must_any _ _).mono ?_
  rintro e w2 ⟨rfl, rfl⟩
  by_cases hr : b.rws.length = 3
  rotate_left
  · have HE : Hid (standP last b = false) := Lib.hid (by rw [HD.out, decide_eq_false hr]; simp)
    rw [mustE_no (by simp; omega)]
    go_wp2
    exact ⟨rfl, by rw [mustE_no HE.out], KW⟩
  have HT : Hid (standP last b = b.rws.all (rowP last)) := Lib.hid (by rw [HD.out, hp, hl, decide_eq_true hr]; rfl)
  rw [mustE_yes (by simp; omega)]
  clear HD hp hl hr CP CL
  go_wp2
  go_loopw [5, 21] (fun _ i wr => ∃ k : Nat, k ≤ b.rws.length ∧ i = .int .i64 k ∧ Hid (∀ j, j < k → rowP last (b.rws.getD j []) = true) ∧ wr = w2) (fun _ i _ => b.rws.length - (intOf i).toNat)
  case atStart => exact ⟨0, Nat.zero_le _, rfl, Lib.hid (fun j hj => absurd hj (Nat.not_lt_zero _)), rfl⟩
  case round =>
    obtain ⟨k, hk, rfl, hno, rfl⟩ := hrel
    by_cases hlt : k < b.rws.length
    · obtain ⟨a', c', he', hR⟩ := HR.out.keep KW
      simp only [Value.slice.injEq, true_and] at he'
      obtain ⟨rfl, rfl⟩ := he'
      rcases hR with h0 | ⟨br, or, rfl, hbr, hcr⟩
      · exfalso; rw [h0] at hlt; simp at hlt
      obtain ⟨vr, d, r⟩ := hcr k hlt
      have C := mustRow_any wr vr _ last r (HZ.out k hlt)
      have HF : rowP last (b.rws.getD k []) = false → Hid (standP last b = false) := fun e => Lib.hid (by rw [HT.out]; exact all_getD_false [] hlt e)
      have HN : rowP last (b.rws.getD k []) = true → Hid (∀ j, j < k + 1 → rowP last (b.rws.getD j []) = true) := fun hq => Lib.hid (fun j hj => by
        by_cases e : j = k
        · rw [e]; exact hq
        · exact hno.out j (by omega))
      clear hcr hno HT r
      have i1 : (0 : Int) ≤ (k : Int) := Int.natCast_nonneg _
      have i2 : (k : Int) < (b.rws.length : Int) := by omega
      generalize b.rws.getD k [] = row at *
      go_wp2_with fail
      refine C.mono ?_
      rintro e w3 ⟨rfl, rfl⟩
      cases hq : rowP last row
      · have HE := HF hq
        rw [mustE_no rfl]
        go_wp2
        exact ⟨rfl, by rw [mustE_no HE.out], KW⟩
      · have HE := HN hq
        rw [mustE_yes rfl]
        go_wp2
        go_roundw
        case rel => exact ⟨k + 1, by omega, rfl, HE, trivial⟩
        case measure => simp [intOf]; omega
    have HE : Hid (standP last b = true) := Lib.hid (by rw [HT.out]; exact all_getD_true [] (fun j hj => hno.out j (by omega)))
    obtain rfl : k = b.rws.length := by omega
    clear hno HT
    go_wp2
    go_end0
    exact ⟨by rw [mustE_yes HE.out], KW⟩
theorem mustClerks_any (w : World) (v : BV) (dss : List (List Dd)) (b : Bd) (last : Int) (h : RdBd w v dss b) (hz : SzBd dss b) :
    Calls Tryz.prog 77 #[v.agg, .int .i64 last] w fun e w' => e = mustE (clksP last dss b) ∧ Keep w w' := by
  obtain ⟨aW, aP, aL, aN, aX, aS, aF, aR, cW, cP, cL, cN, cX, cS, cF, cR, rfl⟩ := h.shapes
  have HD : Hid (clksP last dss b = (decide (b.nts.length = dss.length) && (decide (b.nxt.length = dss.length) && (List.range dss.length).all (ckP last dss b)))) := Lib.hid rfl
  have HH := Lib.hid h
  have HZ := Lib.hid hz
  have hz1 := hz.w1
  have c0 : (w.alloc (.cells #[.slice aW dss.length cW, .slice aP b.plc.length cP, .slice aL b.lst.length cL, .slice aN b.nts.length cN, .slice aX b.nxt.length cX, .slice aS b.sn.length cS, .slice aF b.fr.length cF, .slice aR b.rws.length cR] 30)).cell? ⟨w.heap.size, 0, none⟩ = some (.slice aW dss.length cW) := box_cell (Keep.refl _) 0
  have c3 : (w.alloc (.cells #[.slice aW dss.length cW, .slice aP b.plc.length cP, .slice aL b.lst.length cL, .slice aN b.nts.length cN, .slice aX b.nxt.length cX, .slice aS b.sn.length cS, .slice aF b.fr.length cF, .slice aR b.rws.length cR] 30)).cell? ⟨w.heap.size, 3, none⟩ = some (.slice aN b.nts.length cN) := box_cell (Keep.refl _) 3
  have c4 : (w.alloc (.cells #[.slice aW dss.length cW, .slice aP b.plc.length cP, .slice aL b.lst.length cL, .slice aN b.nts.length cN, .slice aX b.nxt.length cX, .slice aS b.sn.length cS, .slice aF b.fr.length cF, .slice aR b.rws.length cR] 30)).cell? ⟨w.heap.size, 4, none⟩ = some (.slice aX b.nxt.length cX) := box_cell (Keep.refl _) 4
  have KW : Keep w (w.alloc (.cells #[.slice aW dss.length cW, .slice aP b.plc.length cP, .slice aL b.lst.length cL, .slice aN b.nts.length cN, .slice aX b.nxt.length cX, .slice aS b.sn.length cS, .slice aF b.fr.length cF, .slice aR b.rws.length cR] 30)) := (Keep.refl w).alloc _
  have z1 : w.heap.size < (w.alloc (.cells #[.slice aW dss.length cW, .slice aP b.plc.length cP, .slice aL b.lst.length cL, .slice aN b.nts.length cN, .slice aX b.nxt.length cX, .slice aS b.sn.length cS, .slice aF b.fr.length cF, .slice aR b.rws.length cR] 30)).heap.size := by rw [heap_size]; omega
  clear h hz
  go_enter Tryz.func77, Tryz.ntmps77
  go_upto_region 1 with fail
  generalize (w.alloc (.cells #[.slice aW dss.length cW, .slice aP b.plc.length cP, .slice aL b.lst.length cL, .slice aN b.nts.length cN, .slice aX b.nxt.length cX, .slice aS b.sn.length cS, .slice aF b.fr.length cF, .slice aR b.rws.length cR] 30)) = w1 at *
  go_wp2_with fail
  refine (must_any _ _).mono ?_
  rintro e w2 ⟨rfl, rfl⟩
  by_cases hr : b.nts.length = dss.length
  rotate_left
  · have HE : Hid (clksP last dss b = false) := Lib.hid (by rw [HD.out, decide_eq_false hr]; rfl)
    rw [mustE_no (by simp; omega)]
    go_wp2
    exact ⟨rfl, by rw [mustE_no HE.out], KW⟩
  have HN := Lib.hid hr
  rw [mustE_yes (by simp; omega)]
  clear hr
  go_wp2_with fail
  refine (must_any _ _).mono ?_
  rintro e w2 ⟨rfl, rfl⟩
  by_cases hr : b.nxt.length = dss.length
  rotate_left
  · have HE : Hid (clksP last dss b = false) := Lib.hid (by rw [HD.out, decide_eq_false hr]; simp)
    rw [mustE_no (by simp; omega)]
    go_wp2
    exact ⟨rfl, by rw [mustE_no HE.out], KW⟩
  have HX := Lib.hid hr
  have HT : Hid (clksP last dss b = (List.range dss.length).all (ckP last dss b)) := Lib.hid (by rw [HD.out, decide_eq_true HX.out, decide_eq_true HN.out]; rfl)
  rw [mustE_yes (by simp; omega)]
  clear hr HD
  go_wp2
  go_loopw [4, 5, 25] (fun _ _ i wr => ∃ k : Nat, k ≤ dss.length ∧ i = .int .i64 k ∧ Hid (∀ j, j < k → ckP last dss b j = true) ∧ Keep w2 wr) (fun _ _ i _ => dss.length - (intOf i).toNat)
  case atStart => exact ⟨0, Nat.zero_le _, rfl, Lib.hid (fun j hj => absurd hj (Nat.not_lt_zero _)), Keep.refl _⟩
  case round =>
    obtain ⟨k, hk, rfl, hno, hK⟩ := hrel
    by_cases hlt : k < dss.length
    · have lN : k < b.nts.length := by rw [HN.out]; exact hlt
      have lX : k < b.nxt.length := by rw [HX.out]; exact hlt
      have K2 := KW.trans hK
      have e3 := (hK.cell z1).trans c3
      have e4 := (hK.cell z1).trans c4
      obtain ⟨a', c', he', hX⟩ := HH.out.X.keep K2
      simp only [Value.slice.injEq, true_and] at he'
      obtain ⟨rfl, rfl⟩ := he'
      rcases hX with h0 | ⟨bx, ox, rfl, hbx, hcx⟩
      · exfalso; rw [h0] at lX; simp at lX
      obtain ⟨a', c', he', hW⟩ := HH.out.W.keep K2
      simp only [Value.slice.injEq, true_and] at he'
      obtain ⟨rfl, rfl⟩ := he'
      rcases hW with h0 | ⟨bw, ow, rfl, hbw, hcw⟩
      · exfalso; rw [h0] at hlt; simp at hlt
      obtain ⟨a', c', he', hN⟩ := HH.out.N.keep K2
      simp only [Value.slice.injEq, true_and] at he'
      obtain ⟨rfl, rfl⟩ := he'
      rcases hN with h0 | ⟨bn, on, rfl, hbn, hcn⟩
      · exfalso; rw [h0] at lN; simp at lN
      have d1 := hcx k lX
      obtain ⟨vw, d2, r2⟩ := hcw k hlt
      obtain ⟨vn, d3, r3⟩ := hcn k lN
      have hz2 := HZ.out.w2 k hlt
      have C := mustNotes_any wr vn _ last r3 (HZ.out.n2 k lN)
      have HF : ckP last dss b k = false → Hid (clksP last dss b = false) := fun e => Lib.hid (by rw [HT.out]; exact all_range_false hlt e)
      have HM : ckP last dss b k = true → Hid (∀ j, j < k + 1 → ckP last dss b j = true) := fun hq => Lib.hid (fun j hj => by
        by_cases e : j = k
        · rw [e]; exact hq
        · exact hno.out j (by omega))
      have HC : Hid (ckP last dss b k = (inB (b.nxt.getD k 0) 0 ((dss.getD k []).length : Int) && ntsP last (b.nts.getD k []))) := Lib.hid rfl
      have i1 : (0 : Int) ≤ (k : Int) := Int.natCast_nonneg _
      have i2 : (k : Int) < (dss.length : Int) := by omega
      have i3 : (k : Int) < (b.nxt.length : Int) := by omega
      have i4 : (k : Int) < (b.nts.length : Int) := by omega
      clear hcx hcw hcn hno HT r3 HH HZ
      obtain ⟨aw, cw, rfl, -⟩ := r2
      generalize dss.getD k [] = ds at *
      generalize b.nxt.getD k 0 = x at *
      generalize b.nts.getD k [] = ns at *
      go_wp2_with fail
      refine (isFrom_any _ _ _ _).mono ?_
      rintro e w3 ⟨rfl, rfl⟩
      cases hi : inB x 0 (ds.length : Int)
      · have HE := HF (by rw [HC.out, hi]; rfl)
        go_wp2_with fail
        refine (must_no _).mono ?_
        rintro e w3 ⟨rfl, rfl⟩
        go_wp2
        exact ⟨rfl, by rw [mustE_no HE.out], K2⟩
      have HC2 : Hid (ckP last dss b k = ntsP last ns) := Lib.hid (by rw [HC.out, hi]; rfl)
      go_wp2_with fail
      refine (must_yes _).mono ?_
      rintro e w3 ⟨rfl, rfl⟩
      clear hi HC
      go_wp2_with fail
      refine C.mono ?_
      rintro e w4 ⟨rfl, k4⟩
      rw [← HC2.out]
      cases hq : ckP last dss b k
      · have HE := HF hq
        rw [mustE_no rfl]
        go_wp2
        exact ⟨rfl, by rw [mustE_no HE.out], K2.trans k4⟩
      · have HE := HM hq
        rw [mustE_yes rfl]
        clear HF HM HC2
        go_wp2
        go_roundw
        case rel => exact ⟨k + 1, by omega, rfl, HE, hK.trans k4⟩
        case measure => simp [intOf]; omega
    have HE : Hid (clksP last dss b = true) := Lib.hid (by rw [HT.out]; exact all_range_true (fun j hj => hno.out j (by omega)))
    obtain rfl : k = dss.length := by omega
    clear hno HT
    go_wp2
    go_end0
    exact ⟨by rw [mustE_yes HE.out], KW.trans hK⟩
theorem mustRight_any (w : World) (v : BV) (dss : List (List Dd)) (b : Bd) (h : RdBd w v dss b) (hz : SzBd dss b) :
    Calls Tryz.prog 40 #[v.agg] w fun e w' => e = mustE (boardB dss b) ∧ Keep w w' := by
  obtain ⟨aW, aP, aL, aN, aX, aS, aF, aR, cW, cP, cL, cN, cX, cS, cF, cR, rfl⟩ := h.shapes
  have HS : Hid (boardB dss b = boardP dss b) := Lib.hid (boardP_same dss b (idxB_len rdE (eventsB dss))).symm
  have HD : Hid (boardP dss b = (workB dss && (standP (((eventsB dss).length : Int) - 1) b && (clksP (((eventsB dss).length : Int) - 1) dss b && (numP b.sn (idxB rdE (eventsB dss)).length (-1) 9 && numP b.fr (idxB rdE (eventsB dss)).length (-1) (((eventsB dss).length : Int) - 1)))))) := Lib.hid rfl
  have CW := fun (W : World) (kW : Keep w W) => implWorkOk_any W _ dss (h.W.keep kW) hz.w1 hz.w2
  have CE := fun (W : World) (kW : Keep w W) => implEventsOf_any W _ dss (h.W.keep kW) hz.w1 hz.w2
  have CT := fun (W : World) (kW : Keep w W) => mustStand_any W _ dss b (((eventsB dss).length : Int) - 1) (h.keep kW) hz
  have CC := fun (W : World) (kW : Keep w W) => mustClerks_any W _ dss b (((eventsB dss).length : Int) - 1) (h.keep kW) hz
  have CS := fun (W : World) (kW : Keep w W) => mustNums_any W _ b.sn (idxB rdE (eventsB dss)).length (-1) 9 (h.S.keep kW) hz.sn
  have CF := fun (W : World) (kW : Keep w W) => mustNums_any W _ b.fr (idxB rdE (eventsB dss)).length (-1) (((eventsB dss).length : Int) - 1) (h.F.keep kW) hz.fr
  have le := eventsB_len9 dss
  have lr := idxB_len rdE (eventsB dss)
  have c0 : (w.alloc (.cells #[.slice aW dss.length cW, .slice aP b.plc.length cP, .slice aL b.lst.length cL, .slice aN b.nts.length cN, .slice aX b.nxt.length cX, .slice aS b.sn.length cS, .slice aF b.fr.length cF, .slice aR b.rws.length cR] 30)).cell? ⟨w.heap.size, 0, none⟩ = some (.slice aW dss.length cW) := box_cell (Keep.refl _) 0
  have hB1 : (w.alloc (.cells #[.slice aW dss.length cW, .slice aP b.plc.length cP, .slice aL b.lst.length cL, .slice aN b.nts.length cN, .slice aX b.nxt.length cX, .slice aS b.sn.length cS, .slice aF b.fr.length cF, .slice aR b.rws.length cR] 30)).heap[w.heap.size]? = some (.cells #[.slice aW dss.length cW, .slice aP b.plc.length cP, .slice aL b.lst.length cL, .slice aN b.nts.length cN, .slice aX b.nxt.length cX, .slice aS b.sn.length cS, .slice aF b.fr.length cF, .slice aR b.rws.length cR] 30 (0, 0)) := heap_alloc_new _ _
  have KW : Keep w (w.alloc (.cells #[.slice aW dss.length cW, .slice aP b.plc.length cP, .slice aL b.lst.length cL, .slice aN b.nts.length cN, .slice aX b.nxt.length cX, .slice aS b.sn.length cS, .slice aF b.fr.length cF, .slice aR b.rws.length cR] 30)) := (Keep.refl w).alloc _
  have z1 : w.heap.size < (w.alloc (.cells #[.slice aW dss.length cW, .slice aP b.plc.length cP, .slice aL b.lst.length cL, .slice aN b.nts.length cN, .slice aX b.nxt.length cX, .slice aS b.sn.length cS, .slice aF b.fr.length cF, .slice aR b.rws.length cR] 30)).heap.size := by rw [heap_size]; omega
  clear h hz
  go_enter Tryz.func40, Tryz.ntmps40
  go_upto_region 1 with fail
  generalize (w.alloc (.cells #[.slice aW dss.length cW, .slice aP b.plc.length cP, .slice aL b.lst.length cL, .slice aN b.nts.length cN, .slice aX b.nxt.length cX, .slice aS b.sn.length cS, .slice aF b.fr.length cF, .slice aR b.rws.length cR] 30)) = w1 at *
  go_wp2_with fail
  refine (CW _ KW).mono ?_
  rintro e w2 ⟨rfl, k2⟩
  have K2 := KW.trans k2
  have e0 := (k2.cell z1).trans c0
  go_wp2_with fail
  refine (must_any _ _).mono ?_
  rintro e w3 ⟨rfl, rfl⟩
  cases hw : workB dss
  · have HE : Hid (boardP dss b = false) := Lib.hid (by rw [HD.out, hw]; simp)
    rw [mustE_no rfl]
    go_wp2
    exact ⟨rfl, by rw [HS.out, mustE_no HE.out], K2⟩
  rw [mustE_yes rfl]
  go_wp2_with fail
  refine (CE _ K2).mono ?_
  rintro e w4 ⟨v4, rfl, A4, k4⟩
  have K4 := K2.trans k4
  have R4 := A4.rd
  obtain ⟨a4, x4, rfl, -⟩ := id R4
  have CR := implReadsOf_any w4 _ _ R4 (by omega)
  have el : IntKind.i64.wrap (((eventsB dss).length : Int) - 1) = ((eventsB dss).length : Int) - 1 := by rw [IntKind.wrap_i64]; omega
  clear CW CE A4 R4 c0 e0
  go_wp2_with fail
  refine CR.mono ?_
  rintro e w5 ⟨v5, rfl, O5, k5⟩
  have K5 := K4.trans k5
  obtain ⟨a5, x5, rfl, -⟩ := id O5.rd
  have hB5 := (Below.block (k2.trans (k4.trans k5)) w.heap.size z1).trans hB1
  have z5 : w.heap.size < w5.heap.size := Nat.lt_of_lt_of_le z1 (k2.trans (k4.trans k5)).size
  clear O5 CR hB1
  go_wp2_with (first | refine wpList_load_row rfl 30 _ rfl w.heap.size rfl 30 _ (0, 0) _ hB5 Tryz.underlying30 rfl board_info ?_ | fail)
  refine (CT _ K5).mono ?_
  rintro e w6 ⟨rfl, k6⟩
  have K6 := K5.trans k6
  cases hs : standP (((eventsB dss).length : Int) - 1) b
  · have HE : Hid (boardP dss b = false) := Lib.hid (by rw [HD.out, hs]; simp)
    rw [mustE_no rfl]
    go_wp2
    exact ⟨rfl, by rw [HS.out, mustE_no HE.out], K6⟩
  rw [mustE_yes rfl]
  have hB6 := (Below.block k6 w.heap.size z5).trans hB5
  have z6 : w.heap.size < w6.heap.size := Nat.lt_of_lt_of_le z5 k6.size
  go_wp2_with (first | refine wpList_load_row rfl 30 _ rfl w.heap.size rfl 30 _ (0, 0) _ hB6 Tryz.underlying30 rfl board_info ?_ | fail)
  refine (CC _ K6).mono ?_
  rintro e w7 ⟨rfl, k7⟩
  have K7 := K6.trans k7
  cases hc : clksP (((eventsB dss).length : Int) - 1) dss b
  · have HE : Hid (boardP dss b = false) := Lib.hid (by rw [HD.out, hc]; simp)
    rw [mustE_no rfl]
    go_wp2
    exact ⟨rfl, by rw [HS.out, mustE_no HE.out], K7⟩
  rw [mustE_yes rfl]
  have hB7 := (Below.block k7 w.heap.size z6).trans hB6
  have f5 : w7.cell? ⟨w.heap.size, 5, none⟩ = some (.slice aS b.sn.length cS) := by rw [cell_of_row w7 _ 5 _ _ _ hB7]; rfl
  have f6 : w7.cell? ⟨w.heap.size, 6, none⟩ = some (.slice aF b.fr.length cF) := by rw [cell_of_row w7 _ 6 _ _ _ hB7]; rfl
  clear hB5 hB6 hB7 CT CC
  go_wp2_with fail
  refine (CS _ K7).mono ?_
  rintro e w8 ⟨rfl, rfl⟩
  cases hn : numP b.sn (idxB rdE (eventsB dss)).length (-1) 9
  · have HE : Hid (boardP dss b = false) := Lib.hid (by rw [HD.out, hn]; simp)
    rw [mustE_no rfl]
    go_wp2
    exact ⟨rfl, by rw [HS.out, mustE_no HE.out], K7⟩
  rw [mustE_yes rfl]
  go_wp2_with fail
  refine (CF _ K7).mono ?_
  rintro e w9 ⟨rfl, rfl⟩
  cases hf : numP b.fr (idxB rdE (eventsB dss)).length (-1) (((eventsB dss).length : Int) - 1)
  · have HE : Hid (boardP dss b = false) := Lib.hid (by rw [HD.out, hf]; simp)
    rw [mustE_no rfl]
    go_wp2
    exact ⟨rfl, by rw [HS.out, mustE_no HE.out], K7⟩
  rw [mustE_yes rfl]
  have HE : Hid (boardP dss b = true) := Lib.hid (by rw [HD.out, hw, hs, hc, hn, hf]; rfl)
  clear HD hw hs hc hn hf
  go_wp2
  go_end0
  exact ⟨by rw [HS.out, mustE_yes HE.out], K7⟩
end Go.Proofs.YtgakfkjjkobpiaaGreat
