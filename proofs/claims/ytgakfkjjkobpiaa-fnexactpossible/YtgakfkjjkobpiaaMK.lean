/- Gathered texts. -/
import Derived.Test.YtgakfkjjkobpiaaMJ
import Derived.Maps.AppendAt
import Derived.Deep.CutRange
set_option maxRecDepth 100000
set_option maxHeartbeats 8000000
namespace Go.Proofs.Ytgakfkjjkobpiaa
open Go.ChangeShapes Go.WideShapes Go.ChangeAt Go.RowKit
theorem workB_useE {dss : List (List Dd)} (h : workB dss = true) : 1 ≤ dss.length ∧ dss.length ≤ 3 ∧ ∀ i, i < dss.length → okL (dss.getD i []) = true := by
  simp only [workB, Bool.and_eq_true, decide_eq_true_eq] at h
  obtain ⟨⟨⟨⟨h1, h2⟩, _⟩, _⟩, _⟩ := h
  exact ⟨h1.1, h1.2, fun i hi => all_get [] h2 i hi⟩
abbrev cO (v : Value) (t : Int) : Obj := .cells #[v, .int .i64 t] 130
abbrev dO (k p v g : Int) : Obj := .cells #[.int .i64 k, .int .i64 p, .int .i64 v, .int .i64 g] 98
theorem implEventsOf_any (w : World) (v : Value) (dss : List (List Dd)) (h : RdW w v dss) (hx : dss.length ≤ 1048576) (hm : ∀ i, i < dss.length → (dss.getD i []).length ≤ 1048576) :
    Calls Try.prog 89 #[v] w fun e w' => ∃ v', e = .returned v' ∧ AppE w' w.heap.size v' (eventsB dss) ∧ Keep w w' := by
  cases hb : workB dss
  · have HE : Hid (eventsB dss = []) := Lib.hid (by rw [eventsB, hb]; rfl)
    have O : ∀ w1 : World, Keep w w1 → AppE (w1.alloc (.cells #[] 104)) w.heap.size (.slice (some ⟨w1.heap.size, 0, none⟩) 0 0) [] := fun w1 k1 => World.ownsRow_lit w1 #[] 0 k1.size (by decide) (by simp)
    go_enter Try.func89, Try.ntmps89
    go_wp2_with fail
    refine (implWorkOk_any _ _ _ h hx hm).mono ?_
    rintro e w1 ⟨rfl, k1⟩
    go_wp2
    go_ret
    exact ⟨_, rfl, by rw [HE.out]; exact O w1 k1, k1.alloc _⟩
  · obtain ⟨h1, h3, u2⟩ := workB_useE hb
    have HE : Hid (eventsB dss = evsP dss dss.length) := Lib.hid (by rw [eventsB, if_pos hb, (evsP_same hb dss.length (Nat.le_refl _)).1])
    obtain ⟨j0, hj, hy0, hy1, hy2⟩ := info_parts Try.infoE
    go_enter Try.func89, Try.ntmps89
    go_wp2_with fail
    refine (implWorkOk_any _ _ _ h hx hm).mono ?_
    rintro e w0 ⟨rfl, k0⟩
    go_wp2_with fail
    refine (beginnings_any _).mono ?_
    rintro e w1 ⟨x1, rfl, a1, k1⟩
    go_wp2_with fail
    refine (clerksOf_at w _ (k0.trans k1) _ _ h h1 h3 hm).mono ?_
    rintro e w2 ⟨v2, rfl, rc, k2⟩
    have K01 : Keep w0 w2 := k1.trans k2
    have hsz0 := k0.size
    clear hb h hm hx
    obtain ⟨b, c1, V, rfl, hbl, hbu, hc⟩ := rc
    have HR : ∀ i, i < dss.length → RdD w (V i) (dss.getD i []) := fun i hi => (hc i hi).1
    obtain ⟨ob, hob⟩ : ∃ ob, w2.heap[b]? = some ob := ⟨_, Array.getElem?_eq_getElem hbu⟩
    have HC : ∀ wq : World, wq.heap[b]? = some ob → ∀ i, i < dss.length → wq.cell? ⟨b, i * 2, none⟩ = some (V i) ∧ wq.cell? ⟨b, i * 2 + 1, none⟩ = some (.int .i64 (takW dss i)) := fun wq hq i hi => by
      have e : wq.heap[b]? = w2.heap[b]? := hq.trans hob.symm
      have f : ∀ j, wq.cell? ⟨b, j, none⟩ = w2.cell? ⟨b, j, none⟩ := fun j => by simp only [World.cell?, e]
      exact ⟨(f _).trans (hc i hi).2.1, (f _).trans (hc i hi).2.2⟩
    clear hc
    have L0 : LP w0 w2 x1 evBeg [(b, ob)] := LP.add ⟨a1.keep k2, K01, by simp⟩ b ob (fun e => by have := (a1.lt _ e).2; omega) hob
    clear a1 hob hbl
    go_wp2
    go_loopw [3, 20] (fun x i wr => ∃ k : Nat, ∃ es : List Ev, k ≤ dss.length ∧ i = .int .i64 k ∧ Hid (es = evsP dss k) ∧ 1 ≤ es.length ∧ es.length ≤ 3 + 10 * k ∧ LP w0 wr x es [(b, ob)]) (fun _ i _ => dss.length - (intOf i).toNat)
    case atStart => exact ⟨0, evBeg, Nat.zero_le _, rfl, Lib.hid rfl, by decide, by decide, L0⟩
    case round =>
      clear L0 K01 k2 hbu
      obtain ⟨k, es, hk, rfl, hE, he1, hel, hL⟩ := hrel
      by_cases hlt : k < dss.length
      · have r1 := HR k hlt
        have hKw : Keep w wr := k0.trans hL.keep
        obtain ⟨d1, d2⟩ := HC wr (hL.held b ob (by simp)).2 k hlt
        have hbw := hL.lt (n := b) (o := ob) (by simp)
        have okk := u2 k hlt
        have HV : Hid (evsP dss (k + 1) = clkP k (dss.getD k []) es (dss.getD k []).length) := Lib.hid (by rw [evsP, hE.out])
        obtain ⟨ds, hds⟩ : ∃ ds, ds = dss.getD k [] := ⟨_, rfl⟩
        rw [← hds] at r1 okk HV
        clear hds
        generalize takW dss k = t at d2
        obtain ⟨u, hu⟩ : ∃ u, u = V k := ⟨_, rfl⟩
        rw [← hu] at d1 r1
        clear hu
        have R1 := r1
        obtain ⟨ai, ci, rfl, r1⟩ := r1
        have hl5 : ds.length ≤ 5 := by simp [okL] at okk; omega
        have i1 : (0 : Int) ≤ (k : Int) := Int.natCast_nonneg _
        have i2 : (k : Int) < (dss.length : Int) := by omega
        obtain ⟨wo, hwo⟩ : ∃ wo : World, wo = wr := ⟨_, rfl⟩
        subst hwo
        have L1 := hL.new (cO (.slice ai ds.length (ds.length + ci)) t)
        go_wp2
        go_loopw [3, 28] (fun x i wq => ∃ q : Nat, ∃ evs : List Ev, q ≤ ds.length ∧ i = .int .i64 q ∧ Hid (evs = clkP k ds es q) ∧ 1 ≤ evs.length ∧ evs.length ≤ 3 + 10 * k + 2 * q ∧ LP w0 wq x evs [(wo.heap.size, cO (.slice ai ds.length (ds.length + ci)) t), (b, ob)]) (fun _ i _ => ds.length - (intOf i).toNat)
        case atStart => exact ⟨0, es, Nat.zero_le _, rfl, Lib.hid rfl, he1, by omega, L1⟩
        case round =>
          clear L1 d1 d2
          obtain ⟨q, evs, hq, rfl, hC, hv1, hev, hI⟩ := hrel
          by_cases hlq : q < ds.length
          · have hKq : Keep w wr := k0.trans hI.keep
            have R2 := R1.keep hKq
            rcases r1 with h | ⟨b2, o2, rfl, hb2, hc2⟩
            · exfalso; rw [h] at hlq; simp at hlq
            have AT := (hc2 q hlq).keep hb2 hKq
            have okq : okD (ds.getD q zD) = true := by
              simp only [okL, Bool.and_eq_true] at okk
              exact all_get zD okk.1 q hlq
            clear hc2 okk
            have hb3 : b2 < wr.heap.size := Nat.lt_of_lt_of_le hb2 hKq.size
            have HST : Hid (clkP k ds es (q + 1) = evs ++ oneE k q (ds.getD q zD) (ncE evs (goB ds q))) := Lib.hid (by rw [clkP, hC.out])
            clear hC
            obtain ⟨d, hd⟩ : ∃ d, d = ds.getD q zD := ⟨_, rfl⟩
            rw [← hd] at AT okq HST
            clear hd
            have KD := okD_kindE okq
            obtain ⟨x0, x1, x2, x3⟩ := d
            obtain ⟨A0, A1, A2, A3⟩ := AT
            simp only at A0 A1 A2 A3 KD
            have j1 : (0 : Int) ≤ (q : Int) := Int.natCast_nonneg _
            have j2 : (q : Int) < (ds.length : Int) := by omega
            have z5 := hI.lt (n := wo.heap.size) (o := cO (.slice (some ⟨b2, o2, none⟩) ds.length (ds.length + ci)) t) (by simp)
            have c5 : wr.cell? ⟨wo.heap.size, 0, none⟩ = some (.slice (some ⟨b2, o2, none⟩) ds.length (ds.length + ci)) := (hI.held wo.heap.size (cO (.slice (some ⟨b2, o2, none⟩) ds.length (ds.length + ci)) t) (by simp)) |>.2 |> fun h => cell_of_row wr _ 0 _ _ (0, 0) h
            clear okq
            rcases KD with rfl | rfl | rfl | rfl
            · have HS : Hid (clkP k ds es (q + 1) = evs ++ oneE k q (1, x1, x2, x3) (ncE evs (goB ds q))) := HST
              clear HST
              have L2 := hI.new (dO 1 x1 x2 x3)
              have K2 : Keep wr (wr.alloc (dO 1 x1 x2 x3)) := (Keep.refl wr).alloc _
              have R3 := R2.keep K2
              go_wp2_with fail
              refine (goesOn_any _ _ _ R3 q hlq (by omega)).mono ?_
              rintro e w3 ⟨rfl, k3⟩
              have L3 := L2.more k3
              go_wp2_with fail
              refine (nextClass_any _ _ _ L3.app.rd (by omega) hv1 _).mono ?_
              generalize goB ds q = go at HS
              generalize hcl : ncE evs go = cl at HS
              clear hcl
              rintro e w4 ⟨rfl, k4⟩
              have L4 := L3.more k4
              have z7 := L4.lt (n := wr.heap.size) (o := dO 1 x1 x2 x3) (by simp)
              have s0 : w4.cell? ⟨wr.heap.size, 0, none⟩ = some (.int .i64 1) := L4.cell (n := wr.heap.size) (cs := #[.int .i64 1, .int .i64 x1, .int .i64 x2, .int .i64 x3]) (t := 98) (by simp) 0
              have s1 : w4.cell? ⟨wr.heap.size, 1, none⟩ = some (.int .i64 x1) := L4.cell (n := wr.heap.size) (cs := #[.int .i64 1, .int .i64 x1, .int .i64 x2, .int .i64 x3]) (t := 98) (by simp) 1
              have s2 : w4.cell? ⟨wr.heap.size, 2, none⟩ = some (.int .i64 x2) := L4.cell (n := wr.heap.size) (cs := #[.int .i64 1, .int .i64 x1, .int .i64 x2, .int .i64 x3]) (t := 98) (by simp) 2
              have s3 : w4.cell? ⟨wr.heap.size, 3, none⟩ = some (.int .i64 x3) := L4.cell (n := wr.heap.size) (cs := #[.int .i64 1, .int .i64 x1, .int .i64 x2, .int .i64 x3]) (t := 98) (by simp) 3
              clear A0 A1 A2 A3 c5 L2 L3 R3 K2
              go_wp2_with fail
              refine (shapes_rd _ _ _ _).mono ?_
              rintro e w5 ⟨B, rfl, hB, hBl, k5⟩
              have L5 := L4.later k5 hBl hB
              clear L4 s0 s1 s2 s3 z7 hI
              have z8 := L5.lt (n := B) (o := .cells #[rdV x1] 143) (by simp)
              have c6 : w5.cell? ⟨B, 0, none⟩ = some (rdV x1) := L5.cell (n := B) (cs := #[rdV x1]) (t := 143) (by simp) 0
              go_wp2
              refine wp_loop_rounds 2 ?_
              rw [rounds_succ]
              go_wp2_with fail
              refine (eventOf_rd _ _).mono ?_
              rintro e wa0 ⟨rfl, ka0⟩
              have La0 := L5.more ka0
              have Lb0 := (La0.more ((Keep.refl wa0).alloc (eO k q true x1 0 cl))).more ((Keep.refl _).alloc (eO k q true x1 0 cl))
              have hs0 : w0.heap.size ≤ wa0.heap.size := La0.keep.size
              go_wp2_with (at_builtin; refine wpList_append_own_at _ rfl _ _ 68 rfl w0.heap.size 104 j0 (.agg #[.int .i64 0, .int .i64 0, .bool false, .int .i64 0, .int .i64 0, .int .i64 0]) 6 48 Try.underlying68 hj hy0 hy1 hy2 rfl (by decide) _ _ _ rfl Lb0.app ⟨_, 0, none⟩ 1 1 (cE ((k : Int), (q : Int), true, x1, 0, cl)) rfl rfl ?c1_0 ?c2_0 ?c3_0 ?c4_0 ?c5_0 ?_)
              case c1_0 => exact cE_newP _ _ (heap_size _ _) _ _ _ _ _ _
              case c2_0 => exact cE_oneP _
              case c3_0 => unfold maxLen; first | omega | (simp; omega)
              case c4_0 => first | omega | (simp; omega)
              case c5_0 => first | omega | (simp; omega)
              intro v0' wb0 hown' hgrow _ hblk
              have Lc0 := Lb0.hit _ hown' hgrow (by rw [heap_size, heap_size]; exact hblk)
              clear hgrow hown' hblk Lb0 La0 L5
              go_wp2
              rw [rounds_succ]
              go_wp2
              go_roundw
              case rel => exact ⟨q + 1, _, by omega, by go_num, Lib.hid (by rw [HS.out]; simp [oneE]), by first | omega | (simp <;> omega), by first | omega | (simp <;> omega), Lc0.less (fun y hy => by simp only [List.mem_cons, List.not_mem_nil, or_false] at hy ⊢; rcases hy with rfl | rfl <;> simp)⟩
              case measure => simp [intOf]; omega
            · have HS : Hid (clkP k ds es (q + 1) = evs ++ oneE k q (2, x1, x2, x3) (ncE evs (goB ds q))) := HST
              clear HST
              have L2 := hI.new (dO 2 x1 x2 x3)
              have K2 : Keep wr (wr.alloc (dO 2 x1 x2 x3)) := (Keep.refl wr).alloc _
              have R3 := R2.keep K2
              go_wp2_with fail
              refine (goesOn_any _ _ _ R3 q hlq (by omega)).mono ?_
              rintro e w3 ⟨rfl, k3⟩
              have L3 := L2.more k3
              go_wp2_with fail
              refine (nextClass_any _ _ _ L3.app.rd (by omega) hv1 _).mono ?_
              generalize goB ds q = go at HS
              generalize hcl : ncE evs go = cl at HS
              clear hcl
              rintro e w4 ⟨rfl, k4⟩
              have L4 := L3.more k4
              have z7 := L4.lt (n := wr.heap.size) (o := dO 2 x1 x2 x3) (by simp)
              have s0 : w4.cell? ⟨wr.heap.size, 0, none⟩ = some (.int .i64 2) := L4.cell (n := wr.heap.size) (cs := #[.int .i64 2, .int .i64 x1, .int .i64 x2, .int .i64 x3]) (t := 98) (by simp) 0
              have s1 : w4.cell? ⟨wr.heap.size, 1, none⟩ = some (.int .i64 x1) := L4.cell (n := wr.heap.size) (cs := #[.int .i64 2, .int .i64 x1, .int .i64 x2, .int .i64 x3]) (t := 98) (by simp) 1
              have s2 : w4.cell? ⟨wr.heap.size, 2, none⟩ = some (.int .i64 x2) := L4.cell (n := wr.heap.size) (cs := #[.int .i64 2, .int .i64 x1, .int .i64 x2, .int .i64 x3]) (t := 98) (by simp) 2
              have s3 : w4.cell? ⟨wr.heap.size, 3, none⟩ = some (.int .i64 x3) := L4.cell (n := wr.heap.size) (cs := #[.int .i64 2, .int .i64 x1, .int .i64 x2, .int .i64 x3]) (t := 98) (by simp) 3
              clear A0 A1 A2 A3 c5 L2 L3 R3 K2
              go_wp2_with fail
              refine (shapes_wr _ _ _ _).mono ?_
              rintro e w5 ⟨B, rfl, hB, hBl, k5⟩
              have L5 := L4.later k5 hBl hB
              clear L4 s0 s1 s2 s3 z7 hI
              have z8 := L5.lt (n := B) (o := .cells #[wrV x1 x2] 143) (by simp)
              have c6 : w5.cell? ⟨B, 0, none⟩ = some (wrV x1 x2) := L5.cell (n := B) (cs := #[wrV x1 x2]) (t := 143) (by simp) 0
              go_wp2
              refine wp_loop_rounds 2 ?_
              rw [rounds_succ]
              go_wp2_with fail
              refine (eventOf_wr _ _ _).mono ?_
              rintro e wa0 ⟨rfl, ka0⟩
              have La0 := L5.more ka0
              have Lb0 := (La0.more ((Keep.refl wa0).alloc (eO k q false x1 x2 cl))).more ((Keep.refl _).alloc (eO k q false x1 x2 cl))
              have hs0 : w0.heap.size ≤ wa0.heap.size := La0.keep.size
              go_wp2_with (at_builtin; refine wpList_append_own_at _ rfl _ _ 68 rfl w0.heap.size 104 j0 (.agg #[.int .i64 0, .int .i64 0, .bool false, .int .i64 0, .int .i64 0, .int .i64 0]) 6 48 Try.underlying68 hj hy0 hy1 hy2 rfl (by decide) _ _ _ rfl Lb0.app ⟨_, 0, none⟩ 1 1 (cE ((k : Int), (q : Int), false, x1, x2, cl)) rfl rfl ?c1_0 ?c2_0 ?c3_0 ?c4_0 ?c5_0 ?_)
              case c1_0 => exact cE_newP _ _ (heap_size _ _) _ _ _ _ _ _
              case c2_0 => exact cE_oneP _
              case c3_0 => unfold maxLen; first | omega | (simp; omega)
              case c4_0 => first | omega | (simp; omega)
              case c5_0 => first | omega | (simp; omega)
              intro v0' wb0 hown' hgrow _ hblk
              have Lc0 := Lb0.hit _ hown' hgrow (by rw [heap_size, heap_size]; exact hblk)
              clear hgrow hown' hblk Lb0 La0 L5
              go_wp2
              rw [rounds_succ]
              go_wp2
              go_roundw
              case rel => exact ⟨q + 1, _, by omega, by go_num, Lib.hid (by rw [HS.out]; simp [oneE]), by first | omega | (simp <;> omega), by first | omega | (simp <;> omega), Lc0.less (fun y hy => by simp only [List.mem_cons, List.not_mem_nil, or_false] at hy ⊢; rcases hy with rfl | rfl <;> simp)⟩
              case measure => simp [intOf]; omega
            · have HS : Hid (clkP k ds es (q + 1) = evs ++ oneE k q (3, x1, x2, x3) (ncE evs (goB ds q))) := HST
              clear HST
              have L2 := hI.new (dO 3 x1 x2 x3)
              have K2 : Keep wr (wr.alloc (dO 3 x1 x2 x3)) := (Keep.refl wr).alloc _
              have R3 := R2.keep K2
              go_wp2_with fail
              refine (goesOn_any _ _ _ R3 q hlq (by omega)).mono ?_
              rintro e w3 ⟨rfl, k3⟩
              have L3 := L2.more k3
              go_wp2_with fail
              refine (nextClass_any _ _ _ L3.app.rd (by omega) hv1 _).mono ?_
              generalize goB ds q = go at HS
              generalize hcl : ncE evs go = cl at HS
              clear hcl
              rintro e w4 ⟨rfl, k4⟩
              have L4 := L3.more k4
              have z7 := L4.lt (n := wr.heap.size) (o := dO 3 x1 x2 x3) (by simp)
              have s0 : w4.cell? ⟨wr.heap.size, 0, none⟩ = some (.int .i64 3) := L4.cell (n := wr.heap.size) (cs := #[.int .i64 3, .int .i64 x1, .int .i64 x2, .int .i64 x3]) (t := 98) (by simp) 0
              have s1 : w4.cell? ⟨wr.heap.size, 1, none⟩ = some (.int .i64 x1) := L4.cell (n := wr.heap.size) (cs := #[.int .i64 3, .int .i64 x1, .int .i64 x2, .int .i64 x3]) (t := 98) (by simp) 1
              have s2 : w4.cell? ⟨wr.heap.size, 2, none⟩ = some (.int .i64 x2) := L4.cell (n := wr.heap.size) (cs := #[.int .i64 3, .int .i64 x1, .int .i64 x2, .int .i64 x3]) (t := 98) (by simp) 2
              have s3 : w4.cell? ⟨wr.heap.size, 3, none⟩ = some (.int .i64 x3) := L4.cell (n := wr.heap.size) (cs := #[.int .i64 3, .int .i64 x1, .int .i64 x2, .int .i64 x3]) (t := 98) (by simp) 3
              clear A0 A1 A2 A3 c5 L2 L3 R3 K2
              go_wp2_with fail
              refine (shapes_sw _ _ _ _).mono ?_
              rintro e w5 ⟨B, rfl, hB, hBl, k5⟩
              have L5 := L4.later k5 hBl hB
              clear L4 s0 s1 s2 s3 z7 hI
              have z8 := L5.lt (n := B) (o := .cells #[rdV x1, wrV x1 x2] 143) (by simp)
              have c6 : w5.cell? ⟨B, 0, none⟩ = some (rdV x1) := L5.cell (n := B) (cs := #[rdV x1, wrV x1 x2]) (t := 143) (by simp) 0
              have c7 : w5.cell? ⟨B, 1, none⟩ = some (wrV x1 x2) := L5.cell (n := B) (cs := #[rdV x1, wrV x1 x2]) (t := 143) (by simp) 1
              go_wp2
              refine wp_loop_rounds 3 ?_
              rw [rounds_succ]
              go_wp2_with fail
              refine (eventOf_rd _ _).mono ?_
              rintro e wa0 ⟨rfl, ka0⟩
              have La0 := L5.more ka0
              have Lb0 := (La0.more ((Keep.refl wa0).alloc (eO k q true x1 0 cl))).more ((Keep.refl _).alloc (eO k q true x1 0 cl))
              have hs0 : w0.heap.size ≤ wa0.heap.size := La0.keep.size
              go_wp2_with (at_builtin; refine wpList_append_own_at _ rfl _ _ 68 rfl w0.heap.size 104 j0 (.agg #[.int .i64 0, .int .i64 0, .bool false, .int .i64 0, .int .i64 0, .int .i64 0]) 6 48 Try.underlying68 hj hy0 hy1 hy2 rfl (by decide) _ _ _ rfl Lb0.app ⟨_, 0, none⟩ 1 1 (cE ((k : Int), (q : Int), true, x1, 0, cl)) rfl rfl ?c1_0 ?c2_0 ?c3_0 ?c4_0 ?c5_0 ?_)
              case c1_0 => exact cE_newP _ _ (heap_size _ _) _ _ _ _ _ _
              case c2_0 => exact cE_oneP _
              case c3_0 => unfold maxLen; first | omega | (simp; omega)
              case c4_0 => first | omega | (simp; omega)
              case c5_0 => first | omega | (simp; omega)
              intro v0' wb0 hown' hgrow _ hblk
              have Lc0 := Lb0.hit _ hown' hgrow (by rw [heap_size, heap_size]; exact hblk)
              clear hgrow hown' hblk Lb0 La0 L5
              obtain ⟨ev1, hev1⟩ : ∃ ev1, ev1 = evs ++ [((k : Int), (q : Int), true, x1, 0, cl)] := ⟨_, rfl⟩
              rw [← hev1] at Lc0
              have HV1 := Lib.hid hev1
              have hl1 : ev1.length ≤ evs.length + 1 := by rw [hev1]; simp
              clear hev1
              clear c6 c7 z8
              have z8 := Lc0.lt (n := B) (o := .cells #[rdV x1, wrV x1 x2] 143) (by simp)
              have c7 : wb0.cell? ⟨B, 1, none⟩ = some (wrV x1 x2) := Lc0.cell (n := B) (cs := #[rdV x1, wrV x1 x2]) (t := 143) (by simp) 1
              go_wp2
              rw [rounds_succ]
              go_wp2_with fail
              refine (eventOf_wr _ _ _).mono ?_
              rintro e wa1 ⟨rfl, ka1⟩
              have La1 := Lc0.more ka1
              have Lb1 := (La1.more ((Keep.refl wa1).alloc (eO k q false x1 x2 cl))).more ((Keep.refl _).alloc (eO k q false x1 x2 cl))
              have hs1 : w0.heap.size ≤ wa1.heap.size := La1.keep.size
              go_wp2_with (at_builtin; refine wpList_append_own_at _ rfl _ _ 68 rfl w0.heap.size 104 j0 (.agg #[.int .i64 0, .int .i64 0, .bool false, .int .i64 0, .int .i64 0, .int .i64 0]) 6 48 Try.underlying68 hj hy0 hy1 hy2 rfl (by decide) _ _ _ rfl Lb1.app ⟨_, 0, none⟩ 1 1 (cE ((k : Int), (q : Int), false, x1, x2, cl)) rfl rfl ?c1_1 ?c2_1 ?c3_1 ?c4_1 ?c5_1 ?_)
              case c1_1 => exact cE_newP _ _ (heap_size _ _) _ _ _ _ _ _
              case c2_1 => exact cE_oneP _
              case c3_1 => unfold maxLen; first | omega | (simp; omega)
              case c4_1 => first | omega | (simp; omega)
              case c5_1 => first | omega | (simp; omega)
              intro v1' wb1 hown' hgrow _ hblk
              have Lc1 := Lb1.hit _ hown' hgrow (by rw [heap_size, heap_size]; exact hblk)
              clear hgrow hown' hblk Lb1 La1 Lc0
              go_wp2
              rw [rounds_succ]
              go_wp2
              go_roundw
              case rel => exact ⟨q + 1, _, by omega, by go_num, Lib.hid (by rw [HS.out, HV1.out]; simp [oneE]), by first | omega | (simp <;> omega), by first | omega | (simp <;> omega), Lc1.less (fun y hy => by simp only [List.mem_cons, List.not_mem_nil, or_false] at hy ⊢; rcases hy with rfl | rfl <;> simp)⟩
              case measure => simp [intOf]; omega
            · have HS : Hid (clkP k ds es (q + 1) = evs ++ oneE k q (4, x1, x2, x3) (ncE evs (goB ds q))) := HST
              clear HST
              have L2 := hI.new (dO 4 x1 x2 x3)
              have K2 : Keep wr (wr.alloc (dO 4 x1 x2 x3)) := (Keep.refl wr).alloc _
              have R3 := R2.keep K2
              go_wp2_with fail
              refine (goesOn_any _ _ _ R3 q hlq (by omega)).mono ?_
              rintro e w3 ⟨rfl, k3⟩
              have L3 := L2.more k3
              go_wp2_with fail
              refine (nextClass_any _ _ _ L3.app.rd (by omega) hv1 _).mono ?_
              generalize goB ds q = go at HS
              generalize hcl : ncE evs go = cl at HS
              clear hcl
              rintro e w4 ⟨rfl, k4⟩
              have L4 := L3.more k4
              have z7 := L4.lt (n := wr.heap.size) (o := dO 4 x1 x2 x3) (by simp)
              have s0 : w4.cell? ⟨wr.heap.size, 0, none⟩ = some (.int .i64 4) := L4.cell (n := wr.heap.size) (cs := #[.int .i64 4, .int .i64 x1, .int .i64 x2, .int .i64 x3]) (t := 98) (by simp) 0
              have s1 : w4.cell? ⟨wr.heap.size, 1, none⟩ = some (.int .i64 x1) := L4.cell (n := wr.heap.size) (cs := #[.int .i64 4, .int .i64 x1, .int .i64 x2, .int .i64 x3]) (t := 98) (by simp) 1
              have s2 : w4.cell? ⟨wr.heap.size, 2, none⟩ = some (.int .i64 x2) := L4.cell (n := wr.heap.size) (cs := #[.int .i64 4, .int .i64 x1, .int .i64 x2, .int .i64 x3]) (t := 98) (by simp) 2
              have s3 : w4.cell? ⟨wr.heap.size, 3, none⟩ = some (.int .i64 x3) := L4.cell (n := wr.heap.size) (cs := #[.int .i64 4, .int .i64 x1, .int .i64 x2, .int .i64 x3]) (t := 98) (by simp) 3
              clear A0 A1 A2 A3 c5 L2 L3 R3 K2
              go_wp2_with fail
              refine (shapes_wa _ _ _ _).mono ?_
              rintro e w5 ⟨B, rfl, hB, hBl, k5⟩
              have L5 := L4.later k5 hBl hB
              clear L4 s0 s1 s2 s3 z7 hI
              have z8 := L5.lt (n := B) (o := .cells #[] 143) (by simp)
              go_wp2
              refine wp_loop_rounds 1 ?_
              rw [rounds_succ]
              go_wp2
              go_roundw
              case rel => exact ⟨q + 1, _, by omega, by go_num, Lib.hid (by rw [HS.out]; simp [oneE]), by first | omega | (simp <;> omega), by first | omega | (simp <;> omega), L5.less (fun y hy => by simp only [List.mem_cons, List.not_mem_nil, or_false] at hy ⊢; rcases hy with rfl | rfl <;> simp)⟩
              case measure => simp [intOf]; omega
          · obtain rfl : q = ds.length := by omega
            go_wp2
            go_roundw
            case rel => exact ⟨k + 1, evs, by omega, by go_num, Lib.hid (by rw [HV.out]; exact hC.out), hv1, by omega, hI.less (fun y hy => by simp only [List.mem_cons, List.not_mem_nil, or_false] at hy ⊢; subst hy; simp)⟩
            case measure => simp [intOf]; omega
      · obtain rfl : k = dss.length := by omega
        go_wp2
        go_ret
        exact ⟨_, rfl, by rw [HE.out, ← hE.out]; exact app_base hL.app hsz0, k0.trans hL.keep⟩
end Go.Proofs.Ytgakfkjjkobpiaa
