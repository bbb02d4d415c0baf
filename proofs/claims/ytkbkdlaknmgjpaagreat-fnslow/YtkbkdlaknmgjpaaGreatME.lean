/- Several texts in one. -/
import Derived.Test.YtkbkdlaknmgjpaaGreatMD
import Derived.Test.YtkbkdlaknmgjpaaGreatMB
import Derived.BigRegion
import Derived.RegionTactic
import Derived.Test.YtkbkdlaknmgjpaaGreatMA
import Derived.Test.YtkbkdlaknmgjpaaGreatMC
import Derived.Deep.RegionHeld3
import Derived.Lib.Hide
import Derived.Deep.CutRange
import Derived.Deep.QuietTactic
import Derived.BigQuiet
/- Contract of the program's AgainstWeb. -/
namespace Go.Proofs.YtkbkdlaknmgjpaaGreat
open Go.ChangeShapes Go.WideShapes Go.ChangeAt Go.RowKit

theorem idx_top {es : List Ev} (hx : es.length ≤ 12) (t : Ev → Bool) : (idxB t es).length ≤ 12 := by
  unfold idxB
  rw [if_pos hx]
  have := idxK_len t es es.length
  omega
set_option maxRecDepth 100000 in
set_option maxHeartbeats 4000000 in
theorem implAgainstWeb_any (w : World) (v vF vR : Value) (dss : List (List Dd)) (f rows : List Int) (h : RdW w v dss) (hf : Rd w vF f) (hr : Rd w vR rows) (hcap : rows.length ≤ capZ vR) (hx : dss.length ≤ 1048576) (hm : ∀ i, i < dss.length → (dss.getD i []).length ≤ 1048576) (hfl : f.length ≤ 1048576) (hrl : rows.length ≤ 1048576) :
    Calls Tryz.prog 43 #[v, .agg #[vF, vR]] w fun e w' => ∃ v', e = .returned v' ∧ Row w' w.heap.size v' (agB dss f rows) ∧ Keep w w' := by
  have C := fun (W : World) (kW : Keep w W) => pageOf_any W v vF vR dss f rows (h.keep kW) (hf.keep kW) (hr.keep kW) hcap hx hm hfl hrl
  have CB := fun (W : World) => isBlank_any W (pageB dss f rows) (pageB_len dss f rows)
  rw [page_blank] at CB
  have hPl := pageB_len dss f rows
  have HP : taleB dss f rows = true → Hid (pageB dss f rows = pageL (eventsB dss) f rows) := fun e => Lib.hid (by rw [pageB, if_pos e])
  obtain ⟨P, hP⟩ : ∃ P, P = pageB dss f rows := ⟨_, rfl⟩
  rw [← hP] at C CB hPl HP
  clear hP
  obtain ⟨aF, cF, rfl, -⟩ := hf
  obtain ⟨aR, cR, rfl, -⟩ := hr
  have PI : (Tryz.prog.info? 108).map (·.size) = some (pgC P).size := by rw [pg_size hPl]; exact page_info
  have HI := Lib.hid PI
  have HO : Hid ((pgC (List.replicate 12 0)).size = (pgC P).size) := Lib.hid (by rw [pg_size hPl]; rfl)
  have H1 := Lib.hid (pg_one P)
  clear PI
  go_enter Tryz.func43, Tryz.ntmps43
  go_wp2_with fail
  refine (C _ ((Keep.refl w).alloc _)).mono ?_
  rintro e w1 ⟨rfl, k1⟩
  have K1 := ((Keep.refl w).alloc _).trans k1
  have hz := Pg.new (w := w1) (List.replicate 12 0)
  have h1 : ((w1.alloc (.cells (pgC (List.replicate 12 0)) 108)).setRow w1.heap.size (pgC P)).heap[w1.heap.size]? = some (.cells (pgC P) 108 (0, 0)) := heap_setRow_same _ _ _ _ _ hz
  have k2 : Keep w1 ((w1.alloc (.cells (pgC (List.replicate 12 0)) 108)).setRow w1.heap.size (pgC P)) := ((Keep.refl w1).alloc _).grown (grown_setRow _ _ _) (fun k hk => by have := Option.some.inj hk; omega)
  clear k1 C
  unfold Pg at hz
  go_wp2_with (first | refine wpList_store_row rfl 108 _ _ rfl w1.heap.size _ rfl rfl 108 _ hz HI.out HO.out H1.out ?_ | refine wpList_load_row rfl 108 _ rfl w1.heap.size rfl 108 _ (0, 0) _ h1 Tryz.underlying108 rfl HI.out ?_ | fail)
  have HH := Lib.hid h1
  have z1 : w1.heap.size < ((w1.alloc (.cells (pgC (List.replicate 12 0)) 108)).setRow w1.heap.size (pgC P)).heap.size := by simp
  refine (CB _).mono ?_
  rintro e w2 ⟨rfl, k3⟩
  have K2 := (K1.trans k2).trans k3
  have s1 := K1.size
  have pg : Pg w2 w1.heap.size P := (Below.block k3 _ z1).trans HH.out
  clear hz h1 k2 k3 z1 HH HI HO H1 CB
  cases hb : taleB dss f rows
  · have HE : Hid (agB dss f rows = []) := Lib.hid (by rw [agB, hb]; rfl)
    have s2 := K2.size
    clear hb HP
    go_wp2
    go_ret
    exact ⟨_, rfl, by rw [HE.out]; exact (row_empty w2 _).base_le s2, K2.alloc _⟩
  · have HP := HP hb
    obtain ⟨h12, sl, f12, -, -, -, -, fu, -⟩ := page_use hb
    have fin : ∀ i, i < (idxB rdE (eventsB dss)).length → 0 ≤ (idxB rdE (eventsB dss)).getD i 0 ∧ (idxB rdE (eventsB dss)).getD i 0 < ((eventsB dss).length : Int) := fun i hi => (fu i (by omega)).2.1
    have HE : Hid (agB dss f rows = agO (eventsB dss) P (idxB rdE (eventsB dss)) (idxB rdE (eventsB dss)).length) := Lib.hid (by rw [HP.out, ag_same hb])
    have HWO := Lib.hid (web_agO (p := P) h12 fin)
    have HWI := Lib.hid (fun (r : Nat) (p0 : Int) (st : List Int) hr hst => web_agI (p := P) (ws := idxB (toE p0) (eventsB dss)) (n := (eventsB dss).length) (r := r) (st := st) (fun j hj => (idx_all h12 (get_mem hj)).1) hr hst)
    have FIN := Lib.hid fin
    have WIN := Lib.hid (fun (p0 : Int) (j : Nat) (hj : j < (idxB (toE p0) (eventsB dss)).length) => (idx_all h12 (get_mem hj)).1)
    have R12 : (idxB rdE (eventsB dss)).length ≤ 12 := by omega
    clear fin fu sl f12 hb HP
    go_wp2_with fail
    refine (implEventsOf_any _ _ _ (h.keep K2) hx hm).mono ?_
    rintro e w3 ⟨v3, rfl, a3, k3⟩
    have s3 := k3.size
    have s2 := K2.size
    replace pg := pg.keep k3
    have re := a3.rd
    have K3 := K2.trans k3
    generalize eventsB dss = es at *
    obtain ⟨ae, ce, rfl, re'⟩ := id re
    go_wp2_with fail
    refine (blank_any _ _ h12).mono ?_
    rintro e w4 ⟨rfl, rb, k4⟩
    have s4 := rb.lt
    go_wp2_with fail
    refine (implReadsOf_any _ _ _ (re.keep k4) (by omega)).mono ?_
    rintro e w5 ⟨v5, rfl, o5, k5⟩
    have s5 := k5.size
    replace rb := rb.keep k5
    have k35 := k4.trans k5
    obtain ⟨a5, c5, rfl, -⟩ := o5.rd
    generalize idxB rdE es = rs at *
    clear a3 k4 k5 K1 K2 k3 h hx hm hcap
    have pl := pg.lt
    go_wp2
    go_loopw [26] (fun i wr => ∃ k : Nat, k ≤ rs.length ∧ i = .int .i64 k ∧ RowAt wr w3.heap.size (agO es P rs k) ∧ w5.grownBy wr (some w3.heap.size)) (fun i _ => rs.length - (intOf i).toNat)
    case atStart => exact ⟨0, Nat.zero_le _, rfl, rb, World.grownBy.refl _ _⟩
    case round =>
      obtain ⟨k, hk, rfl, hr, G⟩ := hrel
      clear rb
      have kr : Keep w3 wr := k35.grown G (fun j hj => by have := Option.some.inj hj; omega)
      by_cases hlt : k < rs.length
      · have hrk := (o5.other (by omega) G).rd
        obtain ⟨a', c', he', hrk⟩ := hrk
        simp only [Value.slice.injEq, true_and] at he'
        obtain ⟨rfl, rfl⟩ := he'
        rcases hrk with h0 | ⟨bf, off, rfl, hbf, hcf'⟩
        · exfalso; rw [h0] at hlt; simp at hlt
        obtain ⟨ra, hra⟩ := Int.eq_ofNat_of_zero_le (FIN.out k hlt).1
        have hral : ra < es.length := by have := (FIN.out k hlt).2; omega
        have d1 := hcf' k hlt
        rw [hra] at d1
        clear hcf'
        rcases re' with h0 | ⟨be, oe, rfl, hbe, hce⟩
        · exfalso; rw [h0] at hral; simp at hral
        have AX := (hce ra _ (evs_get hral)).keep hbe kr
        have CW := fun (W : World) (kW : Keep w3 W) => implWritesTo_any W _ es (re.keep kW) (by omega) (es.getD ra zE).2.2.2.1
        have HN : Hid (agO es P rs (k + 1) = agI P ra (idxB (toE (es.getD ra zE).2.2.2.1) es) (agO es P rs k) (idxB (toE (es.getD ra zE).2.2.2.1) es).length) := Lib.hid (by rw [agO, hra]; unfold plE; rw [Int.toNat_natCast])
        have HX := Lib.hid (HWI.out ra (es.getD ra zE).2.2.2.1 (agO es P rs k) hral (HWO.out k hk).1)
        have HW := Lib.hid (WIN.out (es.getD ra zE).2.2.2.1)
        generalize agO es P rs k = S0 at hr HN HX
        generalize es.getD ra zE = ex at AX CW HN HX HW
        obtain ⟨x0, x1, x2, x3, x4, x5⟩ := ex
        obtain ⟨A0, A1, A2, A3, A4, A5⟩ := atE AX
        simp only at CW HN HX HW A3
        clear AX hce A0 A1 A2 A4 A5 hra
        have i1 : (0 : Int) ≤ (k : Int) := Int.natCast_nonneg _
        have i2 : (k : Int) < (rs.length : Int) := by omega
        have i3 : (0 : Int) ≤ (ra : Int) := Int.natCast_nonneg _
        have i4 : (ra : Int) < (es.length : Int) := by omega
        go_wp2_with fail
        refine (CW _ kr).mono ?_
        rintro e w6 ⟨v6, rfl, o6, k6⟩
        clear CW d1 A3
        have W12 := idx_top h12 (toE x3)
        generalize idxB (toE x3) es = ws at *
        obtain ⟨a6, c6, rfl, -⟩ := o6.rd
        replace hr := hr.keep k6
        have kr6 := kr.trans k6
        have sr := G.size
        have G6 : w5.grownBy w6 (some w3.heap.size) := grown_trans G ⟨Below.os k6, Below.tape k6, Below.output k6, Below.size k6, fun i hi _ => Below.block k6 i hi⟩
        clear kr G
        go_wp2
        go_loopw [38] (fun i wq => ∃ q : Nat, q ≤ ws.length ∧ i = .int .i64 q ∧ RowAt wq w3.heap.size (agI P ra ws S0 q) ∧ w6.grownBy wq (some w3.heap.size)) (fun i _ => ws.length - (intOf i).toNat)
        case atStart => exact ⟨0, Nat.zero_le _, rfl, hr, World.grownBy.refl _ _⟩
        case round =>
          clear hr
          obtain ⟨q, hq, rfl, hr, Gq⟩ := hrel
          have kq : Keep w3 wr := kr6.grown Gq (fun j hj => by have := Option.some.inj hj; omega)
          by_cases hqk : q < ws.length
          · have hrk := (o6.other (by omega) Gq).rd
            obtain ⟨a', c', he', hrk⟩ := hrk
            simp only [Value.slice.injEq, true_and] at he'
            obtain ⟨rfl, rfl⟩ := he'
            rcases hrk with h0 | ⟨bg, ofg, rfl, hbg, hcg'⟩
            · exfalso; rw [h0] at hqk; simp at hqk
            obtain ⟨rb, hrb⟩ := Int.eq_ofNat_of_zero_le (HW.out q hqk).1
            have hrbl : rb < es.length := by have := (HW.out q hqk).2; omega
            have d2 := hcg' q hqk
            rw [hrb] at d2
            have pq := pg.keep kq
            have p1 := pq.cell (j := ra) (by omega)
            have p2 := pq.cell (j := rb) (by omega)
            have hBl := (HX.out q hq).1.2.1
            have HY : P.getD ra 0 < P.getD rb 0 → Hid (agI P ra ws S0 (q + 1) = (agI P ra ws S0 q).set ra (gAdd ((agI P ra ws S0 q).getD ra 0) (rb : Int))) := fun e => Lib.hid (by rw [agI, hrb, Int.toNat_natCast, if_pos (decide_eq_true e)])
            have HM : ¬ P.getD ra 0 < P.getD rb 0 → Hid (agI P ra ws S0 (q + 1) = agI P ra ws S0 q) := fun e => Lib.hid (by rw [agI, hrb, Int.toNat_natCast, if_neg (by simpa using e)])
            clear hcg' hrb
            generalize agI P ra ws S0 q = S at hr HY HM hBl
            generalize P.getD ra 0 = pa at p1 HY HM
            generalize P.getD rb 0 = pb at p2 HY HM
            have n1 : (0 : Int) ≤ (q : Int) := Int.natCast_nonneg _
            have n2 : (q : Int) < (ws.length : Int) := by omega
            have n3 : (0 : Int) ≤ (rb : Int) := Int.natCast_nonneg _
            have n4 : (rb : Int) < 12 := by omega
            have n5 : (ra : Int) < 12 := by omega
            have n6 : (0 : Int) ≤ (ra : Int) := Int.natCast_nonneg _
            by_cases hp : pa < pb
            · have HE1 := HY hp
              clear HY HM
              go_wp2
              go_quiet (fail)
              clear p1 p2 d2
              go_wp2_with fail
              refine (line_any _ w3.heap.size es.length es.length S ra (rb : Int) (hr.drewN _) hBl hral).mono ?_
              rintro e w7 ⟨rfl, R7, g7⟩
              have G7 := grown_trans (grown_trans Gq (grown_draw wr _ _)) g7
              go_wp2
              go_roundw
              case rel => exact ⟨q + 1, by omega, by go_num, by rw [HE1.out]; exact R7, G7⟩
              case measure => simp [intOf]; omega
            · have HE1 := HM hp
              have hp' : pb ≤ pa := by omega
              clear HY HM
              go_wp2
              go_quiet (fail)
              clear p1 p2 d2
              go_wp2
              go_roundw
              case rel => exact ⟨q + 1, by omega, by go_num, by rw [HE1.out]; exact hr.drewN _, grown_trans Gq (grown_draw wr _ _)⟩
              case measure => simp [intOf]; omega
          · obtain rfl : q = ws.length := by omega
            go_wp2
            go_roundw
            case rel => exact ⟨k + 1, by omega, by go_num, by rw [HN.out]; exact hr, grown_trans G6 Gq⟩
            case measure => simp [intOf]; omega
      · obtain rfl : k = rs.length := by omega
        have hl := (HWO.out rs.length (Nat.le_refl _)).1.2.1
        go_wp2
        go_ret
        exact ⟨_, rfl, by rw [HE.out]; exact .inr ⟨w3.heap.size, es.length, by rw [hl]; rfl, by omega, hr⟩, K3.trans kr⟩
end Go.Proofs.YtkbkdlaknmgjpaaGreat

/- Plain facts on the lists that the loops of Then, Back and Ways build. -/
namespace Go.Proofs.YtkbkdlaknmgjpaaGreat
open Go.RowKit

/-- The first k places are done, the others are 0. -/
def thenK (a b : List Int) (k : Nat) : List Int := (a.map (fun x => thenS x b 12)).take k ++ List.replicate (a.length - k) 0
theorem thenK_len (a b : List Int) {k : Nat} (hk : k ≤ a.length) : (thenK a b k).length = a.length := by
  unfold thenK
  rw [List.length_append, List.length_take, List.length_map, List.length_replicate]; omega
theorem thenK_zero (a b : List Int) : thenK a b 0 = List.replicate a.length 0 := by simp [thenK]
theorem thenK_end (a b : List Int) : thenK a b a.length = a.map (fun x => thenS x b 12) := by
  unfold thenK
  rw [Nat.sub_self, List.replicate_zero, List.append_nil, List.take_of_length_le (by simp)]
theorem thenK_set (a b : List Int) {k : Nat} (hk : k < a.length) : (thenK a b k).set k (thenS (a.getD k 0) b 12) = thenK a b (k + 1) := by
  unfold thenK
  have hz : k < (a.map (fun x => thenS x b 12)).length := by simpa using hk
  have hl : ((a.map (fun x => thenS x b 12)).take k).length = k := by rw [List.length_take]; omega
  rw [List.set_append_right _ _ (by omega), hl, Nat.sub_self, show a.length - k = (a.length - (k + 1)) + 1 from by omega, List.replicate_succ, List.set_cons_zero, List.take_succ_eq_append_getElem hz, List.append_assoc, List.getElem_map, List.getD_eq_getElem?_getD, List.getElem?_eq_getElem hk]
  rfl
theorem thenK_same (a b : List Int) {k : Nat} (hk : k < a.length) : (thenK a b k).set k 0 = thenK a b k := by
  unfold thenK
  have hl : ((a.map (fun x => thenS x b 12)).take k).length = k := by rw [List.length_take, List.length_map]; omega
  rw [List.set_append_right _ _ (by omega), hl, Nat.sub_self, show a.length - k = (a.length - (k + 1)) + 1 from by omega, List.replicate_succ, List.set_cons_zero]
/-- The j-th member is one of the set's n. -/
theorem mem_at {n : Nat} {p : Int} (hp : okB n p = true) {j : Nat} (hj : j < (mem p 12).length) : ∃ m : Nat, (mem p 12).getD j 0 = m ∧ m < n := by
  have hm := getD_mem hj
  obtain ⟨m, _, e, hs⟩ := (mem_iff p 12 _).1 hm
  exact ⟨m, e, inSetB_iff hp hs⟩
theorem foldl_snoc {α : Type} (f : α → Int → α) (x : α) (l : List Int) {j : Nat} (hj : j < l.length) : (l.take (j + 1)).foldl f x = f ((l.take j).foldl f x) (l.getD j 0) := by
  rw [take_snoc l j hj, List.foldl_append]; rfl
theorem set_set_same (l : List Int) (k : Nat) (x y : Int) : (l.set k x).set k y = l.set k y := by simp
theorem getD_set_same (l : List Int) {k : Nat} (hk : k < l.length) (x : Int) : (l.set k x).getD k 0 = x := by rw [getD_set l k k x hk, if_pos rfl]
theorem backF_len (i : Nat) (st : List Int) (l : List Int) : (l.foldl (backF i) st).length = st.length := by
  induction l generalizing st with
  | nil => rfl
  | cons x l ih => rw [List.foldl_cons, ih]; simp [backF]
theorem backAll_len (zs : List Int) (m : Nat) : (backAll zs m).length = zs.length := by
  induction m with
  | zero => simp [backAll]
  | succ m ih => unfold backAll; rw [backIn_len, ih]
theorem wayAll_len (zs : List Int) (m : Nat) : (wayAll zs m).length = zs.length := by
  induction m with
  | zero => rfl
  | succ m ih => unfold wayAll; rw [wayIn_len, ih]
end Go.Proofs.YtkbkdlaknmgjpaaGreat

/- Small facts for the laws on a function of lists: what came in stays where only new memory is written; how long an answer is. -/
namespace Go.Proofs.YtkbkdlaknmgjpaaGreat
open Go.ChangeShapes Go.WideShapes Go.ChangeAt Go.RowKit

/-- A list in memory below block B. -/
def RdO (w : World) (B : Nat) (v : Value) (zs : List Int) : Prop :=
  ∃ (a : Option Addr) (cap : Nat), v = .slice a zs.length cap ∧
    (zs = [] ∨ ∃ b off, a = some ⟨b, off, none⟩ ∧ b < B ∧ b < w.heap.size ∧ ∀ i, i < zs.length → w.cell? ⟨b, off + i, none⟩ = some (.int .i64 (zs.getD i 0)))
theorem Rd.old {w : World} {v : Value} {zs : List Int} (h : Rd w v zs) : RdO w w.heap.size v zs := by
  obtain ⟨a, cap, hv, h⟩ := h
  refine ⟨a, cap, hv, ?_⟩
  rcases h with h | ⟨b, off, ha, hb, hc⟩
  · exact .inl h
  · exact .inr ⟨b, off, ha, hb, hb, hc⟩
theorem RdO.rd {w : World} {B : Nat} {v : Value} {zs : List Int} (h : RdO w B v zs) : Rd w v zs := by
  obtain ⟨a, cap, hv, h⟩ := h
  refine ⟨a, cap, hv, ?_⟩
  rcases h with h | ⟨b, off, ha, _, hb, hc⟩
  · exact .inl h
  · exact .inr ⟨b, off, ha, hb, hc⟩
theorem RdO.stay {w w' : World} {B : Nat} {v : Value} {zs : List Int} {row : Option Nat} (h : RdO w B v zs) (hg : w.grownBy w' row) (hr : ∀ k, row = some k → B ≤ k) : RdO w' B v zs := by
  obtain ⟨a, cap, hv, h⟩ := h
  refine ⟨a, cap, hv, ?_⟩
  rcases h with h | ⟨b, off, ha, hB, hb, hc⟩
  · exact .inl h
  · refine .inr ⟨b, off, ha, hB, Nat.lt_of_lt_of_le hb hg.size, fun i hi => ?_⟩
    rw [World.cell?_of_block (w := w) (hg.block b hb (fun e => by have := hr b e.symm; omega))]
    exact hc i hi
theorem RdO.keep {w w' : World} {B : Nat} {v : Value} {zs : List Int} (h : RdO w B v zs) (k : Keep w w') : RdO w' B v zs := h.stay k.grownBy (by simp)
theorem mixL_len (f : Int → Int → Int) (a b : List Int) : (mixL f a b).length ≤ 12 := by
  unfold mixL
  cases h : twoB a b with
  | false => simp
  | true => have := webB_len (twoB_iff.1 h).2.1; simp; omega
theorem thenL_len (a b : List Int) : (thenL a b).length ≤ 12 := by
  unfold thenL
  cases h : twoB a b with
  | false => simp
  | true => have := webB_len (twoB_iff.1 h).2.1; simp; omega
theorem backL_len (a : List Int) : (backL a).length ≤ 12 := by
  unfold backL
  cases h : webB a with
  | false => simp
  | true => have := webB_len h; simp [backAll_len]; omega
theorem waysL_len (a : List Int) : (waysL a).length ≤ 12 := by
  unfold waysL
  cases h : webB a with
  | false => simp
  | true => have := webB_len h; simp [wayAll_len]; omega
end Go.Proofs.YtkbkdlaknmgjpaaGreat

/- How long the answers on rows are. -/
namespace Go.Proofs.YtkbkdlaknmgjpaaGreat
open Go.RowKit

theorem ratB_len (dss : List (List Dd)) (n : Int) : (ratB dss n).length ≤ 36 := by
  by_cases h : 0 ≤ n ∧ n < rcntB dss
  · exact (row_all h.1 h.2).2.2.1
  · unfold ratB
    rw [if_neg h]
    simp
theorem rwB_len (dss : List (List Dd)) (f : List Int) : (rwB dss f).length ≤ 12 := by
  unfold rwB
  split
  · rename_i h
    rw [rowsB, Bool.and_eq_true] at h
    have hx := eventsB_12 dss
    obtain ⟨_, _, hr⟩ := rows_use hx h.2
    have := (web_rwAll hx hr f.length (Nat.le_refl _)).1.2.1
    unfold rwL
    omega
  · simp
end Go.Proofs.YtkbkdlaknmgjpaaGreat

/- How long the answers on tales are. -/
namespace Go.Proofs.YtkbkdlaknmgjpaaGreat
open Go.RowKit

theorem agB_len (dss : List (List Dd)) (f rows : List Int) : (agB dss f rows).length ≤ 12 := by
  unfold agB
  split
  · rename_i h
    have hb := (tale_use h).1
    rw [agL, agK_len, eventsB, if_pos hb]
    exact (events_law hb).1
  · simp
theorem ocB_len (dss : List (List Dd)) (f rows : List Int) : (ocB dss f rows).length ≤ 15 := by
  by_cases h : taleB dss f rows = true
  · obtain ⟨_, h1, h2, h3, _⟩ := ag_law h
    omega
  · unfold ocB
    rw [if_neg h]
    simp
end Go.Proofs.YtkbkdlaknmgjpaaGreat

/- Contracts of the program's toOne at four webs and of SlowWeb. -/
namespace Go.Proofs.YtkbkdlaknmgjpaaGreat
open Go.ChangeShapes Go.WideShapes Go.ChangeAt Go.RowKit

theorem sw_chain (dss : List (List Dd)) (f rows : List Int) : chnL (kepL dss (eventsB dss)) (owB dss f) (rwB dss rows) (agB dss f rows) = swB dss f rows := by
  cases hb : taleB dss f rows with
  | false =>
    rw [swB, agB, hb]
    exact mix_none _ _
  | true =>
    obtain ⟨hw, hs, hr⟩ := tale_use hb
    have h12 := (events_law hw).1
    have e1 : eventsB dss = evsW dss dss.length := by rw [eventsB, if_pos hw]
    rw [← e1] at h12
    have W := webs_of h12 hs hr
    have hb2 := hb
    unfold taleB at hb2
    rw [Bool.and_eq_true] at hb2
    rw [swB, agB, if_pos hb, if_pos hb, owB, if_pos hb2.1, rwB, if_pos hb2.2]
    exact web_chn (kep_line h12).1 (ow_line W).1 W.rw' W.ag
set_option maxRecDepth 100000 in
set_option maxHeartbeats 2000000 in
theorem toOne_four (w : World) (G : Nat) (v0 v1 v2 v3 : Value) (a b c d : List Int) (hG : w.heap[G]? = some (.cells #[v0, v1, v2, v3] 25 (0, 0))) (h0 : Rd w v0 a) (h1 : Rd w v1 b) (h2 : Rd w v2 c) (h3 : Rd w v3 d) (l0 : a.length ≤ 1048576) (l1 : b.length ≤ 1048576) (l2 : c.length ≤ 1048576) (l3 : d.length ≤ 1048576) :
    Calls Tryz.prog 44 #[.slice (some ⟨G, 0, none⟩) 4 4, .func (Fn.func 45) #[] #[]] w fun e w' => ∃ v', e = .returned v' ∧ Row w' w.heap.size v' (chnL a b c d) ∧ Keep w w' := by
  have hGl : G < w.heap.size := (Array.getElem?_eq_some_iff.1 hG).1
  have c0 : w.cell? ⟨G, 0, none⟩ = some v0 := by rw [cell_of_row w G 0 _ _ _ hG]; rfl
  have c1 : w.cell? ⟨G, 1, none⟩ = some v1 := by rw [cell_of_row w G 1 _ _ _ hG]; rfl
  have c2 : w.cell? ⟨G, 2, none⟩ = some v2 := by rw [cell_of_row w G 2 _ _ _ hG]; rfl
  have c3 : w.cell? ⟨G, 3, none⟩ = some v3 := by rw [cell_of_row w G 3 _ _ _ hG]; rfl
  have lm := fun (a b : List Int) => (show (mixL orI a b).length ≤ 1048576 by have := mixL_len orI a b; omega)
  clear hG
  obtain ⟨A0, C0, rfl, -⟩ := id h0
  obtain ⟨A1, C1, rfl, -⟩ := id h1
  obtain ⟨A2, C2, rfl, -⟩ := id h2
  obtain ⟨A3, C3, rfl, -⟩ := id h3
  go_enter Tryz.func44, Tryz.ntmps44
  go_wp2
  refine wp_loop_rounds 5 ?_
  rw [rounds_succ]
  go_wp2
  rw [rounds_succ]
  go_wp2_with fail
  refine (implJoined_any _ _ _ _ _ h0 h1 l0 l1).mono ?_
  rintro e w1 ⟨u1, rfl, o1, k1⟩
  have s1 := k1.size
  have K1 := k1
  have r1 := o1.rd
  replace c2 := (k1.cell hGl).trans c2
  replace c3 := (k1.cell hGl).trans c3
  replace h2 := h2.keep k1
  replace h3 := h3.keep k1
  have g1 : G < w1.heap.size := Nat.lt_of_lt_of_le hGl s1
  clear h0 h1 c0 c1 o1 k1
  obtain ⟨B1, D1, rfl, -⟩ := id r1
  go_wp2
  rw [rounds_succ]
  go_wp2_with fail
  refine (implJoined_any _ _ _ _ _ r1 h2 (lm _ _) l2).mono ?_
  rintro e w2 ⟨u2, rfl, o2, k2⟩
  have s2 := k2.size
  have K2 := K1.trans k2
  have r2 := o2.rd
  replace c3 := (k2.cell g1).trans c3
  replace h3 := h3.keep k2
  have g2 : G < w2.heap.size := Nat.lt_of_lt_of_le g1 s2
  clear h2 c2 o2 k2 r1 K1
  obtain ⟨B2, D2, rfl, -⟩ := id r2
  go_wp2
  rw [rounds_succ]
  go_wp2_with fail
  refine (implJoined_any _ _ _ _ _ r2 h3 (lm _ _) l3).mono ?_
  rintro e w3 ⟨u3, rfl, o3, k3⟩
  have K3 := K2.trans k3
  have b3 : w.heap.size ≤ w2.heap.size := K2.size
  have O3 : Row w3 w.heap.size u3 (chnL a b c d) := o3.base_le b3
  clear h3 c3 o3 k3 r2 K2
  obtain ⟨B3, D3, rfl, -⟩ := id O3.rd
  go_wp2
  rw [rounds_succ]
  go_wp2
  go_ret
  exact ⟨_, rfl, O3, K3⟩
set_option maxRecDepth 100000 in
set_option maxHeartbeats 4000000 in
theorem implSlowWeb_any (w : World) (v vF vR : Value) (dss : List (List Dd)) (f rows : List Int) (h : RdW w v dss) (hf : Rd w vF f) (hr : Rd w vR rows) (hcap : rows.length ≤ capZ vR) (hx : dss.length ≤ 1048576) (hm : ∀ i, i < dss.length → (dss.getD i []).length ≤ 1048576) (hfl : f.length ≤ 1048576) (hrl : rows.length ≤ 1048576) :
    Calls Tryz.prog 9 #[v, .agg #[vF, vR]] w fun e w' => ∃ v', e = .returned v' ∧ Row w' w.heap.size v' (swB dss f rows) ∧ Keep w w' := by
  have C1 := Lib.hid (fun (W : World) (kW : Keep w W) => implKept_any W v dss (h.keep kW) hx hm)
  have C2 := Lib.hid (fun (W : World) (kW : Keep w W) => implFromOthers_any W v vF dss f (h.keep kW) (hf.keep kW) hx hm hfl)
  have C3 := Lib.hid (fun (W : World) (kW : Keep w W) => implRowWeb_any W v vR dss rows (h.keep kW) (hr.keep kW) hcap hx hm hrl)
  have C4 := Lib.hid (fun (W : World) (kW : Keep w W) => implAgainstWeb_any W v vF vR dss f rows (h.keep kW) (hf.keep kW) (hr.keep kW) hcap hx hm hfl hrl)
  have HE := Lib.hid (sw_chain dss f rows)
  have lA : (kepL dss (eventsB dss)).length ≤ 1048576 := by
    have h9 := eventsB_len9 dss
    have := (kep_line (dss := dss) (es := eventsB dss) (by omega)).1.2.1
    omega
  have lF : (owB dss f).length ≤ 1048576 := by have := owB_len dss f; omega
  have lR : (rwB dss rows).length ≤ 1048576 := by have := rwB_len dss rows; omega
  have lG : (agB dss f rows).length ≤ 1048576 := by have := agB_len dss f rows; omega
  generalize swB dss f rows = L at *
  generalize kepL dss (eventsB dss) = L1 at *
  generalize owB dss f = L2 at *
  generalize rwB dss rows = L3 at *
  generalize agB dss f rows = L4 at *
  clear h hcap hx hm hfl hrl
  obtain ⟨aF, cF, rfl, -⟩ := hf
  obtain ⟨aR, cR, rfl, -⟩ := hr
  go_enter Tryz.func9, Tryz.ntmps9
  have b0 : (w.alloc (.cells #[.slice aF f.length cF, .slice aR rows.length cR] 27)).cell? ⟨w.heap.size, 0, none⟩ = some (.slice aF f.length cF) := box_cell (Keep.refl _) 0
  have b1 : (w.alloc (.cells #[.slice aF f.length cF, .slice aR rows.length cR] 27)).cell? ⟨w.heap.size, 1, none⟩ = some (.slice aR rows.length cR) := box_cell (Keep.refl _) 1
  have K0 : Keep w (w.alloc (.cells #[.slice aF f.length cF, .slice aR rows.length cR] 27)).drew := ((Keep.refl w).alloc _).drew
  have z0 : w.heap.size < (w.alloc (.cells #[.slice aF f.length cF, .slice aR rows.length cR] 27)).drew.heap.size := by simp
  go_wp2_with fail
  go_cut [5] from 6 (fun s wx => ∃ u1 u2 u3 u4 : Value, ∃ w9 : World, s = .slice (some ⟨w9.heap.size, 0, none⟩) 4 4 ∧ wx = w9.alloc (.cells #[u1, u2, u3, u4] 25) ∧ Rd w9 u1 L1 ∧ Rd w9 u2 L2 ∧ Rd w9 u3 L3 ∧ Rd w9 u4 L4 ∧ Keep w w9)
  case first =>
    go_region_held3 (fun w' => w'.cell? ⟨w.heap.size, 0, none⟩ = some (.slice aF f.length cF) ∧ w'.cell? ⟨w.heap.size, 1, none⟩ = some (.slice aR rows.length cR))
      (first | go_keep | (go_split_ands; refine ⟨?_, ?_⟩ <;> (rw [kk.cell (by assumption)]; assumption)))
      ((first
        | (go_at_call 41; refine (C1.out _ K0).mono ?_; rintro e w1 ⟨v1, rfl, o1, kk⟩; have z1 : w.heap.size < w1.heap.size := Nat.lt_of_lt_of_le z0 kk.size; have K1 := K0.trans kk; have r1 := o1.rd; clear o1; obtain ⟨a1, c1, rfl, -⟩ := id r1)
        | (go_at_call 11; refine (C2.out _ K1).mono ?_; clear kk; rintro e w2 ⟨v2, rfl, o2, kk⟩; have z2 : w.heap.size < w2.heap.size := Nat.lt_of_lt_of_le z1 kk.size; have K2 := K1.trans kk; have r2 := o2.rd; replace r1 := r1.keep kk; clear o2; obtain ⟨a2, c2, rfl, -⟩ := id r2)
        | (go_at_call 42; refine (C3.out _ K2).mono ?_; clear kk; rintro e w3 ⟨v3, rfl, o3, kk⟩; have z3 : w.heap.size < w3.heap.size := Nat.lt_of_lt_of_le z2 kk.size; have K3 := K2.trans kk; have r3 := o3.rd; replace r1 := r1.keep kk; replace r2 := r2.keep kk; clear o3; obtain ⟨a3, c3, rfl, -⟩ := id r3)
        | (go_at_call 43; refine (C4.out _ K3).mono ?_; clear kk; rintro e w4 ⟨v4, rfl, o4, kk⟩; have z4 : w.heap.size < w4.heap.size := Nat.lt_of_lt_of_le z3 kk.size; have K4 := K3.trans kk; have r4 := o4.rd; replace r1 := r1.keep kk; replace r2 := r2.keep kk; replace r3 := r3.keep kk; clear o4; obtain ⟨a4, c4, rfl, -⟩ := id r4)))
    all_goals
      go_wp2
      go_meet
      case rel => exact ⟨_, _, _, _, w4, rfl, rfl, r1, r2, r3, r4, K4⟩
  case rest =>
    obtain ⟨u1, u2, u3, u4, w9, rfl, rfl, r1, r2, r3, r4, K9⟩ := hcut
    have k9 : Keep w9 (w9.alloc (.cells #[u1, u2, u3, u4] 25)) := (Keep.refl w9).alloc _
    have C := toOne_four _ w9.heap.size u1 u2 u3 u4 L1 L2 L3 L4 (heap_alloc_new w9 _) (r1.keep k9) (r2.keep k9) (r3.keep k9) (r4.keep k9) lA lF lR lG
    have b9 : w.heap.size ≤ (w9.alloc (.cells #[u1, u2, u3, u4] 25)).heap.size := (K9.trans k9).size
    rw [HE.out] at C
    go_wp2_with fail
    refine C.mono ?_
    rintro e wa ⟨va, rfl, oa, ka⟩
    have KA := (K9.trans k9).trans ka
    have OA := oa.base_le b9
    clear oa ka C
    obtain ⟨aa, ca, rfl, -⟩ := id OA.rd
    go_wp2
    go_ret
    exact ⟨_, rfl, OA, KA⟩
end Go.Proofs.YtkbkdlaknmgjpaaGreat

/- Contract of the program's helper that asks for any number of tests, at the one for one place. -/
namespace Go.Proofs.YtkbkdlaknmgjpaaGreat
open Go.ChangeShapes Go.WideShapes Go.ChangeAt Go.RowKit

set_option maxHeartbeats 1000000 in
theorem pass_at (w : World) (g : Nat) (x0 x1 : Int) (x2 : Bool) (x3 x4 x5 y0 y1 : Int) (y2 : Bool) (y3 y4 y5 : Int) (hg : w.cell? ⟨g, 0, none⟩ = some (.func (Fn.func 91) #[] #[])) :
    Calls Tryz.prog 137 #[eA x0 x1 x2 x3 x4 x5, eA y0 y1 y2 y3 y4 y5, .slice (some ⟨g, 0, none⟩) 1 1] w fun e w' => e = .returned (.bool (onpE (x0, x1, x2, x3, x4, x5) (y0, y1, y2, y3, y4, y5))) ∧ Keep w w' := by
  have hgl := block_lt hg
  have C := fun (w1 : World) (_ : Keep w w1) => areAt_any w1 x0 x1 x2 x3 x4 x5 y0 y1 y2 y3 y4 y5
  generalize onpE (x0, x1, x2, x3, x4, x5) (y0, y1, y2, y3, y4, y5) = B at C ⊢
  have C2 := C _ (((Keep.refl w).alloc (.cells #[.int .i64 x0, .int .i64 x1, .bool x2, .int .i64 x3, .int .i64 x4, .int .i64 x5] 40)).alloc (.cells #[.int .i64 y0, .int .i64 y1, .bool y2, .int .i64 y3, .int .i64 y4, .int .i64 y5] 40))
  clear C
  go_enter Tryz.func137, Tryz.ntmps137
  go_wp2_with fail
  refine wp_loop_rounds 2 ?_
  rw [rounds_succ]
  go_wp2_with fail
  refine C2.mono ?_
  rintro e w1 ⟨rfl, k1⟩
  have K := (((Keep.refl w).alloc _).alloc _).trans k1
  cases B
  · go_wp2
    go_ret
    exact ⟨rfl, K⟩
  · go_wp2
    rw [rounds_succ]
    go_wp2
    go_ret
    exact ⟨rfl, K⟩
end Go.Proofs.YtkbkdlaknmgjpaaGreat

/- Contract of the program's AtOnePlace. -/
namespace Go.Proofs.YtkbkdlaknmgjpaaGreat
open Go.ChangeShapes Go.WideShapes Go.ChangeAt Go.RowKit

theorem col_plc (dss : List (List Dd)) : colAll (tQ onpE (eventsB dss)) (eventsB dss).length (eventsB dss).length = plcL (eventsB dss) := by
  cases hb : workB dss with
  | false => rw [eventsB, hb]; rfl
  | true => rw [eventsB, if_pos hb, ← plc_same hb]
set_option maxHeartbeats 1000000 in
theorem implAtOnePlace_any (w : World) (v : Value) (dss : List (List Dd)) (h : RdW w v dss) (hx : dss.length ≤ 1048576) (hm : ∀ i, i < dss.length → (dss.getD i []).length ≤ 1048576) :
    Calls Tryz.prog 126 #[v] w fun e w' => ∃ v', e = .returned v' ∧ Row w' w.heap.size v' (plcL (eventsB dss)) ∧ Keep w w' := by
  have C := fun (w0 : World) (k0 : Keep w w0) (g : Nat) (hg : w0.cell? ⟨g, 0, none⟩ = some (.func (Fn.func 91) #[] #[])) =>
    linesOf_any w0 v (.slice (some ⟨g, 0, none⟩) 1 1) dss onpE (h.keep k0) hx hm (fun i j _ _ x0 x1 x2 x3 x4 x5 y0 y1 y2 y3 y4 y5 _ _ _ w1 k1 => pass_at w1 g x0 x1 x2 x3 x4 x5 y0 y1 y2 y3 y4 y5 ((k1.cell (block_lt hg)).trans hg))
  rw [col_plc] at C
  go_enter Tryz.func126, Tryz.ntmps126
  go_wp2_with fail
  refine (C _ ((Keep.refl w).alloc _) _ ?_).mono ?_
  · simp
  rintro e w1 ⟨v1, rfl, r1, k1⟩
  go_wp2
  go_ret
  exact ⟨_, rfl, r1.base_le (by rw [heap_size]; omega), ((Keep.refl w).alloc _).trans k1⟩
end Go.Proofs.YtkbkdlaknmgjpaaGreat

/- Contracts of the program's joining (a closure that keeps the lines so far) and PlaceWeb. -/
namespace Go.Proofs.YtkbkdlaknmgjpaaGreat
open Go.ChangeShapes Go.WideShapes Go.ChangeAt Go.RowKit

theorem joining_any (w : World) (a : Option Addr) (n c : Nat) :
    Calls Tryz.prog 125 #[.slice a n c] w fun e w' => e = .returned (.func (Fn.func 162) #[] #[.pointer (some ⟨w.heap.size, 0, none⟩)]) ∧ w' = w.alloc (.cells #[.slice a n c] 25) := by
  go_enter Tryz.func125, Tryz.ntmps125
  go_wp2
  go_ret
  exact ⟨rfl, rfl⟩
set_option maxHeartbeats 1000000 in
theorem joins_any (w : World) (g : Nat) (u v : Value) (xs ys : List Int) (hg : w.heap[g]? = some (.cells #[u] 25 (0, 0))) (h1 : Rd w u xs) (h2 : Rd w v ys) (n1 : xs.length ≤ 1048576) (n2 : ys.length ≤ 1048576) :
    Calls Tryz.prog 162 #[v, .pointer (some ⟨g, 0, none⟩)] w fun e w' => ∃ v', e = .returned v' ∧ Row w' w.heap.size v' (mixL orI xs ys) ∧ w'.heap[g]? = some (.cells #[v'] 25 (0, 0)) ∧ w.grownBy w' (some g) := by
  have hgl : g < w.heap.size := (Array.getElem?_eq_some_iff.1 hg).1
  have c0 : w.cell? ⟨g, 0, none⟩ = some u := by rw [cell_of_row w g 0 _ _ _ hg]; rfl
  have C := implJoined_any w u v xs ys h1 h2 n1 n2
  obtain ⟨a1, c1, rfl, -⟩ := h1
  obtain ⟨a2, c2, rfl, -⟩ := h2
  go_enter Tryz.func162, Tryz.ntmps162
  go_wp2_with fail
  refine C.mono ?_
  rintro e w1 ⟨v', rfl, o, k⟩
  have hg1 := (Below.block k g hgl).trans hg
  have f1 : w1.frozen? ⟨g, 0, none⟩ = false := frozen_of_row w1 g 0 _ _ hg1
  have HS := Lib.hid (heap_setCell_same w1 g 0 _ _ v' hg1)
  have HG := Lib.hid (grown_set w1 g 0 v')
  have d0 : w1.cell? ⟨g, 0, none⟩ = some (.slice a1 xs.length c1) := (k.cell hgl).trans c0
  have HO : Row (w1.setCell ⟨g, 0, none⟩ v') w.heap.size v' (mixL orI xs ys) := o.kept HG.out (by
    cases hv : v'.ownBlock with
    | none => exact .inl rfl
    | some q => exact .inr (fun e => by have := o.ge q hv; have := Option.some.inj e; omega))
  have HW : w.grownBy (w1.setCell ⟨g, 0, none⟩ v') (some g) := grown_trans ⟨Below.os k, Below.tape k, Below.output k, Below.size k, fun i hi _ => Below.block k i hi⟩ HG.out
  have HE := Lib.hid HW
  clear HW hg1 C
  obtain ⟨a3, c3, rfl, -⟩ := o.rd
  go_wp2
  go_ret
  exact ⟨_, rfl, HO, HS.out, HE.out⟩
/-- The box of the lines turns, all that lay ahead of it stays. -/
theorem Keep.box {a w w' : World} {g : Nat} (h : Keep a w) (hg : w.grownBy w' (some g)) (hl : a.heap.size ≤ g) : Keep a w' := h.grown hg (fun k hk => by have := Option.some.inj hk; omega)
set_option maxRecDepth 100000 in
set_option maxHeartbeats 2000000 in
theorem implPlaceWeb_any (w : World) (v vF vR : Value) (dss : List (List Dd)) (f rows : List Int) (h : RdW w v dss) (hf : Rd w vF f) (hr : Rd w vR rows) (hcap : rows.length ≤ capZ vR) (hx : dss.length ≤ 1048576) (hm : ∀ i, i < dss.length → (dss.getD i []).length ≤ 1048576) (hfl : f.length ≤ 1048576) (hrl : rows.length ≤ 1048576) :
    Calls Tryz.prog 75 #[v, .agg #[vF, vR]] w fun e w' => ∃ v', e = .returned v' ∧ Row w' w.heap.size v' (pwB dss f rows) ∧ Keep w w' := by
  have CA := fun (W : World) (kW : Keep w W) => implAtOnePlace_any W v dss (h.keep kW) hx hm
  have CF := fun (W : World) (kW : Keep w W) => implFromWeb_any W v vF dss f (h.keep kW) (hf.keep kW) hx hm hfl
  have CR := fun (W : World) (kW : Keep w W) => implRowWeb_any W v vR dss rows (h.keep kW) (hr.keep kW) hcap hx hm hrl
  have CG := fun (W : World) (kW : Keep w W) => implAgainstWeb_any W v vF vR dss f rows (h.keep kW) (hf.keep kW) (hr.keep kW) hcap hx hm hfl hrl
  have HE := Lib.hid (pw_chain dss f rows)
  have lA : (plcL (eventsB dss)).length ≤ 1048576 := by
    have h9 := eventsB_len9 dss
    have := (plc_line (es := eventsB dss) (by omega)).1.2.1
    omega
  have lF : (fwB dss f).length ≤ 1048576 := by have := fwB_len dss f; omega
  have lR : (rwB dss rows).length ≤ 1048576 := by have := rwB_len dss rows; omega
  have lG : (agB dss f rows).length ≤ 1048576 := by have := agB_len dss f rows; omega
  have l1 := fun (a b : List Int) => (show (mixL orI a b).length ≤ 1048576 by have := mixL_len orI a b; omega)
  unfold chnL at HE
  generalize pwB dss f rows = L at *
  generalize plcL (eventsB dss) = LA at *
  generalize fwB dss f = LF at *
  generalize rwB dss rows = LR at *
  generalize agB dss f rows = LG at *
  obtain ⟨aF, cF, rfl, -⟩ := hf
  obtain ⟨aR, cR, rfl, -⟩ := hr
  go_enter Tryz.func75, Tryz.ntmps75
  go_wp2_with fail
  refine (CA _ ((Keep.refl w).alloc _)).mono ?_
  rintro e w1 ⟨v1, rfl, o1, k1⟩
  have K1 := ((Keep.refl w).alloc _).trans k1
  have s1 := box_size k1
  have hb1 := box_heap k1
  obtain ⟨a1, c1, rfl, -⟩ := o1.rd
  clear k1 CA
  go_wp2_with fail
  refine (joining_any _ _ _ _).mono ?_
  rintro e w2 ⟨rfl, rfl⟩
  have k2 : Keep w1 (w1.alloc (.cells #[.slice a1 LA.length c1] 25)) := (Keep.refl w1).alloc _
  have hg2 : (w1.alloc (.cells #[.slice a1 LA.length c1] 25)).heap[w1.heap.size]? = some (.cells #[.slice a1 LA.length c1] 25 (0, 0)) := heap_alloc_new w1 _
  have K2 := K1.trans k2
  have hb2 := (Below.block k2 w.heap.size s1).trans hb1
  have r2 := o1.rd.keep k2
  have s2 : w1.heap.size < (w1.alloc (.cells #[.slice a1 LA.length c1] 25)).heap.size := by rw [heap_size]; omega
  generalize w1.alloc (.cells #[.slice a1 LA.length c1] 25) = w2 at *
  clear k2 hb1
  have c20 : w2.cell? ⟨w.heap.size, 0, none⟩ = some (.slice aF f.length cF) := by rw [cell_of_row w2 _ 0 _ _ _ hb2]; rfl
  go_wp2_with fail
  refine (CF _ K2).mono ?_
  rintro e w3 ⟨v3, rfl, o3, k3⟩
  clear CF c20
  have hg3 := (Below.block k3 w1.heap.size s2).trans hg2
  have hb3 := (Below.block k3 w.heap.size (by omega)).trans hb2
  have K3 := K2.trans k3
  have s3 := k3.size
  go_wp2_with fail
  refine (joins_any _ _ _ _ _ _ hg3 (r2.keep k3) o3.rd lA lF).mono ?_
  rintro e w4 ⟨v4, rfl, o4, hg4, g4⟩
  have K4 : Keep w w4 := K3.box g4 (by omega)
  have hb4 := (g4.block w.heap.size (by omega) (fun e => by have := Option.some.inj e; omega)).trans hb3
  have s4 := g4.size
  have c41 : w4.cell? ⟨w.heap.size, 1, none⟩ = some (.slice aR rows.length cR) := by rw [cell_of_row w4 _ 1 _ _ _ hb4]; rfl
  clear k3 hg3 hb3 K3 hg2 hb2 K2 r2 g4 o3
  go_wp2_with fail
  refine (CR _ K4).mono ?_
  rintro e w5 ⟨v5, rfl, o5, k5⟩
  clear CR c41
  have hg5 := (Below.block k5 w1.heap.size (by omega)).trans hg4
  have hb5 := (Below.block k5 w.heap.size (by omega)).trans hb4
  have K5 := K4.trans k5
  have s5 := k5.size
  go_wp2_with fail
  refine (joins_any _ _ _ _ _ _ hg5 (o4.rd.keep k5) o5.rd (l1 _ _) lR).mono ?_
  rintro e w6 ⟨v6, rfl, o6, hg6, g6⟩
  have K6 : Keep w w6 := K5.box g6 (by omega)
  have hb6 := (g6.block w.heap.size (by omega) (fun e => by have := Option.some.inj e; omega)).trans hb5
  have s6 := g6.size
  have c60 : w6.cell? ⟨w.heap.size, 0, none⟩ = some (.slice aF f.length cF) := by rw [cell_of_row w6 _ 0 _ _ _ hb6]; rfl
  have c61 : w6.cell? ⟨w.heap.size, 1, none⟩ = some (.slice aR rows.length cR) := by rw [cell_of_row w6 _ 1 _ _ _ hb6]; rfl
  clear k5 hg5 hb5 K5 hg4 hb4 K4 g6 o5 o4
  go_wp2_with fail
  refine (CG _ K6).mono ?_
  rintro e w7 ⟨v7, rfl, o7, k7⟩
  clear CG c60 c61
  have hg7 := (Below.block k7 w1.heap.size (by omega)).trans hg6
  have K7 := K6.trans k7
  have s7 := k7.size
  go_wp2_with fail
  refine (joins_any _ _ _ _ _ _ hg7 (o6.rd.keep k7) o7.rd (l1 _ _) lG).mono ?_
  rintro e w8 ⟨v8, rfl, o8, -, g8⟩
  have K8 : Keep w w8 := K7.box g8 (by omega)
  clear k7 hg7 hg6 K6 g8 o7 o6
  have HO : Row w8 w.heap.size v8 L := by rw [← HE.out]; exact o8.base_le (by omega)
  clear HE o8
  go_wp2
  go_ret
  exact ⟨_, rfl, HO, K8⟩
end Go.Proofs.YtkbkdlaknmgjpaaGreat

/- Contract of the program's TaleOk. -/
namespace Go.Proofs.YtkbkdlaknmgjpaaGreat
open Go.ChangeShapes Go.WideShapes Go.ChangeAt Go.RowKit

set_option maxRecDepth 100000 in
theorem implTaleOk_any (w : World) (v vF vR : Value) (dss : List (List Dd)) (f rows : List Int) (h : RdW w v dss) (hf : Rd w vF f) (hr : Rd w vR rows) (hcap : rows.length ≤ capZ vR) (hx : dss.length ≤ 1048576) (hm : ∀ i, i < dss.length → (dss.getD i []).length ≤ 1048576) (hfl : f.length ≤ 1048576) (hrl : rows.length ≤ 1048576) :
    Calls Tryz.prog 74 #[v, .agg #[vF, vR]] w fun e w' => e = .returned (.bool (taleB dss f rows)) ∧ Keep w w' := by
  have C := fun (W : World) (kW : Keep w W) => pageOf_any W v vF vR dss f rows (h.keep kW) (hf.keep kW) (hr.keep kW) hcap hx hm hfl hrl
  have CB := fun (W : World) => isBlank_any W (pageB dss f rows) (pageB_len dss f rows)
  have HB : Hid (blankB (pageB dss f rows) = !taleB dss f rows) := Lib.hid (page_blank dss f rows)
  obtain ⟨aF, cF, rfl, -⟩ := hf
  obtain ⟨aR, cR, rfl, -⟩ := hr
  rw [HB.out] at CB
  generalize taleB dss f rows = T at CB ⊢
  generalize pgV (pageB dss f rows) = P at C CB
  clear HB
  go_enter Tryz.func74, Tryz.ntmps74
  go_wp2_with fail
  refine (C _ ((Keep.refl w).alloc _)).mono ?_
  rintro e w1 ⟨rfl, k1⟩
  go_wp2_with fail
  refine (CB _).mono ?_
  rintro e w2 ⟨rfl, k2⟩
  go_wp2
  go_ret
  exact ⟨by simp, (((Keep.refl w).alloc _).trans k1).trans k2⟩
end Go.Proofs.YtkbkdlaknmgjpaaGreat

/- Contract of the program's InSet. -/
namespace Go.Proofs.YtkbkdlaknmgjpaaGreat
open Go.ChangeShapes Go.WideShapes Go.ChangeAt Go.RowKit

theorem implInSet_any (s i : Int) (w : World) :
    Calls Tryz.prog 18 #[.int .i64 s, .int .i64 i] w fun e w' => e = .returned (.bool (inSetB s i)) ∧ w' = w := by
  go_enter Tryz.func18, Tryz.ntmps18
  go_wp2_with (go_at_call 60; refine (has_any _ _ _).mono ?_; rintro e w' ⟨rfl, rfl⟩)
  go_ret
  exact ⟨rfl, rfl⟩
end Go.Proofs.YtkbkdlaknmgjpaaGreat

/- Contract of the program's Ways. -/
namespace Go.Proofs.YtkbkdlaknmgjpaaGreat
open Go.ChangeShapes Go.WideShapes Go.ChangeAt Go.RowKit

theorem wayIn_hit (k : Nat) (st : List Int) (i : Nat) (h : inSetB ((wayIn k st i).getD i 0) k = true) : wayIn k st (i + 1) = (wayIn k st i).set i (orI ((wayIn k st i).getD i 0) ((wayIn k st i).getD k 0)) := by
  conv => lhs; unfold wayIn
  rw [if_pos h]
theorem wayIn_miss (k : Nat) (st : List Int) (i : Nat) (h : inSetB ((wayIn k st i).getD i 0) k = false) : wayIn k st (i + 1) = wayIn k st i := by
  conv => lhs; unfold wayIn
  rw [h]; rfl
set_option maxRecDepth 100000 in
set_option maxHeartbeats 3200000 in
theorem implWays_any (w : World) (v : Value) (zs : List Int) (h : Rd w v zs) (hn : zs.length ≤ 1048576) :
    Calls Tryz.prog 76 #[v] w fun e w' => ∃ v', e = .returned v' ∧ Row w' w.heap.size v' (waysL zs) ∧ Keep w w' := by
  cases ht : webB zs
  · go_enter Tryz.func76, Tryz.ntmps76
    go_wp2_with fail
    refine (implWebOk_any _ _ _ h hn).mono ?_
    rintro e w' ⟨rfl, rfl⟩
    go_wp2
    go_ret
    exact ⟨_, rfl, by unfold waysL; rw [ht]; exact row_empty _ _, (Keep.refl _).alloc _⟩
  · have hz12 := webB_len ht
    have HX : Hid (Web zs.length zs) := web_iff.1 ht
    have HB : Hid (waysL zs = wayAll zs zs.length) := by show _ = _; unfold waysL; rw [if_pos ht]
    go_enter Tryz.func76, Tryz.ntmps76
    go_wp2_with fail
    refine (implWebOk_any _ _ _ h hn).mono ?_
    rintro e w' ⟨rfl, rfl⟩
    go_wp2_with fail
    refine (owned_any _ _ _ h hz12).mono ?_
    rintro e w1 ⟨rfl, rb, k1⟩
    clear h
    go_wp2_with fail
    go_loopw [15] (fun i wr => ∃ k : Nat, k ≤ zs.length ∧ i = .int .i64 k ∧ RowAt wr w'.heap.size (wayAll zs k) ∧ Keep w' wr) (fun i _ => zs.length - (intOf i).toNat)
    case atStart => exact ⟨0, Nat.zero_le _, rfl, rb, k1⟩
    case round =>
      obtain ⟨k, hk, rfl, hr, hK⟩ := hrel
      clear rb k1
      by_cases hlt : k < zs.length
      · have HT : Hid (Web zs.length (wayAll zs k)) := web_wayAll HX.out k hk
        have HE : Hid (wayIn k (wayAll zs k) zs.length = wayAll zs (k + 1)) := rfl
        generalize wayAll zs k = T at *
        obtain ⟨wo, rfl⟩ : ∃ wo : World, wo = wr := ⟨_, rfl⟩
        go_wp2_with fail
        go_loopw [20] (fun i wr => ∃ m : Nat, m ≤ zs.length ∧ i = .int .i64 m ∧ RowAt wr w'.heap.size (wayIn k T m) ∧ Keep w' wr) (fun i _ => zs.length - (intOf i).toNat)
        case atStart => exact ⟨0, Nat.zero_le _, rfl, hr, hK⟩
        case round =>
          clear hr hK
          obtain ⟨m, hm, rfl, hr, hK⟩ := hrel
          by_cases hml : m < zs.length
          · have hB := (web_wayIn hlt HT.out m hm).1
            have hBl := hB.2.1
            clear hB
            have d0 := hr.cell (j := m) (by omega)
            have d1 := hr.cell (j := k) (by omega)
            have d2 := hr.free m
            cases hb : inSetB ((wayIn k T m).getD m 0) k
            · have HM : Hid (wayIn k T (m + 1) = wayIn k T m) := wayIn_miss k T m hb
              rw [← HM.out] at hr
              generalize (wayIn k T m).getD m 0 = x at *
              generalize (wayIn k T m).getD k 0 = y at *
              clear d1 d2 HM
              go_wp2_with fail
              refine (implInSet_any _ _ _).mono ?_
              rintro e w2 ⟨rfl, rfl⟩
              go_wp2
              go_roundw
              case rel => exact ⟨m + 1, by omega, by go_num, hr, hK⟩
              case measure => simp [intOf]; omega
            · have HM : Hid (wayIn k T (m + 1) = (wayIn k T m).set m (orI ((wayIn k T m).getD m 0) ((wayIn k T m).getD k 0))) := wayIn_hit k T m hb
              have hs := hr.set m (orI ((wayIn k T m).getD m 0) ((wayIn k T m).getD k 0))
              rw [← HM.out] at hs
              have hK2 := hK.grown (grown_set wr w'.heap.size m (.int .i64 (orI ((wayIn k T m).getD m 0) ((wayIn k T m).getD k 0)))) (by simp)
              clear HM hr
              generalize (wayIn k T m).getD m 0 = x at *
              generalize (wayIn k T m).getD k 0 = y at *
              have i1 : (0 : Int) ≤ (m : Int) := Int.natCast_nonneg _
              have i2 : (m : Int) < (zs.length : Int) := by omega
              have i3 : (0 : Int) ≤ (k : Int) := Int.natCast_nonneg _
              have i4 : (k : Int) < (zs.length : Int) := by omega
              go_wp2_with fail
              refine (implInSet_any _ _ _).mono ?_
              rintro e w2 ⟨rfl, rfl⟩
              go_wp2
              go_region
              go_wp2
              go_roundw
              case rel => exact ⟨m + 1, by omega, by go_num, hs.drew, hK2.drew⟩
              case measure => simp [intOf]; omega
          · obtain rfl : m = zs.length := by omega
            rw [HE.out] at hr
            go_wp2
            go_roundw
            case rel => exact ⟨k + 1, by omega, by go_num, hr, hK⟩
            case measure => simp [intOf]; omega
      · obtain rfl : k = zs.length := by omega
        go_wp2
        go_ret
        refine ⟨_, rfl, ?_, hK⟩
        rw [HB.out]
        exact row_new hr (Nat.le_refl _) (wayAll_len zs _)
end Go.Proofs.YtkbkdlaknmgjpaaGreat

/- Contract of the program's Round. -/
namespace Go.Proofs.YtkbkdlaknmgjpaaGreat
open Go.ChangeShapes Go.WideShapes Go.ChangeAt Go.RowKit

theorem roundI_yes {zs : List Int} {k : Nat} (hk : k < (waysL zs).length) (h : inSetB ((waysL zs).getD k 0) k = true) : roundB zs = true := by
  cases ht : webB zs
  · exfalso; unfold waysL at hk; rw [ht] at hk; simp at hk
  · have hl := (web_ways (web_iff.1 ht)).2.1
    unfold roundB
    rw [ht, Bool.true_and, List.any_eq_true]
    exact ⟨k, List.mem_range.2 (by omega), h⟩
theorem roundI_no {zs : List Int} (h : ∀ i, i < (waysL zs).length → inSetB ((waysL zs).getD i 0) i = false) : roundB zs = false := by
  cases ht : webB zs
  · unfold roundB; rw [ht]; rfl
  · have hl := (web_ways (web_iff.1 ht)).2.1
    unfold roundB
    rw [ht, Bool.true_and, List.any_eq_false]
    intro i hi
    have := h i (by have := List.mem_range.1 hi; omega)
    unfold line
    rw [this]; simp
theorem waysI_len (a : List Int) : (waysL a).length ≤ 12 := by
  cases ht : webB a
  · unfold waysL; rw [ht]; simp
  · have hw := web_ways (web_iff.1 ht)
    have := hw.1; have := hw.2.1; omega
set_option maxHeartbeats 1000000 in
theorem implRound_any (w : World) (v : Value) (zs : List Int) (h : Rd w v zs) (hn : zs.length ≤ 1048576) :
    Calls Tryz.prog 37 #[v] w fun e w' => e = .returned (.bool (roundB zs)) ∧ Keep w w' := by
  have hY : Hid (∀ k, k < (waysL zs).length → inSetB ((waysL zs).getD k 0) k = true → roundB zs = true) := fun k => roundI_yes
  have hN : Hid ((∀ i, i < (waysL zs).length → inSetB ((waysL zs).getD i 0) i = false) → roundB zs = false) := roundI_no
  have hl := waysI_len zs
  go_enter Tryz.func37, Tryz.ntmps37
  go_wp2_with fail
  refine (implWays_any _ _ _ h hn).mono ?_
  rintro e w1 ⟨v1, rfl, r1, k1⟩
  clear h
  generalize waysL zs = W at *
  obtain ⟨a, c, rfl, hr⟩ := r1.rd
  clear r1
  go_wp2
  go_loop [8] (fun i => ∃ k : Nat, k ≤ W.length ∧ i = .int .i64 k ∧ ∀ j : Nat, j < k → inSetB (W.getD j 0) j = false) (fun i => W.length - (intOf i).toNat)
  case atStart => exact ⟨0, Nat.zero_le _, rfl, fun j hj => by omega⟩
  case round =>
    obtain ⟨k, hk, rfl, hall⟩ := hrel
    have HA : Hid (∀ j : Nat, j < k → inSetB (W.getD j 0) j = false) := hall
    clear hall
    by_cases hlt : k < W.length
    · rcases hr with hr | ⟨b, o, rfl, hb, hc⟩
      · exfalso; rw [hr] at hlt; simp at hlt
      have d0 := hc k hlt
      have HY : Hid (inSetB (W.getD k 0) k = true → roundB zs = true) := hY.out k hlt
      clear hc hY
      cases hbit : inSetB (W.getD k 0) k
      · have HB : Hid (inSetB (W.getD k 0) k = false) := hbit
        obtain ⟨x, hx⟩ : ∃ x, x = W.getD k 0 := ⟨_, rfl⟩
        have HX : Hid (x = W.getD k 0) := hx
        rw [← hx] at d0 hbit
        clear hx HY
        go_wp2_with fail
        refine (implInSet_any _ _ _).mono ?_
        rintro e w2 ⟨rfl, rfl⟩
        go_wp2
        go_round
        case rel =>
          refine ⟨k + 1, by omega, by go_num, fun j hj => ?_⟩
          by_cases e : j = k
          · subst e; exact HB.out
          · exact HA.out j (by omega)
        case measure => simp [intOf]; omega
      · have HB : Hid (roundB zs = true) := HY.out hbit
        clear HY
        obtain ⟨x, hx⟩ : ∃ x, x = W.getD k 0 := ⟨_, rfl⟩
        have HX : Hid (x = W.getD k 0) := hx
        rw [← hx] at d0 hbit
        clear hx
        go_wp2_with fail
        refine (implInSet_any _ _ _).mono ?_
        rintro e w2 ⟨rfl, rfl⟩
        go_wp2
        go_ret
        exact ⟨ret_bool HB.out.symm, k1⟩
    · go_wp2
      go_ret
      exact ⟨ret_bool (hN.out fun i hi => HA.out i (by omega)).symm, k1⟩
end Go.Proofs.YtkbkdlaknmgjpaaGreat

/- Contract of the program's EachOk. -/
namespace Go.Proofs.YtkbkdlaknmgjpaaGreat
open Go.ChangeShapes Go.WideShapes Go.ChangeAt Go.RowKit

set_option maxRecDepth 100000 in
set_option maxHeartbeats 2000000 in
theorem implEachOk_any (w : World) (v vF vR : Value) (dss : List (List Dd)) (f rows : List Int) (h : RdW w v dss) (hf : Rd w vF f) (hr : Rd w vR rows) (hcap : rows.length ≤ capZ vR) (hx : dss.length ≤ 1048576) (hm : ∀ i, i < dss.length → (dss.getD i []).length ≤ 1048576) (hfl : f.length ≤ 1048576) (hrl : rows.length ≤ 1048576) :
    Calls Tryz.prog 36 #[v, .agg #[vF, vR]] w fun e w' => e = .returned (.bool (eachB dss f rows)) ∧ Keep w w' := by
  have C := fun (W : World) (kW : Keep w W) => implTaleOk_any W v vF vR dss f rows (h.keep kW) (hf.keep kW) (hr.keep kW) hcap hx hm hfl hrl
  have CP := fun (W : World) (kW : Keep w W) => implPlaceWeb_any W v vF vR dss f rows (h.keep kW) (hf.keep kW) (hr.keep kW) hcap hx hm hfl hrl
  have lP : (pwB dss f rows).length ≤ 1048576 := by have := pwB_len dss f rows; omega
  obtain ⟨aF, cF, rfl, -⟩ := hf
  obtain ⟨aR, cR, rfl, -⟩ := hr
  cases hb : taleB dss f rows
  · have HE : Hid (eachB dss f rows = false) := Lib.hid (by rw [eachB, hb]; rfl)
    rw [hb] at C
    clear CP lP hb
    generalize eachB dss f rows = T at *
    go_enter Tryz.func36, Tryz.ntmps36
    go_wp2_with fail
    refine (C _ ((Keep.refl w).alloc _)).mono ?_
    rintro e w1 ⟨rfl, k1⟩
    have K1 := ((Keep.refl w).alloc _).trans k1
    go_wp2
    go_ret
    exact ⟨ret_bool (by rw [HE.out]), K1⟩
  · have HE : Hid (eachB dss f rows = !roundB (pwB dss f rows)) := Lib.hid (by rw [eachB, pwB, hb]; rfl)
    rw [hb] at C
    clear hb
    generalize eachB dss f rows = T at *
    generalize pwB dss f rows = L at *
    go_enter Tryz.func36, Tryz.ntmps36
    go_wp2_with fail
    refine (C _ ((Keep.refl w).alloc _)).mono ?_
    rintro e w1 ⟨rfl, k1⟩
    have K1 := ((Keep.refl w).alloc _).trans k1
    have b0 := box_cell k1 0
    have b1 := box_cell k1 1
    simp at b0 b1
    clear k1 C
    go_wp2_with fail
    refine (CP _ K1).mono ?_
    rintro e w2 ⟨v2, rfl, o2, k2⟩
    clear CP b0 b1
    go_wp2_with fail
    refine (implRound_any _ _ _ o2.rd lP).mono ?_
    rintro e w3 ⟨rfl, k3⟩
    have K3 := (K1.trans k2).trans k3
    generalize roundB L = R at *
    go_wp2
    go_ret
    exact ⟨ret_bool (by rw [HE.out]), K3⟩
end Go.Proofs.YtkbkdlaknmgjpaaGreat

/- Plain facts on those of one class, and on the program's way of lifting: to a mate, along a line, on to a mate of its end. Nothing of the program. -/
namespace Go.Proofs.YtkbkdlaknmgjpaaGreat
open Go.RowKit

/-- The first k places are done, the others are 0. -/
def mapK (f : Int → Int) (a : List Int) (k : Nat) : List Int := (a.map f).take k ++ List.replicate (a.length - k) 0
theorem mapK_len (f : Int → Int) (a : List Int) {k : Nat} (hk : k ≤ a.length) : (mapK f a k).length = a.length := by
  unfold mapK
  rw [List.length_append, List.length_take, List.length_map, List.length_replicate]; omega
theorem mapK_zero (f : Int → Int) (a : List Int) : mapK f a 0 = List.replicate a.length 0 := by simp [mapK]
theorem mapK_end (f : Int → Int) (a : List Int) : mapK f a a.length = a.map f := by
  unfold mapK
  rw [Nat.sub_self, List.replicate_zero, List.append_nil, List.take_of_length_le (by simp)]
theorem mapK_set (f : Int → Int) (a : List Int) {k : Nat} (hk : k < a.length) : (mapK f a k).set k (f (a.getD k 0)) = mapK f a (k + 1) := by
  unfold mapK
  have hz : k < (a.map f).length := by simpa using hk
  have hl : ((a.map f).take k).length = k := by rw [List.length_take]; omega
  rw [List.set_append_right _ _ (by omega), hl, Nat.sub_self, show a.length - k = (a.length - (k + 1)) + 1 from by omega, List.replicate_succ, List.set_cons_zero, List.take_succ_eq_append_getElem hz, List.append_assoc, List.getElem_map, List.getD_eq_getElem?_getD, List.getElem?_eq_getElem hk]
  rfl
theorem mapK_same (f : Int → Int) (a : List Int) {k : Nat} (hk : k < a.length) : (mapK f a k).set k 0 = mapK f a k := by
  unfold mapK
  have hl : ((a.map f).take k).length = k := by rw [List.length_take, List.length_map]; omega
  rw [List.set_append_right _ _ (by omega), hl, Nat.sub_self, show a.length - k = (a.length - (k + 1)) + 1 from by omega, List.replicate_succ, List.set_cons_zero]
/-- Those of the first m that are of class c. -/
def mateS (cl : List Int) (c : Int) : Nat → Int
  | 0 => 0
  | m + 1 => if c = cl.getD m 0 then gAdd (mateS cl c m) m else mateS cl c m
def matesL (cl : List Int) : List Int := cl.map fun c => mateS cl c cl.length
theorem ok_mate {n : Nat} (hn : n ≤ 12) (cl : List Int) (c : Int) (m : Nat) (hm : m ≤ n) : okB n (mateS cl c m) = true ∧ ∀ j : Nat, inSetB (mateS cl c m) j = true ↔ j < m ∧ c = cl.getD j 0 := by
  induction m with
  | zero => exact ⟨ok_zero hn, fun j => by rw [show mateS cl c 0 = 0 from rfl, zero_bit]; simp⟩
  | succ m ih =>
    have ih := ih (by omega)
    unfold mateS
    by_cases hc : c = cl.getD m 0
    · rw [if_pos hc]
      have ha := ok_add ih.1 (show m < n by omega)
      refine ⟨ha.1, fun j => ?_⟩
      rw [ha.2 j, Bool.or_eq_true, ih.2 j, decide_eq_true_eq]
      constructor
      · rintro (⟨h1, h2⟩ | h)
        · exact ⟨by omega, h2⟩
        · subst h; exact ⟨by omega, hc⟩
      · rintro ⟨h1, h2⟩
        by_cases e : m = j
        · exact .inr e
        · exact .inl ⟨by omega, h2⟩
    · rw [if_neg hc]
      refine ⟨ih.1, fun j => ?_⟩
      rw [ih.2 j]
      constructor
      · rintro ⟨h1, h2⟩; exact ⟨by omega, h2⟩
      · rintro ⟨h1, h2⟩
        have : j ≠ m := fun e => hc (by rw [← e]; exact h2)
        exact ⟨by omega, h2⟩
theorem web_mates {n : Nat} (hn : n ≤ 12) {cl : List Int} (hc : cl.length = n) : Web n (matesL cl) ∧ ∀ i j, i < n → (line (matesL cl) i j = true ↔ j < n ∧ cl.getD i 0 = cl.getD j 0) := by
  have hg : ∀ i, i < n → (matesL cl).getD i 0 = mateS cl (cl.getD i 0) n := by
    intro i hi
    unfold matesL
    subst hc
    rw [List.getD_eq_getElem?_getD, List.getElem?_map, List.getD_eq_getElem?_getD, List.getElem?_eq_getElem hi]
    rfl
  refine ⟨⟨hn, by simp [matesL, hc], fun i hi => ?_⟩, fun i j hi => ?_⟩
  · rw [hg i hi]; exact (ok_mate hn cl _ n (Nat.le_refl _)).1
  · unfold line
    rw [hg i hi]
    exact (ok_mate hn cl _ n (Nat.le_refl _)).2 j
/-- The program's way comes to the same. -/
theorem lift_mates {n : Nat} {zs cl : List Int} (hz : Web n zs) (hc : cl.length = n) : mixL notI (thenL (thenL (matesL cl) zs) (matesL cl)) (matesL cl) = liftL zs cl := by
  have hm := web_mates hz.1 hc
  have h1 := web_then hm.1 hz
  have h2 := web_then h1.1 hm.1
  have h3 := web_less h2.1 hm.1
  have hl := web_lift hz hc
  refine h3.1.ext hl.1 fun i j hi hj => ?_
  rw [Bool.eq_iff_iff, h3.2 i j hi, Bool.and_eq_true, h2.2 i j hi, hl.2.2 i j hi, Bool.not_eq_true', ← Bool.not_eq_true, hm.2 i j hi]
  constructor
  · rintro ⟨⟨b, hb, hab, hbj⟩, hne⟩
    obtain ⟨a, ha, hia, hline⟩ := (h1.2 i b hi).1 hab
    have e1 := ((hm.2 i a hi).1 hia).2
    have e2 := ((hm.2 b j hb).1 hbj).2
    exact ⟨hj, fun e => hne ⟨hj, e.symm⟩, a, b, ha, hb, e1.symm, e2, hline⟩
  · rintro ⟨_, hne, a, b, ha, hb, e1, e2, hline⟩
    exact ⟨⟨b, hb, (h1.2 i b hi).2 ⟨a, ha, (hm.2 i a hi).2 ⟨ha, e1.symm⟩, hline⟩, (hm.2 b j hb).2 ⟨hj, e2⟩⟩, fun h => hne h.2.symm⟩
end Go.Proofs.YtkbkdlaknmgjpaaGreat

/- Contract of the program's mates: a new web with a line between each two of one class. -/
namespace Go.Proofs.YtkbkdlaknmgjpaaGreat
open Go.ChangeShapes Go.WideShapes Go.ChangeAt Go.RowKit

theorem mate_hit (cl : List Int) (c : Int) (m : Nat) (h : c = cl.getD m 0) : mateS cl c (m + 1) = gAdd (mateS cl c m) m := by
  conv => lhs; unfold mateS
  rw [if_pos h]
theorem mate_miss (cl : List Int) (c : Int) (m : Nat) (h : ¬ c = cl.getD m 0) : mateS cl c (m + 1) = mateS cl c m := by
  conv => lhs; unfold mateS
  rw [if_neg h]
set_option maxRecDepth 100000 in
set_option maxHeartbeats 3200000 in
theorem mates_any (w : World) (v : Value) (cl : List Int) (h : Rd w v cl) (hn : cl.length ≤ 12) :
    Calls Tryz.prog 78 #[v] w fun e w' => ∃ v', e = .returned v' ∧ Row w' w.heap.size v' (matesL cl) ∧ Keep w w' := by
  obtain ⟨a, c, rfl, h⟩ := h
  have HB : Hid (mapK (fun c => mateS cl c cl.length) cl cl.length = matesL cl) := mapK_end _ _
  have HZ : Hid (mapK (fun c => mateS cl c cl.length) cl 0 = List.replicate cl.length 0) := mapK_zero _ _
  go_enter Tryz.func78, Tryz.ntmps78
  go_wp2_with fail
  refine (blank_any _ _ hn).mono ?_
  rintro e w1 ⟨rfl, rb, k1⟩
  rw [← HZ.out] at rb
  go_wp2_with fail
  go_loopw [13] (fun i wr => ∃ k : Nat, k ≤ cl.length ∧ i = .int .i64 k ∧ RowAt wr w.heap.size (mapK (fun c => mateS cl c cl.length) cl k) ∧ Keep w wr) (fun i _ => cl.length - (intOf i).toNat)
  case atStart => exact ⟨0, Nat.zero_le _, rfl, rb, k1⟩
  case round =>
    obtain ⟨k, hk, rfl, hr, hK⟩ := hrel
    clear rb k1
    by_cases hlt : k < cl.length
    · rcases h with h | ⟨b1, o1, rfl, hb1, hc1⟩
      · exfalso; rw [h] at hlt; simp at hlt
      have d0 := (hK.cell hb1).trans (hc1 k hlt)
      have HE : Hid ((mapK (fun c => mateS cl c cl.length) cl k).set k (mateS cl (cl.getD k 0) cl.length) = mapK (fun c => mateS cl c cl.length) cl (k + 1)) := mapK_set _ cl hlt
      have HS : Hid ((mapK (fun c => mateS cl c cl.length) cl k).set k (mateS cl (cl.getD k 0) 0) = mapK (fun c => mateS cl c cl.length) cl k) := mapK_same _ cl hlt
      have hTl : (mapK (fun c => mateS cl c cl.length) cl k).length = cl.length := mapK_len _ cl hk
      rw [← HS.out] at hr
      obtain ⟨p, hp⟩ : ∃ p, p = cl.getD k 0 := ⟨_, rfl⟩
      have HC : Hid (p = cl.getD k 0) := hp
      rw [← hp] at d0 hr HE
      generalize mapK (fun c => mateS cl c cl.length) cl k = T at *
      clear hp HS
      obtain ⟨wo, rfl⟩ : ∃ wo : World, wo = wr := ⟨_, rfl⟩
      go_wp2_with fail
      go_loopw [20] (fun i wr => ∃ m : Nat, m ≤ cl.length ∧ i = .int .i64 m ∧ RowAt wr w.heap.size (T.set k (mateS cl p m)) ∧ Keep w wr) (fun i _ => cl.length - (intOf i).toNat)
      case atStart => exact ⟨0, Nat.zero_le _, rfl, hr, hK⟩
      case round =>
        clear hr hK
        obtain ⟨m, hm, rfl, hr, hK⟩ := hrel
        by_cases hml : m < cl.length
        · have d1 := (hK.cell hb1).trans (hc1 m hml)
          obtain ⟨q, hq⟩ : ∃ q, q = cl.getD m 0 := ⟨_, rfl⟩
          have HQ : Hid (q = cl.getD m 0) := hq
          rw [← hq] at d1
          clear hq hc1
          have hGl : (T.set k (mateS cl p m)).length = cl.length := by rw [List.length_set, hTl]
          cases he : p == q
          · have HM : Hid (mateS cl p (m + 1) = mateS cl p m) := mate_miss cl p m (by rw [← HQ.out]; simpa using he)
            rw [← HM.out] at hr
            go_wp2
            go_roundw
            case rel => exact ⟨m + 1, by omega, by go_num, hr, hK⟩
            case measure => simp [intOf]; omega
          · have HM : Hid ((T.set k (mateS cl p m)).set k (gAdd ((T.set k (mateS cl p m)).getD k 0) m) = T.set k (mateS cl p (m + 1))) := by
              show _ = _
              rw [getD_set_same T (by omega), set_set_same, mate_hit cl p m (by rw [← HQ.out]; simpa using he)]
            go_wp2_with fail
            refine (line_any _ _ _ _ _ k m hr hGl hlt).mono ?_
            rintro e w4 ⟨rfl, hr4, g4⟩
            rw [HM.out] at hr4
            have hK4 := hK.grown g4 (by simp)
            clear hr hK g4
            go_wp2
            go_roundw
            case rel => exact ⟨m + 1, by omega, by go_num, hr4, hK4⟩
            case measure => simp [intOf]; omega
        · obtain rfl : m = cl.length := by omega
          rw [HE.out] at hr
          go_wp2
          go_roundw
          case rel => exact ⟨k + 1, by omega, by go_num, hr, hK⟩
          case measure => simp [intOf]; omega
    · obtain rfl : k = cl.length := by omega
      go_wp2
      go_ret
      refine ⟨_, rfl, ?_, hK⟩
      rw [← HB.out]
      exact row_new hr (Nat.le_refl _) (mapK_len _ cl (Nat.le_refl _))
end Go.Proofs.YtkbkdlaknmgjpaaGreat

/- Contract of the program's Then. -/
namespace Go.Proofs.YtkbkdlaknmgjpaaGreat
open Go.ChangeShapes Go.WideShapes Go.ChangeAt Go.RowKit

set_option maxRecDepth 100000 in
set_option maxHeartbeats 3200000 in
theorem implThen_web (w : World) (v1 v2 : Value) (xs ys : List Int) (h1 : Rd w v1 xs) (h2 : Rd w v2 ys) (ht : twoB xs ys = true) :
    Calls Tryz.prog 80 #[v1, v2] w fun e w' => ∃ v', e = .returned v' ∧ Row w' w.heap.size v' (xs.map (fun x => thenS x ys 12)) ∧ Keep w w' := by
  have r1 := h1
  have r2 := h2
  obtain ⟨a1, c1, rfl, h1⟩ := h1
  obtain ⟨a2, c2, rfl, h2⟩ := h2
  obtain ⟨hl, wx, wy⟩ := twoB_iff.1 ht
  have hx12 := webB_len wx
  have hl1 : xs.length ≤ ys.length := by omega
  have hl2 : ys.length ≤ xs.length := by omega
  have HX : Hid (webB xs = true) := wx
  clear wx wy hl
  go_enter Tryz.func80, Tryz.ntmps80
  go_wp2_with fail
  refine (areAlike_any _ _ _ _ _ r1 r2 (by omega) (by omega)).mono ?_
  rintro e w' ⟨rfl, rfl⟩
  go_wp2_with fail
  refine (blank_any _ _ hx12).mono ?_
  rintro e w1 ⟨rfl, rb, k1⟩
  rw [← thenK_zero xs ys] at rb
  go_wp2_with fail
  go_loopw [20] (fun i wr => ∃ k : Nat, k ≤ xs.length ∧ i = .int .i64 k ∧ RowAt wr w'.heap.size (thenK xs ys k) ∧ Keep w' wr) (fun i _ => xs.length - (intOf i).toNat)
  case atStart => exact ⟨0, Nat.zero_le _, rfl, rb, k1⟩
  case round =>
    obtain ⟨k, hk, rfl, hr, hK⟩ := hrel
    clear rb k1
    by_cases hlt : k < xs.length
    · rcases h1 with h | ⟨b1, o1, rfl, hb1, hc1⟩
      · exfalso; rw [h] at hlt; simp at hlt
      rcases h2 with h | ⟨b2, o2, rfl, hb2, hc2⟩
      · exfalso; rw [h] at hl1; simp only [List.length_nil] at hl1; omega
      have d0 := (hK.cell hb1).trans (hc1 k hlt)
      have hp : okB xs.length (xs.getD k 0) = true := webB_get HX.out hlt
      have HE : Hid ((thenK xs ys k).set k (thenS (xs.getD k 0) ys 12) = thenK xs ys (k + 1)) := thenK_set xs ys hlt
      have HP : Hid (okB xs.length (xs.getD k 0) = true) := hp
      clear hc1 hp
      generalize xs.getD k 0 = p at *
      have hml := mem_len p 12
      obtain ⟨wo, rfl⟩ : ∃ wo : World, wo = wr := ⟨_, rfl⟩
      go_wp2_with fail
      refine (implMembers_any _ _).mono ?_
      rintro e w3 ⟨vm, rfl, om, k3⟩
      have K3 := hK.trans k3
      have hr3 := hr.keep k3
      have hgo := hr.lt
      rw [← thenK_same xs ys hlt] at hr3
      obtain ⟨am, cm, rfl, hm⟩ := om.rd
      clear hr hK k3 hm
      have hkl : k < (thenK xs ys k).length := by rw [thenK_len xs ys hk]; exact hlt
      generalize thenK xs ys k = T at *
      go_wp2_with fail
      go_loopw [28] (fun i wr => ∃ j : Nat, j ≤ (mem p 12).length ∧ i = .int .i64 j ∧ RowAt wr w'.heap.size (T.set k (((mem p 12).take j).foldl (thenF ys) 0)) ∧ Own wr wo.heap.size (.slice am (mem p 12).length cm) (mem p 12) ∧ Keep w' wr) (fun i _ => (mem p 12).length - (intOf i).toNat)
      case atStart => exact ⟨0, Nat.zero_le _, rfl, hr3, om, K3⟩
      case round =>
        obtain ⟨j, hj, rfl, hr, ho, hK⟩ := hrel
        clear hr3 om K3
        by_cases hjl : j < (mem p 12).length
        · obtain ⟨m, hm, hmn⟩ := mem_at HP.out hjl
          obtain ⟨am', cm', hv, hcm⟩ := ho.rd
          cases hv
          rcases hcm with h | ⟨b3, o3, rfl, hb3, hc3⟩
          · exfalso; rw [h] at hjl; simp at hjl
          have d1 := hc3 j hjl
          rw [hm] at d1
          have d2 := (hK.cell hb2).trans (hc2 m (by omega))
          have d3 := hr.cell (j := k) (by simpa using hkl)
          rw [getD_set_same T hkl] at d3
          have d4 := hr.free k
          have HF : Hid (((mem p 12).take (j + 1)).foldl (thenF ys) 0 = orI (((mem p 12).take j).foldl (thenF ys) 0) (ys.getD m 0)) := by
            show _ = _
            rw [foldl_snoc _ _ _ hjl, hm]; rfl
          have hs := hr.set k (orI (((mem p 12).take j).foldl (thenF ys) 0) (ys.getD m 0))
          rw [set_set_same] at hs
          have ho2 := ho.kept (grown_set wr w'.heap.size k (.int .i64 (orI (((mem p 12).take j).foldl (thenF ys) 0) (ys.getD m 0)))) (by
            right; intro e; have := ho.ge _ e; omega)
          have hK2 := hK.grown (grown_set wr w'.heap.size k (.int .i64 (orI (((mem p 12).take j).foldl (thenF ys) 0) (ys.getD m 0)))) (by simp)
          have i1 : (0 : Int) ≤ (m : Int) := Int.natCast_nonneg _
          have i2 : (m : Int) < (ys.length : Int) := by omega
          have i3 : (0 : Int) ≤ (k : Int) := Int.natCast_nonneg _
          have i4 : (k : Int) < (xs.length : Int) := by omega
          clear hc3 hm hr
          generalize ((mem p 12).take j).foldl (thenF ys) 0 = G at *
          generalize ys.getD m 0 = q at *
          go_wp2
          go_region
          go_wp2
          go_roundw
          case rel => exact ⟨j + 1, by omega, by go_num, by rw [HF.out]; exact hs.drew, ho2.keep (Keep.refl _).drew, hK2.drew⟩
          case measure => simp [intOf]; omega
        · obtain rfl : j = (mem p 12).length := by omega
          rw [List.take_length, thenS_fold, HE.out] at hr
          go_wp2
          go_roundw
          case rel => exact ⟨k + 1, by omega, by go_num, hr, hK⟩
          case measure => simp [intOf]; omega
    · obtain rfl : k = xs.length := by omega
      rw [thenK_end] at hr
      go_wp2
      go_ret
      exact ⟨_, rfl, row_new hr (Nat.le_refl _) (by simp), hK⟩
theorem implThen_any (w : World) (v1 v2 : Value) (xs ys : List Int) (h1 : Rd w v1 xs) (h2 : Rd w v2 ys) (n1 : xs.length ≤ 1048576) (n2 : ys.length ≤ 1048576) :
    Calls Tryz.prog 80 #[v1, v2] w fun e w' => ∃ v', e = .returned v' ∧ Row w' w.heap.size v' (thenL xs ys) ∧ Keep w w' := by
  cases ht : twoB xs ys
  · go_enter Tryz.func80, Tryz.ntmps80
    go_wp2_with fail
    refine (areAlike_any _ _ _ _ _ h1 h2 n1 n2).mono ?_
    rintro e w' ⟨rfl, rfl⟩
    go_wp2
    go_ret
    exact ⟨_, rfl, by unfold thenL; rw [ht]; exact row_empty _ _, (Keep.refl _).alloc _⟩
  · refine (implThen_web _ _ _ _ _ h1 h2 ht).mono ?_
    rintro e w2 ⟨v', rfl, o, k⟩
    exact ⟨_, rfl, by unfold thenL; rw [ht]; exact o, k⟩
end Go.Proofs.YtkbkdlaknmgjpaaGreat

/- Contract of the program's Less. -/
namespace Go.Proofs.YtkbkdlaknmgjpaaGreat
open Go.ChangeShapes Go.WideShapes Go.ChangeAt Go.RowKit

theorem without_any (s t : Int) (w : World) :
    Calls Tryz.prog 129 #[.int .i64 s, .int .i64 t] w fun e w' => e = .returned (.int .i64 (notI s t)) ∧ w' = w := by
  go_enter Tryz.func129, Tryz.ntmps129
  go_wp2
  go_ret
  exact ⟨rfl, rfl⟩
set_option maxHeartbeats 1000000 in
theorem mixed_without (w : World) (v1 v2 : Value) (xs ys : List Int) (h1 : Rd w v1 xs) (h2 : Rd w v2 ys) (n1 : xs.length ≤ 1048576) (n2 : ys.length ≤ 1048576) :
    Calls Tryz.prog 96 #[v1, v2, .func (Fn.func 129) #[] #[]] w fun e w' => ∃ v', e = .returned v' ∧ Row w' w.heap.size v' (mixL notI xs ys) ∧ Keep w w' := by
  have r1 := h1
  have r2 := h2
  obtain ⟨a1, c1, rfl, _⟩ := r1
  obtain ⟨a2, c2, rfl, _⟩ := r2
  cases ht : twoB xs ys
  · go_enter Tryz.func96, Tryz.ntmps96
    go_wp2_with fail
    refine (areAlike_any _ _ _ _ _ h1 h2 n1 n2).mono ?_
    rintro e w' ⟨rfl, rfl⟩
    go_wp2
    go_ret
    exact ⟨_, rfl, by unfold mixL; rw [ht]; exact row_empty _ _, (Keep.refl _).alloc _⟩
  · obtain ⟨hl, wx, wy⟩ := twoB_iff.1 ht
    have hx12 := webB_len wx
    have hy12 := webB_len wy
    have HL : Hid (xs.length = ys.length) := hl
    have HM : Hid (mixL notI xs ys = List.zipWith notI xs ys) := by show mixL notI xs ys = _; unfold mixL; rw [ht]; rfl
    clear wx wy
    have hl1 : xs.length ≤ ys.length := by omega
    have hl2 : ys.length ≤ xs.length := by omega
    clear hl
    go_enter Tryz.func96, Tryz.ntmps96
    go_wp2_with fail
    refine (areAlike_any _ _ _ _ _ h1 h2 n1 n2).mono ?_
    rintro e w' ⟨rfl, rfl⟩
    go_wp2_with fail
    refine (owned_any _ _ _ h1 hx12).mono ?_
    rintro e w1 ⟨rfl, ro, k1⟩
    go_wp2_with fail
    obtain ⟨a, c, hv, h2⟩ := h2
    cases hv
    go_loopw [19] (fun i wr => ∃ k : Nat, k ≤ ys.length ∧ i = .int .i64 k ∧ RowAt wr w'.heap.size (mixK notI xs ys k) ∧ Keep w' wr) (fun i _ => ys.length - (intOf i).toNat)
    case atStart => exact ⟨0, Nat.zero_le _, rfl, ro, k1⟩
    case round =>
      obtain ⟨k, hk, rfl, hr, hK⟩ := hrel
      clear ro k1
      by_cases hlt : k < ys.length
      · rcases h2 with h | ⟨b, o, rfl, hb, hc⟩
        · exfalso; rw [h] at hlt; simp at hlt
        have hkx : k < xs.length := by omega
        have d0 := (hK.cell hb).trans (hc k hlt)
        have d1 := hr.cell (j := k) (by rw [mixK_len notI HL.out]; exact hkx)
        rw [mixK_get notI HL.out hkx] at d1
        have d2 := hr.free k
        have hs := hr.set k (notI (xs.getD k 0) (ys.getD k 0))
        rw [mixK_set notI HL.out hkx] at hs
        have hK2 : Keep w' (wr.setCell ⟨w'.heap.size, k, none⟩ (.int .i64 (notI (xs.getD k 0) (ys.getD k 0)))) := hK.grown (grown_set wr w'.heap.size k _) (by simp)
        generalize xs.getD k 0 = p at *
        generalize ys.getD k 0 = q at *
        clear hc
        go_wp2_with fail
        refine (without_any _ _ _).mono ?_
        rintro e w2 ⟨rfl, rfl⟩
        go_wp2
        go_roundw
        case rel => exact ⟨k + 1, by omega, by go_num, hs, hK2⟩
        case measure => simp [intOf]; omega
      · obtain rfl : k = ys.length := by omega
        go_wp2
        go_ret
        refine ⟨_, rfl, ?_, hK⟩
        rw [HM.out]
        rw [← HL.out, mixK_end notI HL.out] at hr
        exact row_new hr (Nat.le_refl _) (by rw [List.length_zipWith]; omega)
theorem implLess_any (w : World) (v1 v2 : Value) (xs ys : List Int) (h1 : Rd w v1 xs) (h2 : Rd w v2 ys) (n1 : xs.length ≤ 1048576) (n2 : ys.length ≤ 1048576) :
    Calls Tryz.prog 79 #[v1, v2] w fun e w' => ∃ v', e = .returned v' ∧ Row w' w.heap.size v' (mixL notI xs ys) ∧ Keep w w' := by
  go_enter Tryz.func79, Tryz.ntmps79
  go_wp2_with fail
  refine (mixed_without _ _ _ _ _ h1 h2 n1 n2).mono ?_
  rintro e w2 ⟨v', rfl, o, k⟩
  go_wp2
  go_ret
  exact ⟨_, rfl, o, k⟩
end Go.Proofs.YtkbkdlaknmgjpaaGreat

/- Contract of the program's Lifted. -/
namespace Go.Proofs.YtkbkdlaknmgjpaaGreat
open Go.ChangeShapes Go.WideShapes Go.ChangeAt Go.RowKit

theorem liftI_bad {zs cl : List Int} (h : ¬ (webB zs = true ∧ cl.length = zs.length)) : liftL zs cl = [] := by unfold liftL; rw [if_neg h]
set_option maxHeartbeats 1000000 in
theorem implLifted_any (w : World) (v1 v2 : Value) (xs ys : List Int) (h1 : Rd w v1 xs) (h2 : Rd w v2 ys) (n1 : xs.length ≤ 1048576) (_n2 : ys.length ≤ 1048576) :
    Calls Tryz.prog 38 #[v1, v2] w fun e w' => ∃ v', e = .returned v' ∧ Row w' w.heap.size v' (liftL xs ys) ∧ Keep w w' := by
  have r1 := h1
  have r2 := h2
  obtain ⟨a1, c1, rfl, _⟩ := h1
  obtain ⟨a2, c2, rfl, _⟩ := h2
  cases ha : webB xs
  · go_enter Tryz.func38, Tryz.ntmps38
    go_wp2_with fail
    refine (implWebOk_any _ _ _ r1 n1).mono ?_
    rintro e w' ⟨rfl, rfl⟩
    go_wp2
    go_ret
    exact ⟨_, rfl, by rw [liftI_bad (by simp [ha])]; exact row_empty _ _, (Keep.refl _).alloc _⟩
  · by_cases hl : ys.length = xs.length
    · have hlb : ((ys.length : Int) != (xs.length : Int)) = false := by simp [hl]
      have HL : Hid (ys.length = xs.length) := hl
      have hx12 := webB_len ha
      have hy12 : ys.length ≤ 12 := by omega
      have HW : Hid (Web xs.length xs) := web_iff.1 ha
      have HE : Hid (mixL notI (thenL (thenL (matesL ys) xs) (matesL ys)) (matesL ys) = liftL xs ys) := lift_mates HW.out hl
      have hm12 : (matesL ys).length ≤ 12 := by simp [matesL]; exact hy12
      have ht12 : (thenL (matesL ys) xs).length ≤ 12 := by
        have h := web_then (web_mates HW.out.1 hl).1 HW.out
        have := h.1.1; have := h.1.2.1; omega
      have hu12 : (thenL (thenL (matesL ys) xs) (matesL ys)).length ≤ 12 := by
        have hm := web_mates HW.out.1 hl
        have h := web_then (web_then hm.1 HW.out).1 hm.1
        have := h.1.1; have := h.1.2.1; omega
      clear hl
      go_enter Tryz.func38, Tryz.ntmps38
      go_wp2_with fail
      refine (implWebOk_any _ _ _ r1 n1).mono ?_
      rintro e w' ⟨rfl, rfl⟩
      go_wp2_with fail
      refine (mates_any _ _ _ r2 hy12).mono ?_
      rintro e w1 ⟨vm, rfl, hm, k1⟩
      have m1 := hm.rd
      have x1 := r1.keep k1
      clear hm r1 r2
      go_wp2_with fail
      refine (implThen_any _ _ _ _ _ m1 x1 (by omega) (by omega)).mono ?_
      rintro e w2 ⟨vt, rfl, ht, k2⟩
      have t2 := ht.rd
      have m2 := m1.keep k2
      clear ht m1 x1
      go_wp2_with fail
      refine (implThen_any _ _ _ _ _ t2 m2 (by omega) (by omega)).mono ?_
      rintro e w3 ⟨vu, rfl, hu, k3⟩
      have u3 := hu.rd
      have m3 := m2.keep k3
      clear hu t2 m2
      go_wp2_with fail
      refine (implLess_any _ _ _ _ _ u3 m3 (by omega) (by omega)).mono ?_
      rintro e w4 ⟨vq, rfl, hq, k4⟩
      rw [HE.out] at hq
      have K3 := (k1.trans k2).trans k3
      have hs := K3.size
      go_wp2
      go_ret
      exact ⟨_, rfl, hq.base_le hs, K3.trans k4⟩
    · have hlb : ((ys.length : Int) != (xs.length : Int)) = true := by simp; omega
      have HL : Hid (¬ ys.length = xs.length) := hl
      clear hl
      go_enter Tryz.func38, Tryz.ntmps38
      go_wp2_with fail
      refine (implWebOk_any _ _ _ r1 n1).mono ?_
      rintro e w' ⟨rfl, rfl⟩
      go_wp2
      go_ret
      exact ⟨_, rfl, by rw [liftI_bad (fun h => HL.out h.2)]; exact row_empty _ _, (Keep.refl _).alloc _⟩
end Go.Proofs.YtkbkdlaknmgjpaaGreat

/- Contract of the specification's ClassesOf: a new list of numbers. (Written by mkidx.py.) -/
namespace Go.Proofs.YtkbkdlaknmgjpaaGreat
open Go.ChangeShapes Go.WideShapes Go.ChangeAt Go.RowKit

def clsK (l : List Ev) : Nat → List Int
  | 0 => []
  | k + 1 => clsK l k ++ [csE (l.getD k zE)]
theorem clsK_len (l : List Ev) : ∀ k : Nat, (clsK l k).length = k
  | 0 => rfl
  | k + 1 => by rw [clsK, List.length_append, clsK_len l k]; rfl
theorem clsK_take (l : List Ev) : ∀ k : Nat, k ≤ l.length → clsK l k = (l.take k).map csE
  | 0, _ => rfl
  | k + 1, h => by rw [clsK, clsK_take l k (by omega), List.take_add_one, evs_get (by omega : k < l.length)]; simp
theorem clsK_all (l : List Ev) : clsK l l.length = l.map csE := by rw [clsK_take l _ (Nat.le_refl _), List.take_length]
set_option maxHeartbeats 1000000 in
theorem specClassesOf_any (w : World) (v : Value) (es : List Ev) (h : RdE w v es) (hx : es.length ≤ 1048576) :
    Calls Tryz.prog 23 #[v] w fun e w' => ∃ v', e = .returned v' ∧ Own w' w.heap.size v' (clsB es) ∧ Keep w w' := by
  have hown0 : Own (w.alloc (.cells #[] 2)) w.heap.size (.slice (some ⟨w.heap.size, 0, none⟩) 0 0) [] := World.ownsRow_lit w #[] 0 (Nat.le_refl _) (by decide) rfl
  obtain ⟨a, cap, rfl, h⟩ := h
  by_cases hl : 12 < es.length
  · have HE : Hid (clsB es = []) := Lib.hid (by unfold clsB; rw [if_neg (by omega)])
    have l1 : (12 : Int) < (es.length : Int) := by omega
    go_enter Tryz.func23, Tryz.ntmps23
    go_wp2
    refine wp_loop_rounds 1 ?_
    rw [rounds_succ]
    go_wp2
    go_ret
    exact ⟨_, rfl, by rw [HE.out]; exact hown0, (Keep.refl _).alloc _⟩
  have l1 : es.length ≤ 12 := by omega
  clear hl
  have HE : Hid (clsB es = clsK es es.length) := Lib.hid (by unfold clsB; rw [if_pos l1]; exact (clsK_all es).symm)
  obtain ⟨i0, hi, hz0, hz1, hz2⟩ := info_parts Tryz.infoI
  go_enter Tryz.func23, Tryz.ntmps23
  go_wp2
  go_loopw [3, 4] (fun v i wr => ∃ k : Nat, k ≤ es.length ∧ i = .int .i64 k ∧ Own wr w.heap.size v (clsK es k) ∧ Keep w wr) (fun _ i _ => es.length - (intOf i).toNat)
  case atStart => exact ⟨0, Nat.zero_le _, rfl, hown0, (Keep.refl _).alloc _⟩
  case round =>
    obtain ⟨k, hk, rfl, ho, hK⟩ := hrel
    clear hown0
    by_cases hlt : k < es.length
    · rcases h with h | ⟨b, off, rfl, hb, hc⟩
      · exfalso; rw [h] at hlt; simp at hlt
      have AT := (hc k _ (evs_get hlt)).keep hb hK
      have hbw : b < wr.heap.size := Nat.lt_of_lt_of_le hb hK.size
      clear hc
      have hml : (clsK es k).length ≤ k := by rw [clsK_len]; omega
      have hsz := hK.size
      have i1 : (0 : Int) ≤ (k : Int) := Int.natCast_nonneg _
      have i2 : (k : Int) < (es.length : Int) := by omega
      have l2 : (es.length : Int) ≤ 12 := by omega
      have HP : Hid (clsK es (k + 1) = clsK es k ++ [csE (es.getD k zE)]) := Lib.hid rfl
      obtain ⟨e, he⟩ : ∃ e, e = es.getD k zE := ⟨_, rfl⟩
      rw [← he] at AT HP
      clear he
      obtain ⟨x0, x1, x2, x3, x4, x5⟩ := e
      obtain ⟨-, -, -, -, -, A5⟩ := atE AT
      clear AT
      have HM : Hid (clsK es (k + 1) = clsK es k ++ [x5]) := Lib.hid (by rw [HP.out]; rfl)
      clear HP
      go_wp2_with (at_builtin; refine wpList_append_own _ rfl _ _ 25 rfl w.heap.size 2 i0 (.int .i64 0) 1 8 Tryz.underlying25 hi hz0 hz1 hz2 rfl (by decide) _ _ _ rfl (World.ownsRow.alloc ho _) ⟨_, 0, none⟩ 1 1 [.int .i64 x5] rfl rfl ?c1 ?c2 ?c3 ?c4 ?c5 ?_)
      case c1 =>
        intro j u hj
        match j, hj with
        | 0, hj => simp at hj; subst hj; simp [Addr.add]
      case c2 => intro u hu; simp at hu; subst hu; rfl
      case c3 => unfold maxLen; omega
      case c4 => omega
      case c5 => simp; omega
      intro v' w1 hown' hgrow _
      have hK1 : Keep w w1 := (hK.alloc _).grown hgrow ho.ge
      clear hgrow
      go_wp2
      go_roundw
      case rel => exact ⟨k + 1, by omega, by go_num, by rw [HM.out]; exact own_hit hown', hK1⟩
      case measure => simp [intOf]; omega
    · obtain rfl : k = es.length := by omega
      go_wp2
      go_ret
      exact ⟨_, rfl, by rw [HE.out]; exact ho, hK⟩
end Go.Proofs.YtkbkdlaknmgjpaaGreat

/- Contract of the program's ClassesOf: a new list of numbers. -/
namespace Go.Proofs.YtkbkdlaknmgjpaaGreat
open Go.ChangeShapes Go.WideShapes Go.ChangeAt Go.RowKit

set_option maxRecDepth 100000 in
set_option maxHeartbeats 1000000 in
theorem implClassesOf_any (w : World) (v : Value) (es : List Ev) (h : RdE w v es) (hx : es.length ≤ 1048576) :
    Calls Tryz.prog 39 #[v] w fun e w' => ∃ v', e = .returned v' ∧ Own w' w.heap.size v' (clsB es) ∧ Keep w w' := by
  have hown0 : Own (w.alloc (.cells #[] 2)) w.heap.size (.slice (some ⟨w.heap.size, 0, none⟩) 0 0) [] := World.ownsRow_lit w #[] 0 (Nat.le_refl _) (by decide) rfl
  obtain ⟨a, cap, rfl, h⟩ := h
  by_cases hl : 12 < es.length
  · have HE : Hid (clsB es = []) := Lib.hid (by unfold clsB; rw [if_neg (by omega)])
    have l1 : (12 : Int) < (es.length : Int) := by omega
    go_enter Tryz.func39, Tryz.ntmps39
    go_wp2
    go_ret
    exact ⟨_, rfl, by rw [HE.out]; exact hown0, (Keep.refl _).alloc _⟩
  have l1 : es.length ≤ 12 := by omega
  clear hl
  have HE : Hid (clsB es = clsK es es.length) := Lib.hid (by unfold clsB; rw [if_pos l1]; exact (clsK_all es).symm)
  obtain ⟨i0, hi, hz0, hz1, hz2⟩ := info_parts Tryz.infoI
  go_enter Tryz.func39, Tryz.ntmps39
  go_wp2
  go_loopw [3, 13] (fun v i wr => ∃ k : Nat, k ≤ es.length ∧ i = .int .i64 k ∧ Own wr w.heap.size v (clsK es k) ∧ Keep w wr) (fun _ i _ => es.length - (intOf i).toNat)
  case atStart => exact ⟨0, Nat.zero_le _, rfl, hown0, (Keep.refl _).alloc _⟩
  case round =>
    obtain ⟨k, hk, rfl, ho, hK⟩ := hrel
    clear hown0
    by_cases hlt : k < es.length
    · rcases h with h | ⟨b, off, rfl, hb, hc⟩
      · exfalso; rw [h] at hlt; simp at hlt
      have AT := (hc k _ (evs_get hlt)).keep hb hK
      have hbw : b < wr.heap.size := Nat.lt_of_lt_of_le hb hK.size
      clear hc
      have hml : (clsK es k).length ≤ k := by rw [clsK_len]; omega
      have hsz := hK.size
      have i1 : (0 : Int) ≤ (k : Int) := Int.natCast_nonneg _
      have i2 : (k : Int) < (es.length : Int) := by omega
      have l2 : (es.length : Int) ≤ 12 := by omega
      have HP : Hid (clsK es (k + 1) = clsK es k ++ [csE (es.getD k zE)]) := Lib.hid rfl
      obtain ⟨e, he⟩ : ∃ e, e = es.getD k zE := ⟨_, rfl⟩
      rw [← he] at AT HP
      clear he
      obtain ⟨x0, x1, x2, x3, x4, x5⟩ := e
      obtain ⟨A0, A1, A2, A3, A4, A5⟩ := atE AT
      clear AT
      have HM : Hid (clsK es (k + 1) = clsK es k ++ [x5]) := Lib.hid (by rw [HP.out]; rfl)
      clear HP
      go_wp2_with (at_builtin; refine wpList_append_own _ rfl _ _ 25 rfl w.heap.size 2 i0 (.int .i64 0) 1 8 Tryz.underlying25 hi hz0 hz1 hz2 rfl (by decide) _ _ _ rfl (World.ownsRow.alloc (World.ownsRow.alloc ho _) _) ⟨_, 0, none⟩ 1 1 [.int .i64 x5] rfl rfl ?c1 ?c2 ?c3 ?c4 ?c5 ?_)
      case c1 =>
        intro j u hj
        match j, hj with
        | 0, hj => simp at hj; subst hj; simp [Addr.add]
      case c2 => intro u hu; simp at hu; subst hu; rfl
      case c3 => unfold maxLen; omega
      case c4 => omega
      case c5 => simp; omega
      intro v' w1 hown' hgrow _
      have hK1 : Keep w w1 := ((hK.alloc _).alloc _).grown hgrow ho.ge
      clear hgrow
      go_wp2
      go_roundw
      case rel => exact ⟨k + 1, by omega, by go_num, by rw [HM.out]; exact own_hit hown', hK1⟩
      case measure => simp [intOf]; omega
    · obtain rfl : k = es.length := by omega
      go_wp2
      go_ret
      exact ⟨_, rfl, by rw [HE.out]; exact ho, hK⟩
end Go.Proofs.YtkbkdlaknmgjpaaGreat

/- How long the answers on events are; blocks that lie apart. -/
namespace Go.Proofs.YtkbkdlaknmgjpaaGreat
open Go.ChangeShapes Go.WideShapes Go.ChangeAt Go.RowKit

theorem idxB_len (f : Ev → Bool) (es : List Ev) : (idxB f es).length ≤ 12 := by
  unfold idxB
  split
  · have := idxK_len f es es.length; omega
  · simp
theorem clsB_len (es : List Ev) : (clsB es).length ≤ 12 := by
  unfold clsB
  split
  · simpa
  · simp
theorem own_first {w : World} {base : Nat} {v : Value} {zs r : List Int} {p : Int} (h : Own w base v zs) (hz : zs = p :: r) : ∃ g c, v = .slice (some ⟨g, 0, none⟩) zs.length c ∧ g < w.heap.size ∧ w.cell? ⟨g, 0, none⟩ = some (.int .i64 p) ∧ 0 < zs.length := by
  have hl : 0 < zs.length := by rw [hz]; simp
  have hlt := World.ownsRow.lt h
  have h2 := h
  rcases h.2 with ⟨_, hn⟩ | ⟨g, cap, cur, rfl, _⟩
  · omega
  · refine ⟨g, cap, rfl, (hlt g rfl).2, ?_, hl⟩
    rw [World.ownsRow.cellAt h2 0 (by omega), hz]
    rfl
theorem apart_of {v v' : Value} {m : Nat} (h1 : ∀ k, v'.ownBlock = some k → k < m) (h2 : ∀ k, v.ownBlock = some k → m ≤ k) : v.ownBlock = none ∨ v.ownBlock ≠ v'.ownBlock := by
  cases hv : v.ownBlock with
  | none => exact .inl rfl
  | some k =>
    refine .inr fun e => ?_
    have a := h1 k e.symm
    have b := h2 k hv
    omega
end Go.Proofs.YtkbkdlaknmgjpaaGreat

/- Contract of the program's SlowOk. -/
namespace Go.Proofs.YtkbkdlaknmgjpaaGreat
open Go.ChangeShapes Go.WideShapes Go.ChangeAt Go.RowKit

theorem slow_all (dss : List (List Dd)) (f rows : List Int) : slowB dss f rows = (eachB dss f rows && !roundB (liftL (swB dss f rows) (clsB (eventsB dss)))) := by
  cases h : taleB dss f rows with
  | true => exact slow_form h
  | false => rw [slowB, eachB, h]; rfl
set_option maxRecDepth 100000 in
set_option maxHeartbeats 2000000 in
theorem implSlowOk_any (w : World) (v vF vR : Value) (dss : List (List Dd)) (f rows : List Int) (h : RdW w v dss) (hf : Rd w vF f) (hr : Rd w vR rows) (hcap : rows.length ≤ capZ vR) (hx : dss.length ≤ 1048576) (hm : ∀ i, i < dss.length → (dss.getD i []).length ≤ 1048576) (hfl : f.length ≤ 1048576) (hrl : rows.length ≤ 1048576) :
    Calls Tryz.prog 8 #[v, .agg #[vF, vR]] w fun e w' => e = .returned (.bool (slowB dss f rows)) ∧ Keep w w' := by
  have C := fun (W : World) (kW : Keep w W) => implEachOk_any W v vF vR dss f rows (h.keep kW) (hf.keep kW) (hr.keep kW) hcap hx hm hfl hrl
  have CS := fun (W : World) (kW : Keep w W) => implSlowWeb_any W v vF vR dss f rows (h.keep kW) (hf.keep kW) (hr.keep kW) hcap hx hm hfl hrl
  have CE := fun (W : World) (kW : Keep w W) => implEventsOf_any W v dss (h.keep kW) hx hm
  have lS : (swB dss f rows).length ≤ 1048576 := by have := swB_len dss f rows; omega
  have lE : (eventsB dss).length ≤ 1048576 := by have := eventsB_len9 dss; omega
  have lC : (clsB (eventsB dss)).length ≤ 1048576 := by have := clsB_len (eventsB dss); omega
  have lL : (liftL (swB dss f rows) (clsB (eventsB dss))).length ≤ 1048576 := by have := liftL_len (swB dss f rows) (clsB (eventsB dss)); omega
  have HE := Lib.hid (slow_all dss f rows)
  clear h hcap hx hm hfl hrl
  obtain ⟨aF, cF, rfl, -⟩ := hf
  obtain ⟨aR, cR, rfl, -⟩ := hr
  generalize slowB dss f rows = T at *
  cases hb : eachB dss f rows
  · rw [hb] at C HE
    clear CS CE lS lE lC lL hb
    go_enter Tryz.func8, Tryz.ntmps8
    go_wp2_with fail
    refine (C _ ((Keep.refl w).alloc _)).mono ?_
    rintro e w1 ⟨rfl, k1⟩
    have K1 := ((Keep.refl w).alloc _).trans k1
    go_wp2
    go_ret
    exact ⟨ret_bool (by rw [HE.out]; rfl), K1⟩
  · rw [hb] at C HE
    clear hb
    generalize swB dss f rows = L at *
    generalize eventsB dss = es at *
    go_enter Tryz.func8, Tryz.ntmps8
    go_wp2_with fail
    refine (C _ ((Keep.refl w).alloc _)).mono ?_
    rintro e w1 ⟨rfl, k1⟩
    have K1 := ((Keep.refl w).alloc _).trans k1
    have b0 := box_cell k1 0
    have b1 := box_cell k1 1
    simp at b0 b1
    clear k1 C
    go_wp2_with fail
    refine (CS _ K1).mono ?_
    rintro e w2 ⟨v2, rfl, o2, k2⟩
    have K2 := K1.trans k2
    have r2 := o2.rd
    clear CS b0 b1 o2 k2 K1
    go_wp2_with fail
    refine (CE _ K2).mono ?_
    rintro e w3 ⟨v3, rfl, o3, k3⟩
    have K3 := K2.trans k3
    have r3 := o3.rd
    replace r2 := r2.keep k3
    clear CE o3 k3 K2
    go_wp2_with fail
    refine (implClassesOf_any _ _ _ r3 lE).mono ?_
    rintro e w4 ⟨v4, rfl, o4, k4⟩
    have K4 := K3.trans k4
    have r4 := o4.rd
    replace r2 := r2.keep k4
    clear r3 o4 k4 K3
    generalize clsB es = M at *
    go_wp2_with fail
    refine (implLifted_any _ _ _ _ _ r2 r4 lS lC).mono ?_
    rintro e w5 ⟨v5, rfl, o5, k5⟩
    have K5 := K4.trans k5
    have r5 := o5.rd
    clear r2 r4 o5 k5 K4
    generalize liftL L M = P at *
    go_wp2_with fail
    refine (implRound_any _ _ _ r5 lL).mono ?_
    rintro e w6 ⟨rfl, k6⟩
    have K6 := K5.trans k6
    generalize roundB P = R at *
    go_wp2
    go_ret
    exact ⟨ret_bool (by rw [HE.out]; rfl), K6⟩
end Go.Proofs.YtkbkdlaknmgjpaaGreat

/- The cell of a new block of one. -/
namespace Go.Proofs.YtkbkdlaknmgjpaaGreat
open Go.ChangeShapes Go.WideShapes Go.ChangeAt Go.RowKit

theorem new_one (w : World) (u : Value) (n : Nat) (hn : w.heap.size = n) : ∀ j y, ([u] : List Value)[j]? = some y → (w.alloc (.cells #[u] 25)).cell? ((⟨n, 0, none⟩ : Addr).add j) = some y := by
  subst hn
  intro j y hj
  match j, hj with
  | 0, hj => simp at hj; subst hj; simp [Addr.add]
end Go.Proofs.YtkbkdlaknmgjpaaGreat

/- Contract of the specification's ReadsOf: a new list of numbers. (Written by mkidx.py.) -/
namespace Go.Proofs.YtkbkdlaknmgjpaaGreat
open Go.ChangeShapes Go.WideShapes Go.ChangeAt Go.RowKit

set_option maxHeartbeats 1000000 in
theorem specReadsOf_any (w : World) (v : Value) (es : List Ev) (h : RdE w v es) (hx : es.length ≤ 1048576) :
    Calls Tryz.prog 108 #[v] w fun e w' => ∃ v', e = .returned v' ∧ Own w' w.heap.size v' (idxB rdE es) ∧ Keep w w' := by
  have hown0 : Own (w.alloc (.cells #[] 2)) w.heap.size (.slice (some ⟨w.heap.size, 0, none⟩) 0 0) [] := World.ownsRow_lit w #[] 0 (Nat.le_refl _) (by decide) rfl
  obtain ⟨a, cap, rfl, h⟩ := h
  by_cases hl : 12 < es.length
  · have HE : Hid (idxB rdE es = []) := Lib.hid (by unfold idxB; rw [if_neg (by omega)])
    have l1 : (12 : Int) < (es.length : Int) := by omega
    go_enter Tryz.func108, Tryz.ntmps108
    go_wp2
    refine wp_loop_rounds 1 ?_
    rw [rounds_succ]
    go_wp2
    go_ret
    exact ⟨_, rfl, by rw [HE.out]; exact hown0, (Keep.refl _).alloc _⟩
  have l1 : es.length ≤ 12 := by omega
  clear hl
  have HE : Hid (idxB rdE es = idxK rdE es es.length) := Lib.hid (by unfold idxB; rw [if_pos l1])
  obtain ⟨i0, hi, hz0, hz1, hz2⟩ := info_parts Tryz.infoI
  go_enter Tryz.func108, Tryz.ntmps108
  go_wp2
  go_loopw [3, 4] (fun v i wr => ∃ k : Nat, k ≤ es.length ∧ i = .int .i64 k ∧ Own wr w.heap.size v (idxK rdE es k) ∧ Keep w wr) (fun _ i _ => es.length - (intOf i).toNat)
  case atStart => exact ⟨0, Nat.zero_le _, rfl, hown0, (Keep.refl _).alloc _⟩
  case round =>
    obtain ⟨k, hk, rfl, ho, hK⟩ := hrel
    clear hown0
    by_cases hlt : k < es.length
    · rcases h with h | ⟨b, off, rfl, hb, hc⟩
      · exfalso; rw [h] at hlt; simp at hlt
      have AT := (hc k _ (evs_get hlt)).keep hb hK
      have hbw : b < wr.heap.size := Nat.lt_of_lt_of_le hb hK.size
      clear hc
      have hml : (idxK rdE es k).length ≤ k := idxK_len rdE es k
      have hsz := hK.size
      have i1 : (0 : Int) ≤ (k : Int) := Int.natCast_nonneg _
      have i2 : (k : Int) < (es.length : Int) := by omega
      have l2 : (es.length : Int) ≤ 12 := by omega
      have HP : Hid (idxK rdE es (k + 1) = if rdE (es.getD k zE) = true then idxK rdE es k ++ [(k : Int)] else idxK rdE es k) := Lib.hid rfl
      obtain ⟨e, he⟩ : ∃ e, e = es.getD k zE := ⟨_, rfl⟩
      rw [← he] at AT HP
      clear he
      obtain ⟨x0, x1, x2, x3, x4, x5⟩ := e
      obtain ⟨-, -, A2, -, -, -⟩ := atE AT
      clear AT
      cases x2
      · have HM : Hid (idxK rdE es (k + 1) = idxK rdE es k) := Lib.hid (by rw [HP.out]; rfl)
        clear HP
        go_wp2
        go_roundw
        case rel => exact ⟨k + 1, by omega, by go_num, by rw [HM.out]; exact ho, hK⟩
        case measure => simp [intOf]; omega
      · have HM : Hid (idxK rdE es (k + 1) = idxK rdE es k ++ [(k : Int)]) := Lib.hid (by rw [HP.out]; rfl)
        clear HP
        go_wp2_with (at_builtin; refine wpList_append_own _ rfl _ _ 25 rfl w.heap.size 2 i0 (.int .i64 0) 1 8 Tryz.underlying25 hi hz0 hz1 hz2 rfl (by decide) _ _ _ rfl (World.ownsRow.alloc ho _) ⟨_, 0, none⟩ 1 1 [.int .i64 k] rfl rfl ?c1 ?c2 ?c3 ?c4 ?c5 ?_)
        case c1 =>
          intro j u hj
          match j, hj with
          | 0, hj => simp at hj; subst hj; simp [Addr.add]
        case c2 => intro u hu; simp at hu; subst hu; rfl
        case c3 => unfold maxLen; omega
        case c4 => omega
        case c5 => simp; omega
        intro v' w1 hown' hgrow _
        have hK1 : Keep w w1 := (hK.alloc _).grown hgrow ho.ge
        clear hgrow
        go_wp2
        go_roundw
        case rel => exact ⟨k + 1, by omega, by go_num, by rw [HM.out]; exact own_hit hown', hK1⟩
        case measure => simp [intOf]; omega
    · obtain rfl : k = es.length := by omega
      go_wp2
      go_ret
      exact ⟨_, rfl, by rw [HE.out]; exact ho, hK⟩
end Go.Proofs.YtkbkdlaknmgjpaaGreat

/- Contract of the specification's WritesTo: a new list of numbers. (Written by mkidx.py.) -/
namespace Go.Proofs.YtkbkdlaknmgjpaaGreat
open Go.ChangeShapes Go.WideShapes Go.ChangeAt Go.RowKit

set_option maxRecDepth 100000 in
set_option maxHeartbeats 1000000 in
theorem specWritesTo_any (w : World) (v : Value) (es : List Ev) (p : Int) (h : RdE w v es) (hx : es.length ≤ 1048576) :
    Calls Tryz.prog 156 #[v, .int .i64 p] w fun e w' => ∃ v', e = .returned v' ∧ Own w' w.heap.size v' (idxB (toE p) es) ∧ Keep w w' := by
  have hown0 : Own (w.alloc (.cells #[] 2)) w.heap.size (.slice (some ⟨w.heap.size, 0, none⟩) 0 0) [] := World.ownsRow_lit w #[] 0 (Nat.le_refl _) (by decide) rfl
  obtain ⟨a, cap, rfl, h⟩ := h
  by_cases hl : 12 < es.length
  · have HE : Hid (idxB (toE p) es = []) := Lib.hid (by unfold idxB; rw [if_neg (by omega)])
    have l1 : (12 : Int) < (es.length : Int) := by omega
    go_enter Tryz.func156, Tryz.ntmps156
    go_wp2
    refine wp_loop_rounds 1 ?_
    rw [rounds_succ]
    go_wp2
    go_ret
    exact ⟨_, rfl, by rw [HE.out]; exact hown0, (Keep.refl _).alloc _⟩
  have l1 : es.length ≤ 12 := by omega
  clear hl
  have HE : Hid (idxB (toE p) es = idxK (toE p) es es.length) := Lib.hid (by unfold idxB; rw [if_pos l1])
  obtain ⟨i0, hi, hz0, hz1, hz2⟩ := info_parts Tryz.infoI
  go_enter Tryz.func156, Tryz.ntmps156
  go_wp2
  go_loopw [5, 6] (fun v i wr => ∃ k : Nat, k ≤ es.length ∧ i = .int .i64 k ∧ Own wr w.heap.size v (idxK (toE p) es k) ∧ Keep w wr) (fun _ i _ => es.length - (intOf i).toNat)
  case atStart => exact ⟨0, Nat.zero_le _, rfl, hown0, (Keep.refl _).alloc _⟩
  case round =>
    obtain ⟨k, hk, rfl, ho, hK⟩ := hrel
    clear hown0
    by_cases hlt : k < es.length
    · rcases h with h | ⟨b, off, rfl, hb, hc⟩
      · exfalso; rw [h] at hlt; simp at hlt
      have AT := (hc k _ (evs_get hlt)).keep hb hK
      have hbw : b < wr.heap.size := Nat.lt_of_lt_of_le hb hK.size
      clear hc
      have hml : (idxK (toE p) es k).length ≤ k := idxK_len (toE p) es k
      have hsz := hK.size
      have i1 : (0 : Int) ≤ (k : Int) := Int.natCast_nonneg _
      have i2 : (k : Int) < (es.length : Int) := by omega
      have l2 : (es.length : Int) ≤ 12 := by omega
      have HP : Hid (idxK (toE p) es (k + 1) = if toE p (es.getD k zE) = true then idxK (toE p) es k ++ [(k : Int)] else idxK (toE p) es k) := Lib.hid rfl
      obtain ⟨e, he⟩ : ∃ e, e = es.getD k zE := ⟨_, rfl⟩
      rw [← he] at AT HP
      clear he
      obtain ⟨x0, x1, x2, x3, x4, x5⟩ := e
      obtain ⟨-, -, A2, A3, -, -⟩ := atE AT
      clear AT
      cases x2
      · by_cases hp : x3 = p
        · subst hp
          have HM : Hid (idxK (toE x3) es (k + 1) = idxK (toE x3) es k ++ [(k : Int)]) := Lib.hid (by rw [HP.out]; simp [toE])
          clear HP
          go_wp2_with (at_builtin; refine wpList_append_own _ rfl _ _ 25 rfl w.heap.size 2 i0 (.int .i64 0) 1 8 Tryz.underlying25 hi hz0 hz1 hz2 rfl (by decide) _ _ _ rfl (World.ownsRow.alloc ho _) ⟨_, 0, none⟩ 1 1 [.int .i64 k] rfl rfl ?c1 ?c2 ?c3 ?c4 ?c5 ?_)
          case c1 =>
            intro j u hj
            match j, hj with
            | 0, hj => simp at hj; subst hj; simp [Addr.add]
          case c2 => intro u hu; simp at hu; subst hu; rfl
          case c3 => unfold maxLen; omega
          case c4 => omega
          case c5 => simp; omega
          intro v' w1 hown' hgrow _
          have hK1 : Keep w w1 := (hK.alloc _).grown hgrow ho.ge
          clear hgrow
          go_wp2
          go_roundw
          case rel => exact ⟨k + 1, by omega, by go_num, by rw [HM.out]; exact own_hit hown', hK1⟩
          case measure => simp [intOf]; omega
        · have HM : Hid (idxK (toE p) es (k + 1) = idxK (toE p) es k) := Lib.hid (by rw [HP.out]; simp [toE, hp])
          clear HP
          go_wp2
          go_roundw
          case rel => exact ⟨k + 1, by omega, by go_num, by rw [HM.out]; exact ho, hK⟩
          case measure => simp [intOf]; omega
      · have HM : Hid (idxK (toE p) es (k + 1) = idxK (toE p) es k) := Lib.hid (by rw [HP.out]; simp [toE])
        clear HP
        go_wp2
        go_roundw
        case rel => exact ⟨k + 1, by omega, by go_num, by rw [HM.out]; exact ho, hK⟩
        case measure => simp [intOf]; omega
    · obtain rfl : k = es.length := by omega
      go_wp2
      go_ret
      exact ⟨_, rfl, by rw [HE.out]; exact ho, hK⟩
end Go.Proofs.YtkbkdlaknmgjpaaGreat

/- Contracts of the specification's l8Is and l8Choices. -/
namespace Go.Proofs.YtkbkdlaknmgjpaaGreat
open Go.ChangeShapes Go.WideShapes Go.ChangeAt Go.RowKit

set_option maxRecDepth 100000 in
set_option maxHeartbeats 2000000 in
theorem l8Choices_any (w : World) (v : Value) (es : List Ev) (h : RdE w v es) (hx : es.length ≤ 12) :
    Calls Tryz.prog 106 #[v] w fun e w' => ∃ v', e = .returned v' ∧ RdL w' v' (chcL es) ∧ Keep w w' := by
  obtain ⟨i0, hi, hz0, hz1, hz2⟩ := info_parts Tryz.infoL
  have A0 := appL_empty w
  have rl : (idxB rdE es).length ≤ 12 := by
    unfold idxB
    rw [if_pos hx]
    have := idxK_len rdE es es.length
    omega
  have rin : ∀ i, i < (idxB rdE es).length → 0 ≤ (idxB rdE es).getD i 0 ∧ (idxB rdE es).getD i 0 < (es.length : Int) := by
    intro i hi
    have hm : (idxB rdE es).getD i 0 ∈ idxB rdE es := by
      rw [List.getD_eq_getElem?_getD, List.getElem?_eq_getElem hi]
      exact List.getElem_mem hi
    refine idxK_lt rdE es _ _ ?_
    unfold idxB at hm ⊢
    rw [if_pos hx] at hm ⊢
    exact hm
  have HL : Hid (chcL es = chcK es (idxB rdE es) (idxB rdE es).length) := Lib.hid rfl
  go_enter Tryz.func106, Tryz.ntmps106
  go_wp2_with fail
  refine (specReadsOf_any _ _ _ (h.keep ((Keep.refl w).alloc _)) (by omega)).mono ?_
  rintro e w1 ⟨vr, rfl, or1, k1⟩
  generalize idxB rdE es = rs at rl rin HL or1
  have A1 := A0.keep k1
  have K1 : Keep w w1 := ((Keep.refl w).alloc _).trans k1
  have R1 : Beside w1 (.slice (some ⟨w.heap.size, 0, none⟩) 0 0) vr rs := or1.beside (fun k hk => by rw [heap_size]; simp [Value.ownBlock] at hk; omega)
  have RIN := Lib.hid rin
  obtain ⟨ar, cr, rfl, -⟩ := R1.rd
  clear A0 k1 or1 rin
  go_wp2
  go_loopw [3, 5] (fun x i wr => ∃ k : Nat, ∃ vs : List Value, k ≤ rs.length ∧ i = .int .i64 k ∧ AppL wr w.heap.size x vs (chcK es rs k) ∧ Beside wr x (.slice ar rs.length cr) rs ∧ Keep w wr) (fun _ i _ => rs.length - (intOf i).toNat)
  case atStart => exact ⟨0, [], Nat.zero_le _, rfl, A1, R1, K1⟩
  case round =>
    obtain ⟨k, vs, hk, rfl, hA, hB, hK⟩ := hrel
    clear A1 R1 K1
    by_cases hlt : k < rs.length
    · have hr := RIN.out k hlt
      obtain ⟨r, hr'⟩ := Int.eq_ofNat_of_zero_le hr.1
      have hre : r < es.length := by omega
      have hRd := hB.rd
      obtain ⟨a', c', he', hRd⟩ := hRd
      simp only [Value.slice.injEq, true_and] at he'
      obtain ⟨rfl, rfl⟩ := he'
      rcases hRd with h0 | ⟨br, or', rfl, hbr, hcr⟩
      · exfalso; rw [h0] at hlt; simp at hlt
      have d1 := hcr k hlt
      rw [hr'] at d1
      have HC : Hid (chcK es rs (k + 1) = chcK es rs k ++ [idxB (toE (plE es (r : Int))) es]) := Lib.hid (by rw [chcK, hr'])
      have HP : Hid (plE es (r : Int) = (es.getD r zE).2.2.2.1) := Lib.hid (by unfold plE; rw [Int.toNat_natCast])
      clear hr hr' hcr
      have hE := h.keep hK
      obtain ⟨ae, ce, rfl, h2⟩ := id hE
      rcases h2 with h0 | ⟨be, oe, rfl, hbe, hce⟩
      · exfalso; rw [h0] at hre; simp at hre
      have AT := hce r _ (evs_get hre)
      clear hce
      generalize es.getD r zE = e at AT HP
      obtain ⟨x0, x1, x2, x3, x4, x5⟩ := e
      obtain ⟨-, -, -, q3, -, -⟩ := atE AT
      clear AT
      simp only at HP
      rw [HP.out] at HC
      clear HP
      have i1 : (0 : Int) ≤ (k : Int) := Int.natCast_nonneg _
      have i2 : (k : Int) < (rs.length : Int) := by omega
      have j1 : (0 : Int) ≤ (r : Int) := Int.natCast_nonneg _
      have j2 : (r : Int) < (es.length : Int) := by omega
      have hcl := chcK_len es rs k
      go_wp2_with fail
      refine (specWritesTo_any _ _ _ _ hE (by omega)).mono ?_
      rintro e w2 ⟨v2, rfl, o2, k2⟩
      obtain ⟨D, hD⟩ : ∃ D, D = chcK es rs k := ⟨_, rfl⟩
      rw [← hD] at hA HC hcl
      clear hD
      generalize idxB (toE x3) es = zs at o2 HC
      have hA2 := (hA.keep k2).keep ((Keep.refl w2).alloc (.cells #[v2] 25))
      have hB2 := (hB.keep k2).keep ((Keep.refl w2).alloc (.cells #[v2] 25))
      have hU : Beside (w2.alloc (.cells #[v2] 25)) _ v2 zs := (o2.beside (x := u3) (fun k hk => (hA.lt k hk).2)).keep ((Keep.refl w2).alloc _)
      have hK2 := hK.trans k2
      have hsz := hK2.size
      obtain ⟨a2, c2, hv2, -⟩ := o2.rd
      clear hA hB o2
      generalize zs.length = nz at hv2
      subst hv2
      go_wp2_with (at_builtin; refine wpList_append_own_at _ rfl _ _ 57 rfl w.heap.size 25 i0 (.slice none 0 0) 1 24 Tryz.underlying57 hi hz0 hz1 hz2 rfl (by decide) _ _ _ rfl hA2.row ⟨_, 0, none⟩ 1 1 [.slice a2 nz c2] rfl rfl ?c1 ?c2 ?c3 ?c4 ?c5 ?_)
      case c1 => exact new_one _ _ _ rfl
      case c2 => intro u hu; simp at hu; subst hu; rfl
      case c3 => unfold maxLen; omega
      case c4 => omega
      case c5 => first | omega | (simp; omega)
      intro v' w3 hown' hgrow _ hblk
      have hblk' : v'.ownBlock = u3.ownBlock ∨ v'.ownBlock = some (w2.alloc (.cells #[.slice a2 nz c2] 25)).heap.size := by rw [heap_size]; exact hblk
      have hA3 := hA2.push hU (by rw [hcl]; exact hown') hgrow hblk'
      have hB3 := hB2.grow hgrow hblk'
      have hK3 : Keep w w3 := (hK2.alloc _).grown hgrow (fun k hk => (hA2.lt k hk).1)
      clear hown' hgrow hblk hblk' hA2 hB2 hU
      go_wp2
      go_roundw
      case rel => exact ⟨k + 1, _, by omega, by go_num, by rw [HC.out]; exact hA3, hB3, hK3⟩
      case measure => simp [intOf]; omega
    · obtain rfl : k = rs.length := by omega
      have HR := Lib.hid hA.rd
      go_wp2
      go_ret
      exact ⟨_, rfl, by rw [HL.out]; exact HR.out, hK⟩
end Go.Proofs.YtkbkdlaknmgjpaaGreat

/- Contract of the specification's l8Is: is a number in a list. -/
namespace Go.Proofs.YtkbkdlaknmgjpaaGreat
open Go.ChangeShapes Go.WideShapes Go.ChangeAt Go.RowKit

set_option maxHeartbeats 1000000 in
theorem l8Is_any (w : World) (v : Value) (zs : List Int) (h : Rd w v zs) (hn : zs.length ≤ 1048576) (n : Int) :
    Calls Tryz.prog 107 #[v, .int .i64 n] w fun e w' => e = .returned (.bool (isB zs n)) ∧ w' = w := by
  obtain ⟨a, c, rfl, h⟩ := h
  go_enter Tryz.func107, Tryz.ntmps107
  go_wp2
  go_loop [5] (fun i => ∃ k : Nat, k ≤ zs.length ∧ i = .int .i64 k ∧ Hid (∀ i, i < k → zs.getD i 0 ≠ n)) (fun i => zs.length - (intOf i).toNat)
  case atStart => exact ⟨0, Nat.zero_le _, rfl, Lib.hid (fun i hi => absurd hi (Nat.not_lt_zero _))⟩
  case round =>
    obtain ⟨k, hk, rfl, hno⟩ := hrel
    by_cases hlt : k < zs.length
    · rcases h with h | ⟨b, o, rfl, hb, hc⟩
      · exfalso; rw [h] at hlt; simp at hlt
      have d1 := hc k hlt
      obtain ⟨p, hp⟩ : ∃ p, p = zs.getD k 0 := ⟨_, rfl⟩
      have HP := Lib.hid hp
      rw [← hp] at d1
      clear hc hp
      by_cases he : p = n
      · have hb : (p == n) = true := by simp [he]
        have HE : Hid (isB zs n = true) := Lib.hid (isB_at hlt (by rw [← HP.out]; exact he))
        clear he
        go_wp2
        go_ret
        exact ⟨by rw [HE.out]; rfl, rfl⟩
      · have hb : (p == n) = false := by simp [he]
        have HE : Hid (∀ i, i < k + 1 → zs.getD i 0 ≠ n) := Lib.hid (fun i hi => by
          by_cases e : i = k
          · subst e; rw [← HP.out]; exact he
          · exact hno.out i (by omega))
        clear he
        go_wp2
        go_round
        case rel => exact ⟨k + 1, by omega, by go_num, HE⟩
        case measure => simp [intOf]; omega
    · obtain rfl : k = zs.length := by omega
      have HE : Hid (isB zs n = false) := Lib.hid (isB_take hno.out)
      go_wp2
      go_ret
      exact ⟨by rw [HE.out]; rfl, rfl⟩
end Go.Proofs.YtkbkdlaknmgjpaaGreat

/- What is used of a right work. -/
namespace Go.Proofs.YtkbkdlaknmgjpaaGreat

theorem workB_useQ {dss : List (List Dd)} (h : workB dss = true) : dss.length ≤ 3 ∧ ∀ i, i < dss.length → okL (dss.getD i []) = true := by
  simp only [workB, Bool.and_eq_true, decide_eq_true_eq] at h
  obtain ⟨⟨⟨⟨h1, h2⟩, _⟩, _⟩, _⟩ := h
  exact ⟨h1.2, fun i hi => all_get [] h2 i hi⟩
end Go.Proofs.YtkbkdlaknmgjpaaGreat

/- Contracts of the specification's l5Events and l5Groups. -/
namespace Go.Proofs.YtkbkdlaknmgjpaaGreat
open Go.ChangeShapes Go.WideShapes Go.ChangeAt Go.RowKit

theorem okD_kind {d : Dd} (h : okD d = true) : d.1 = 1 ∨ d.1 = 2 ∨ d.1 = 3 ∨ d.1 = 4 := by
  simp [okD, deedB] at h
  omega
theorem okD_group {d : Dd} (h : okD d = true) : 0 ≤ d.2.2.2 ∧ d.2.2.2 ≤ 9 := by
  simp [okD, deedB] at h
  omega
set_option maxRecDepth 100000 in
set_option maxHeartbeats 2000000 in
theorem l5Events_any (w : World) (v : Value) (dss : List (List Dd)) (h : RdW w v dss) (hx : dss.length ≤ 3) (hok : ∀ i, i < dss.length → okL (dss.getD i []) = true) :
    Calls Tryz.prog 111 #[v] w fun e w' => e = .returned (.int .i64 (evW dss dss.length)) ∧ Keep w w' := by
  obtain ⟨a, c, rfl, h⟩ := h
  go_enter Tryz.func111, Tryz.ntmps111
  go_wp2
  go_loopw [3, 4] (fun n i wr => ∃ k : Nat, ∃ m : Int, k ≤ dss.length ∧ n = .int .i64 m ∧ i = .int .i64 k ∧ Hid (m = evW dss k) ∧ 0 ≤ m ∧ m ≤ 10 * k ∧ Keep w wr) (fun _ i _ => dss.length - (intOf i).toNat)
  case atStart => exact ⟨0, 0, Nat.zero_le _, rfl, rfl, Lib.hid rfl, by omega, by omega, Keep.refl _⟩
  case round =>
    obtain ⟨k, m, hk, rfl, rfl, hm, m0, m1, hK⟩ := hrel
    by_cases hlt : k < dss.length
    · rcases h with h | ⟨b, o, rfl, hb, hc⟩
      · exfalso; rw [h] at hlt; simp at hlt
      obtain ⟨u, e1, r1⟩ := hc k hlt
      have d1 := (hK.cell hb).trans e1
      have r1 := r1.keep hK
      have okk := hok k hlt
      clear hc e1 hok
      obtain ⟨ds, hds⟩ : ∃ ds, ds = dss.getD k [] := ⟨_, rfl⟩
      have HDS := Lib.hid hds
      rw [← hds] at r1 okk
      clear hds
      obtain ⟨ai, ci, rfl, r1⟩ := r1
      have i1 : (0 : Int) ≤ (k : Int) := Int.natCast_nonneg _
      have i2 : (k : Int) < (dss.length : Int) := by omega
      have hl5 : ds.length ≤ 5 := by simp [okL] at okk; omega
      have hbw : b < wr.heap.size := Nat.lt_of_lt_of_le hb hK.size
      go_wp2
      obtain ⟨wo, hwo⟩ : ∃ wo : World, wo = wr := ⟨_, rfl⟩
      subst hwo
      go_loopw [3, 5] (fun n i wq => ∃ q : Nat, ∃ t : Int, q ≤ ds.length ∧ n = .int .i64 t ∧ i = .int .i64 q ∧ Hid (t = m + evK ds q) ∧ 0 ≤ t ∧ t ≤ 10 * k + 2 * q ∧ Keep wo wq) (fun _ i _ => ds.length - (intOf i).toNat)
      case atStart => exact ⟨0, m, Nat.zero_le _, rfl, rfl, Lib.hid (by simp [evK]), by omega, by omega, Keep.refl _⟩
      case round =>
        obtain ⟨q, t, hq, rfl, rfl, ht, t0, t1, hQ⟩ := hrel
        have d1 := (hQ.cell hbw).trans d1
        have hbq : b < wr.heap.size := Nat.lt_of_lt_of_le hbw hQ.size
        by_cases hlq : q < ds.length
        · rcases r1 with h | ⟨b2, o2, rfl, hb2, hc2⟩
          · exfalso; rw [h] at hlq; simp at hlq
          have AT := (hc2 q hlq).keep hb2 hQ
          have okq : okD (ds.getD q zD) = true := by
            simp only [okL, Bool.and_eq_true] at okk
            exact all_get zD okk.1 q hlq
          clear hc2 okk
          have hb3 : b2 < wr.heap.size := Nat.lt_of_lt_of_le hb2 hQ.size
          have HEV : Hid (t + evD (ds.getD q zD) = m + evK ds (q + 1)) := Lib.hid (by rw [evK, ht.out]; omega)
          clear ht
          obtain ⟨d, hd⟩ : ∃ d, d = ds.getD q zD := ⟨_, rfl⟩
          rw [← hd] at AT okq HEV
          clear hd
          have KD := okD_kind okq
          obtain ⟨x0, x1, x2, x3⟩ := d
          obtain ⟨A0, -, -, -⟩ := AT
          simp only at A0 KD
          have j1 : (0 : Int) ≤ (q : Int) := Int.natCast_nonneg _
          have j2 : (q : Int) < (ds.length : Int) := by omega
          rcases KD with rfl | rfl | rfl | rfl
          all_goals
            go_wp2
            go_roundw
            case rel => exact ⟨q + 1, _, by omega, rfl, by go_num, Lib.hid (by have := HEV.out; simp [evD] at this; omega), by omega, by omega, hQ.alloc _⟩
            case measure => simp [intOf]; omega
        · obtain rfl : q = ds.length := by omega
          go_wp2
          go_roundw
          case rel => exact ⟨k + 1, t, by omega, rfl, by go_num, Lib.hid (by rw [evW, ← HDS.out, ht.out, hm.out]), t0, by omega, hK.trans hQ⟩
          case measure => simp [intOf]; omega
    · obtain rfl : k = dss.length := by omega
      go_wp2
      go_ret
      exact ⟨by rw [hm.out]; rfl, hK⟩
theorem made_ten : (madeCells (Value.int .i64 0).cells (10 * 1)).toList = ((List.replicate 10 (0 : Int)).map (Value.int .i64)) := by
  rw [Nat.mul_one, List.map_replicate]
  exact toList_madeCells_one _ _
theorem grp_skip {i : Nat} {own o : List Int} {ds : List Dd} {k : Nat} (h : grpK i own ds k = some o) (hg : (ds.getD k zD).2.2.2 = 0) : grpK i own ds (k + 1) = some o := by
  rw [grpK, h]
  simp only [hg, if_true]
theorem grp_bad {i : Nat} {own o : List Int} {ds : List Dd} {k : Nat} (h : grpK i own ds k = some o) (hg : (ds.getD k zD).2.2.2 ≠ 0)
    (hb : o.getD (ds.getD k zD).2.2.2.toNat 0 ≠ 0 ∧ (o.getD (ds.getD k zD).2.2.2.toNat 0 ≠ (i : Int) + 1 ∨ k = 0 ∨ (ds.getD (k - 1) zD).2.2.2 ≠ (ds.getD k zD).2.2.2)) : grpK i own ds (k + 1) = none := by
  rw [grpK, h]
  simp only
  rw [if_neg hg, if_pos hb]
theorem grp_own {i : Nat} {own o : List Int} {ds : List Dd} {k : Nat} (h : grpK i own ds k = some o) (hg : (ds.getD k zD).2.2.2 ≠ 0)
    (hb : ¬ (o.getD (ds.getD k zD).2.2.2.toNat 0 ≠ 0 ∧ (o.getD (ds.getD k zD).2.2.2.toNat 0 ≠ (i : Int) + 1 ∨ k = 0 ∨ (ds.getD (k - 1) zD).2.2.2 ≠ (ds.getD k zD).2.2.2))) :
    grpK i own ds (k + 1) = some (o.set (ds.getD k zD).2.2.2.toNat ((i : Int) + 1)) := by
  rw [grpK, h]
  simp only
  rw [if_neg hg, if_neg hb]
theorem grp_out {dss : List (List Dd)} {k : Nat} {own : List Int} (hk : k < dss.length) (h : grpW dss k = some own) {q : Nat} (hq : q ≤ (dss.getD k []).length) (hn : grpK k own (dss.getD k []) q = none) : grpB dss = false := by
  have h1 : grpW dss (k + 1) = none := by
    rw [grpW, h]
    exact grpK_none hn _ hq
  rw [grpB, grpW_none h1 _ hk]
  rfl
set_option maxRecDepth 100000 in
set_option maxHeartbeats 4000000 in
theorem l5Groups_any (w : World) (v : Value) (dss : List (List Dd)) (h : RdW w v dss) (hx : dss.length ≤ 3) (hok : ∀ i, i < dss.length → okL (dss.getD i []) = true) :
    Calls Tryz.prog 112 #[v] w fun e w' => e = .returned (.bool (grpB dss)) ∧ Keep w w' := by
  obtain ⟨a, c, rfl, h⟩ := h
  obtain ⟨i0, hi, hz0, hz1, hz2⟩ := info_parts Tryz.infoI
  go_enter Tryz.func112, Tryz.ntmps112
  go_wp2_with (at_make; refine wpList_make_full _ rfl _ _ 25 rfl w.heap.size 2 i0 (.int .i64 0) 1 Tryz.underlying25 hi hz0 hz1 .i64 .i64 _ _ 10 rfl rfl rfl rfl (by rw [hz2]; omega) (by unfold maxLen; omega) (Nat.le_refl _) ?_; intro w1 hown hgrow)
  have k1 : Keep w w1 := (Keep.refl w).grown hgrow (by simp)
  have rb : RowAt w1 w.heap.size (List.replicate 10 0) := by
    have o : Own w1 w.heap.size (.slice (some ⟨w.heap.size, 0, none⟩) 10 10) (List.replicate 10 0) := by
      rw [made_ten] at hown; unfold Own; simpa using hown
    rcases o.row with ⟨e, _⟩ | ⟨g, cap, e, _, hr⟩
    · cases e
    · have e1 := congrArg Value.ownBlock e
      simp [Value.ownBlock] at e1
      rw [e1]; exact hr
  clear hgrow hown hi hz0 hz1 hz2
  go_loopw [4] (fun i wr => ∃ k : Nat, ∃ own : List Int, k ≤ dss.length ∧ i = .int .i64 k ∧ Hid (grpW dss k = some own) ∧ RowAt wr w.heap.size own ∧ Keep w wr) (fun i _ => dss.length - (intOf i).toNat)
  case atStart => exact ⟨0, List.replicate 10 0, Nat.zero_le _, rfl, Lib.hid rfl, rb, k1⟩
  case round =>
    obtain ⟨k, own, hk, rfl, hG, hR, hK⟩ := hrel
    clear rb k1
    by_cases hlt : k < dss.length
    · rcases h with h | ⟨b, o, rfl, hb, hc⟩
      · exfalso; rw [h] at hlt; simp at hlt
      obtain ⟨u, e1, r1⟩ := hc k hlt
      have okk := hok k hlt
      clear hc hok
      obtain ⟨ds, hds⟩ : ∃ ds, ds = dss.getD k [] := ⟨_, rfl⟩
      have HDS := Lib.hid hds
      rw [← hds] at r1 okk
      clear hds
      obtain ⟨ai, ci, rfl, r1⟩ := r1
      have d1 := (hK.cell hb).trans e1
      have i1 : (0 : Int) ≤ (k : Int) := Int.natCast_nonneg _
      have i2 : (k : Int) < (dss.length : Int) := by omega
      have hl5 : ds.length ≤ 5 := by simp [okL] at okk; omega
      go_wp2
      go_loopw [5] (fun i wq => ∃ q : Nat, ∃ ow : List Int, q ≤ ds.length ∧ i = .int .i64 q ∧ Hid (grpK k own ds q = some ow) ∧ RowAt wq w.heap.size ow ∧ Keep w wq) (fun i _ => ds.length - (intOf i).toNat)
      case atStart => exact ⟨0, own, Nat.zero_le _, rfl, Lib.hid rfl, hR, hK⟩
      case round =>
        obtain ⟨q, ow, hq, rfl, hQ, hS, hL⟩ := hrel
        have d1 := (hL.cell hb).trans e1
        by_cases hlq : q < ds.length
        · rcases r1 with h | ⟨b2, o2, rfl, hb2, hc2⟩
          · exfalso; rw [h] at hlq; simp at hlq
          have A3 := ((hc2 q hlq).keep hb2 hL).2.2.2
          have okq : okD (ds.getD q zD) = true := by
            simp only [okL, Bool.and_eq_true] at okk
            exact all_get zD okk.1 q hlq
          have g09 : 0 ≤ (ds.getD q zD).2.2.2 ∧ (ds.getD q zD).2.2.2 ≤ 9 := okD_group okq
          clear okk okq
          have AP : 0 < q → wr.cell? ⟨b2, o2 + (q - 1) * 4 + 3, none⟩ = some (.int .i64 (ds.getD (q - 1) zD).2.2.2) := fun _ => ((hc2 (q - 1) (by omega)).keep hb2 hL).2.2.2
          clear hc2
          have S1 := @grp_skip k own ow ds q hQ.out
          have S2 := @grp_bad k own ow ds q hQ.out
          have S3 := @grp_own k own ow ds q hQ.out
          have hlen : ow.length = 10 := (grpK_len hQ.out).trans (grpW_len hG.out)
          clear hQ
          obtain ⟨g, hg⟩ : ∃ g : Nat, (ds.getD q zD).2.2.2 = (g : Int) := ⟨_, (Int.toNat_of_nonneg g09.1).symm⟩
          rw [hg] at A3 g09 S1 S2 S3
          rw [Int.toNat_natCast] at S2 S3
          clear hg
          have hg9 : g < 10 := by omega
          obtain ⟨p, hp⟩ : ∃ p : Int, p = (ds.getD (q - 1) zD).2.2.2 := ⟨_, rfl⟩
          rw [← hp] at AP S2 S3
          clear hp
          have hRC := hS.cell (j := g) (by omega)
          obtain ⟨y, hy⟩ : ∃ y : Int, y = ow.getD g 0 := ⟨_, rfl⟩
          rw [← hy] at hRC S2 S3
          clear hy g09
          have j1 : (0 : Int) ≤ (q : Int) := Int.natCast_nonneg _
          have j2 : (q : Int) < (ds.length : Int) := by omega
          have j3 : (0 : Int) ≤ (g : Int) := Int.natCast_nonneg _
          have j4 : (g : Int) < 10 := by omega
          have hbq : b < wr.heap.size := Nat.lt_of_lt_of_le hb hL.size
          have hb3 : b2 < wr.heap.size := Nat.lt_of_lt_of_le hb2 hL.size
          by_cases g0 : g = 0
          · have eg : ((g : Int) == 0) = true := by simp [g0]
            have HE := Lib.hid (S1 (by omega))
            clear S1 S2 S3 AP
            go_wp2
            go_roundw
            case rel => exact ⟨q + 1, ow, by omega, by go_num, HE, hS, hL⟩
            case measure => simp [intOf]; omega
          · have HN : Hid ((g : Int) ≠ 0) := Lib.hid (by omega)
            have eg : ((g : Int) == 0) = false := by simp; omega
            have hF := hS.free g
            clear S1
            by_cases y0 : y = 0
            · subst y0
              have HE := Lib.hid (S3 HN.out (by simp))
              clear S2 S3 AP
              go_wp2
              go_roundw
              case rel => exact ⟨q + 1, _, by omega, by go_num, HE, hS.set g _, hL.set (Nat.le_refl _) g _⟩
              case measure => simp [intOf]; omega
            · have ey : (y != 0) = true := by simp [y0]
              by_cases yk : y = (k : Int) + 1
              · subst yk
                have ek : ((k : Int) + 1 != (k : Int) + 1) = false := by simp
                by_cases q0 : q = 0
                · have eq : ((q : Int) == 0) = true := by simp [q0]
                  have HE : Hid (grpB dss = false) := Lib.hid (grp_out hlt hG.out (q := q + 1) (by rw [← HDS.out]; omega) (by rw [← HDS.out]; exact S2 HN.out ⟨y0, .inr (.inl q0)⟩))
                  clear S2 S3 AP y0 q0
                  go_wp2
                  go_ret
                  exact ⟨by rw [HE.out]; rfl, hL⟩
                · have eq : ((q : Int) == 0) = false := by simp; omega
                  have AP := AP (by omega)
                  obtain ⟨r, rfl⟩ : ∃ r : Nat, q = r + 1 := ⟨q - 1, by omega⟩
                  rw [Nat.add_sub_cancel] at AP
                  have j5 : (0 : Int) ≤ (r : Int) := Int.natCast_nonneg _
                  have j6 : (r : Int) < (ds.length : Int) := by omega
                  by_cases pg : p = (g : Int)
                  · subst pg
                    have ep : ((g : Int) != (g : Int)) = false := by simp
                    have HE := Lib.hid (S3 HN.out (by simp))
                    clear S2 S3 y0
                    go_wp2
                    go_roundw
                    case rel => exact ⟨r + 1 + 1, _, by omega, by go_num, HE, hS.set g _, hL.set (Nat.le_refl _) g _⟩
                    case measure => simp [intOf]; omega
                  · have ep : (p != (g : Int)) = true := by simp [pg]
                    have HE : Hid (grpB dss = false) := Lib.hid (grp_out hlt hG.out (q := r + 1 + 1) (by rw [← HDS.out]; omega) (by rw [← HDS.out]; exact S2 HN.out ⟨y0, .inr (.inr pg)⟩))
                    clear S2 S3 y0 pg
                    go_wp2
                    go_ret
                    exact ⟨by rw [HE.out]; rfl, hL⟩
              · have ek : (y != (k : Int) + 1) = true := by simp [yk]
                have HE : Hid (grpB dss = false) := Lib.hid (grp_out hlt hG.out (q := q + 1) (by rw [← HDS.out]; omega) (by rw [← HDS.out]; exact S2 HN.out ⟨y0, .inl yk⟩))
                clear S2 S3 AP yk y0
                go_wp2
                go_ret
                exact ⟨by rw [HE.out]; rfl, hL⟩
        · obtain rfl : q = ds.length := by omega
          go_wp2
          go_roundw
          case rel => exact ⟨k + 1, ow, by omega, by go_num, Lib.hid (by rw [grpW, hG.out, ← HDS.out]; exact hQ.out), hS, hL⟩
          case measure => simp [intOf]; omega
    · obtain rfl : k = dss.length := by omega
      go_wp2
      go_ret
      exact ⟨by rw [grpB, hG.out]; rfl, hK⟩
end Go.Proofs.YtkbkdlaknmgjpaaGreat

/- Contract of the specification's WorkOk. -/
namespace Go.Proofs.YtkbkdlaknmgjpaaGreat
open Go.ChangeShapes Go.WideShapes Go.ChangeAt Go.RowKit

theorem take_more {α : Type} (l : List α) (k : Nat) (z : α) (h : k < l.length) : l.take (k + 1) = l.take k ++ [l.getD k z] := by
  rw [List.take_add_one, List.getElem?_eq_getElem h, List.getD_eq_getElem?_getD, List.getElem?_eq_getElem h]
  rfl
theorem all_more {α : Type} {f : α → Bool} {l : List α} {k : Nat} (z : α) (h : k < l.length) (h1 : (l.take k).all f = true) (h2 : f (l.getD k z) = true) : (l.take (k + 1)).all f = true := by
  rw [take_more l k z h, List.all_append, h1]
  rw [List.all_cons, h2]; rfl
theorem lenW_more (d : List Dd) : ∀ l : List (List Dd), lenW (l ++ [d]) = lenW l + d.length
  | [] => by simp [lenW]
  | x :: r => by rw [List.cons_append, lenW, lenW, lenW_more d r]; omega
theorem workB_off {dss : List (List Dd)} {k : Nat} (hk : k < dss.length) (h : okL (dss.getD k []) = false) : workB dss = false := by
  rw [workB, all_not [] k hk h]; simp
set_option maxRecDepth 100000 in
set_option maxHeartbeats 4000000 in
theorem specWorkOk_any (w : World) (v : Value) (dss : List (List Dd)) (h : RdW w v dss) (hx : dss.length ≤ 1048576) (hm : ∀ i, i < dss.length → (dss.getD i []).length ≤ 1048576) :
    Calls Tryz.prog 59 #[v] w fun e w' => e = .returned (.bool (workB dss)) ∧ Keep w w' := by
  have RW := h
  obtain ⟨a, c, rfl, h⟩ := h
  cases hb : inB (dss.length : Int) 1 3
  · have HE : Hid (workB dss = false) := by
      refine Lib.hid ?_
      simp [inB] at hb
      rw [workB, decide_eq_false (by omega)]
      rfl
    go_enter Tryz.func59, Tryz.ntmps59
    go_wp2_with (go_at_call 109; refine (l1In_any _ _ _ _).mono ?_; rintro e w' ⟨rfl, rfl⟩)
    go_ret
    exact ⟨by rw [HE.out]; rfl, Keep.refl _⟩
  · have h13 : 1 ≤ dss.length ∧ dss.length ≤ 3 := by simp [inB] at hb; omega
    have HIN := Lib.hid h13
    have h3 := h13.2
    clear h13
    go_enter Tryz.func59, Tryz.ntmps59
    go_wp2_with (go_at_call 109; refine (l1In_any _ _ _ _).mono ?_; rintro e w' ⟨rfl, rfl⟩)
    clear hb
    go_loopw [3, 4] (fun n i wr => ∃ k m : Nat, k ≤ dss.length ∧ n = .int .i64 m ∧ i = .int .i64 k ∧ Hid (m = lenW (dss.take k) ∧ (dss.take k).all okL = true) ∧ m ≤ 5 * k ∧ Keep w' wr) (fun _ i _ => dss.length - (intOf i).toNat)
    case atStart => exact ⟨0, 0, Nat.zero_le _, rfl, rfl, Lib.hid (by simp [lenW]), by omega, Keep.refl _⟩
    case round =>
      obtain ⟨k, m, hk, rfl, rfl, hM, m5, hK⟩ := hrel
      by_cases hlt : k < dss.length
      · rcases h with h | ⟨b, o, rfl, hb, hc⟩
        · exfalso; rw [h] at hlt; simp at hlt
        obtain ⟨u, e1, r1⟩ := hc k hlt
        have hmk := hm k hlt
        clear hc hm RW
        obtain ⟨ds, hds⟩ : ∃ ds, ds = dss.getD k [] := ⟨_, rfl⟩
        have HDS := Lib.hid hds
        rw [← hds] at r1 hmk
        clear hds
        obtain ⟨ai, ci, rfl, r1⟩ := r1
        have d1 := (hK.cell hb).trans e1
        have i1 : (0 : Int) ≤ (k : Int) := Int.natCast_nonneg _
        have i2 : (k : Int) < (dss.length : Int) := by omega
        go_wp2
        go_loopw [5] (fun i wq => ∃ q : Nat, q ≤ ds.length ∧ i = .int .i64 q ∧ Hid ((ds.take q).all okD = true) ∧ Keep w' wq) (fun i _ => ds.length - (intOf i).toNat)
        case atStart => exact ⟨0, Nat.zero_le _, rfl, Lib.hid (by simp), hK⟩
        case round =>
          obtain ⟨q, hq, rfl, hQ, hL⟩ := hrel
          have d1 := (hL.cell hb).trans e1
          by_cases hlq : q < ds.length
          · rcases r1 with h | ⟨b2, o2, rfl, hb2, hc2⟩
            · exfalso; rw [h] at hlq; simp at hlq
            have AT := (hc2 q hlq).keep hb2 hL
            clear hc2
            have hbq : b < wr.heap.size := Nat.lt_of_lt_of_le hb hL.size
            have hb3 : b2 < wr.heap.size := Nat.lt_of_lt_of_le hb2 hL.size
            have j1 : (0 : Int) ≤ (q : Int) := Int.natCast_nonneg _
            have j2 : (q : Int) < (ds.length : Int) := by omega
            have HT : okD (ds.getD q zD) = true → Hid ((ds.take (q + 1)).all okD = true) := fun e => Lib.hid (all_more zD hlq hQ.out e)
            have HF : okD (ds.getD q zD) = false → Hid (workB dss = false) := fun e => Lib.hid (workB_off hlt (by rw [← HDS.out, okL, all_not zD q hlq e]; rfl))
            clear hQ
            obtain ⟨d, hd⟩ : ∃ d, d = ds.getD q zD := ⟨_, rfl⟩
            rw [← hd] at AT HT HF
            clear hd
            obtain ⟨x0, x1, x2, x3⟩ := d
            obtain ⟨A0, A1, A2, A3⟩ := AT
            simp only at A0 A1 A2 A3
            unfold okD at HT HF
            simp only at HT HF
            cases hd : deedB x0 x1 x2 x3
            · have HE := HF hd
              clear HT HF
              go_wp2_with fail
              refine (specDeedOk_any _ _ _ _ _).mono ?_
              rintro e wz ⟨rfl, kk⟩
              go_wp2
              go_ret
              exact ⟨by rw [HE.out]; rfl, hL.trans kk⟩
            · have HE := HT hd
              clear HT HF
              go_wp2_with fail
              refine (specDeedOk_any _ _ _ _ _).mono ?_
              rintro e wz ⟨rfl, kk⟩
              go_wp2
              go_roundw
              case rel => exact ⟨q + 1, by omega, by go_num, HE, hL.trans kk⟩
              case measure => simp [intOf]; omega
          · obtain rfl : q = ds.length := by omega
            rw [List.take_length] at hQ
            by_cases h5 : ds.length ≤ 5
            · have HE : Hid (m + ds.length = lenW (dss.take (k + 1)) ∧ (dss.take (k + 1)).all okL = true) := by
                refine Lib.hid ⟨?_, all_more [] hlt hM.out.2 (by rw [← HDS.out, okL, hQ.out]; simp [h5])⟩
                rw [take_more dss k [] hlt, lenW_more, ← HDS.out, hM.out.1]
              go_wp2
              go_roundw
              case rel => exact ⟨k + 1, m + ds.length, by omega, by go_num, by go_num, HE, by omega, hL⟩
              case measure => simp [intOf]; omega
            · have HE : Hid (workB dss = false) := Lib.hid (workB_off hlt (by rw [← HDS.out, okL]; simp; omega))
              go_wp2
              go_ret
              exact ⟨by rw [HE.out]; rfl, hL⟩
      · obtain rfl : k = dss.length := by omega
        rw [List.take_length] at hM
        have OKS : ∀ i, i < dss.length → okL (dss.getD i []) = true := fun i hi => all_get [] hM.out.2 i hi
        have HW : Hid (workB dss = (decide (m ≤ 12) && decide (evW dss dss.length ≤ 6) && grpB dss)) := by
          refine Lib.hid ?_
          rw [workB, decide_eq_true HIN.out, hM.out.2, hM.out.1]
          rfl
        have rw1 := RW.keep hK
        clear hM RW h hm
        by_cases h12 : m ≤ 12
        · have e12 : decide ((m : Int) ≤ 12) = true := by simp; omega
          by_cases h6 : evW dss dss.length ≤ 6
          · have HE : Hid (workB dss = grpB dss) := Lib.hid (by rw [HW.out]; simp [h12, h6])
            go_wp2_with fail
            refine (l5Events_any _ _ _ rw1 h3 OKS).mono ?_
            rintro e wz ⟨rfl, kk⟩
            have rw2 := rw1.keep kk
            go_wp2_with fail
            refine (l5Groups_any _ _ _ rw2 h3 OKS).mono ?_
            rintro e wy ⟨rfl, k2⟩
            go_wp2
            go_ret
            exact ⟨by rw [HE.out]; rfl, (hK.trans kk).trans k2⟩
          · have HE : Hid (workB dss = false) := Lib.hid (by rw [HW.out]; simp [h6])
            go_wp2_with fail
            refine (l5Events_any _ _ _ rw1 h3 OKS).mono ?_
            rintro e wz ⟨rfl, kk⟩
            go_wp2
            go_ret
            exact ⟨by rw [HE.out]; rfl, hK.trans kk⟩
        · have HE : Hid (workB dss = false) := Lib.hid (by rw [HW.out]; simp [h12])
          go_wp2
          go_ret
          exact ⟨by rw [HE.out]; rfl, hK⟩
end Go.Proofs.YtkbkdlaknmgjpaaGreat

/- What lies in memory while the specification lists the events of a work: the list that grows, where each Group began, the deed and the event in hand. -/
namespace Go.Proofs.YtkbkdlaknmgjpaaGreat
open Go.ChangeShapes Go.WideShapes Go.ChangeAt Go.RowKit

abbrev dC (k p v g : Int) : Obj := .cells #[.int .i64 k, .int .i64 p, .int .i64 v, .int .i64 g] 96
abbrev eC (i k : Int) (r : Bool) (p v c : Int) : Obj := .cells #[.int .i64 i, .int .i64 k, .bool r, .int .i64 p, .int .i64 v, .int .i64 c] 40
/-- The list that grows and the row of where each Group began. -/
structure InL (w wr : World) (F : Nat) (out : Value) (es : List Ev) (f : List Int) : Prop where
  app : AppE wr w.heap.size out es
  row : RowAt wr F f
  keep : Keep w wr
  hF : w.heap.size ≤ F
  oF : out.ownBlock ≠ some F
/-- .. beside the deed in block D and the event in block X. -/
structure InE (w wr : World) (F D X : Nat) (out : Value) (es : List Ev) (f : List Int) (k p v g : Int) (i q : Int) (r : Bool) (pl vl c : Int) : Prop where
  l : InL w wr F out es f
  box : wr.heap[D]? = some (dC k p v g)
  ev : wr.heap[X]? = some (eC i q r pl vl c)
  hD : w.heap.size ≤ D
  hX : w.heap.size ≤ X
  DX : D ≠ X
  FD : F ≠ D
  FX : F ≠ X
  oD : out.ownBlock ≠ some D
  oX : out.ownBlock ≠ some X
theorem grown_none_row {w w' : World} (h : w.grownBy w' none) (row : Option Nat) : w.grownBy w' row := ⟨h.os, h.tape, h.output, h.size, fun k hk _ => h.block k hk (by simp)⟩
theorem InL.more {w wr wr' : World} {F : Nat} {out : Value} {es : List Ev} {f : List Int} (h : InL w wr F out es f) (k : Keep wr wr') : InL w wr' F out es f :=
  ⟨h.app.keep k, h.row.keep k, h.keep.trans k, h.hF, h.oF⟩
theorem InL.boxes {w wr : World} {F : Nat} {out : Value} {es : List Ev} {f : List Int} (h : InL w wr F out es f) (k p v g i q : Int) (r : Bool) (pl vl c : Int) :
    InE w ((wr.alloc (dC k p v g)).alloc (eC i q r pl vl c)) F wr.heap.size (wr.heap.size + 1) out es f k p v g i q r pl vl c := by
  have hs := h.keep.size
  have hR := h.row.lt
  have hl := h.app.lt
  have z : (wr.alloc (dC k p v g)).heap.size = wr.heap.size + 1 := heap_size wr _
  refine ⟨h.more (((Keep.refl wr).alloc _).alloc _), ?_, ?_, hs, by omega, by omega, by omega, by omega, fun e => ?_, fun e => ?_⟩
  · rw [heap_at, if_neg (by rw [z]; omega), heap_at, if_pos rfl]
  · rw [heap_at, if_pos z.symm]
  · have := (hl _ e).2; omega
  · have := (hl _ e).2; omega
variable {w wr : World} {F D X : Nat} {out : Value} {es : List Ev} {f : List Int} {k p v g i q pl vl c : Int} {r : Bool}
theorem InE.more {wr' : World} (h : InE w wr F D X out es f k p v g i q r pl vl c) (kk : Keep wr wr') : InE w wr' F D X out es f k p v g i q r pl vl c :=
  ⟨h.l.more kk, (Below.block kk D (Array.getElem?_eq_some_iff.1 h.box).1).trans h.box, (Below.block kk X (Array.getElem?_eq_some_iff.1 h.ev).1).trans h.ev, h.hD, h.hX, h.DX, h.FD, h.FX, h.oD, h.oX⟩
theorem InE.lt (h : InE w wr F D X out es f k p v g i q r pl vl c) : D < wr.heap.size ∧ X < wr.heap.size ∧ F < wr.heap.size :=
  ⟨(Array.getElem?_eq_some_iff.1 h.box).1, (Array.getElem?_eq_some_iff.1 h.ev).1, h.l.row.lt⟩
theorem InE.deed (h : InE w wr F D X out es f k p v g i q r pl vl c) :
    wr.cell? ⟨D, 0, none⟩ = some (.int .i64 k) ∧ wr.cell? ⟨D, 1, none⟩ = some (.int .i64 p) ∧ wr.cell? ⟨D, 2, none⟩ = some (.int .i64 v) ∧ wr.cell? ⟨D, 3, none⟩ = some (.int .i64 g) :=
  ⟨cell_of_row wr D 0 _ _ (0, 0) h.box, cell_of_row wr D 1 _ _ (0, 0) h.box, cell_of_row wr D 2 _ _ (0, 0) h.box, cell_of_row wr D 3 _ _ (0, 0) h.box⟩
theorem InE.event (h : InE w wr F D X out es f k p v g i q r pl vl c) :
    wr.cell? ⟨X, 0, none⟩ = some (.int .i64 i) ∧ wr.cell? ⟨X, 1, none⟩ = some (.int .i64 q) ∧ wr.cell? ⟨X, 2, none⟩ = some (.bool r) ∧ wr.cell? ⟨X, 3, none⟩ = some (.int .i64 pl) ∧ wr.cell? ⟨X, 4, none⟩ = some (.int .i64 vl) ∧ wr.cell? ⟨X, 5, none⟩ = some (.int .i64 c) :=
  ⟨cell_of_row wr X 0 _ _ (0, 0) h.ev, cell_of_row wr X 1 _ _ (0, 0) h.ev, cell_of_row wr X 2 _ _ (0, 0) h.ev, cell_of_row wr X 3 _ _ (0, 0) h.ev, cell_of_row wr X 4 _ _ (0, 0) h.ev, cell_of_row wr X 5 _ _ (0, 0) h.ev⟩
theorem InE.free (h : InE w wr F D X out es f k p v g i q r pl vl c) (j : Nat) : wr.frozen? ⟨X, j, none⟩ = false := frozen_of_row wr X j _ _ h.ev
theorem InE.setX (h : InE w wr F D X out es f k p v g i q r pl vl c) (j : Nat) (x : Value) {r' : Bool} {pl' vl' c' : Int}
    (he : (wr.setCell ⟨X, j, none⟩ x).heap[X]? = some (eC i q r' pl' vl' c')) : InE w (wr.setCell ⟨X, j, none⟩ x) F D X out es f k p v g i q r' pl' vl' c' := by
  have hg := grown_set wr X j x
  have a := h.l
  refine ⟨⟨a.app.kept hg (.inr h.oX), a.row.kept hg (by simp; exact fun e => h.FX e.symm), a.keep.grown hg (by simp; exact h.hX), a.hF, a.oF⟩, (hg.block D h.lt.1 (by simp; exact h.DX)).trans h.box, he, h.hD, h.hX, h.DX, h.FD, h.FX, h.oD, h.oX⟩
theorem InE.set2 (h : InE w wr F D X out es f k p v g i q r pl vl c) (x : Bool) : InE w (wr.setCell ⟨X, 2, none⟩ (.bool x)) F D X out es f k p v g i q x pl vl c :=
  h.setX 2 _ (by rw [heap_setCell_same wr X 2 _ _ _ h.ev]; rfl)
theorem InE.set4 (h : InE w wr F D X out es f k p v g i q r pl vl c) (x : Int) : InE w (wr.setCell ⟨X, 4, none⟩ (.int .i64 x)) F D X out es f k p v g i q r pl x c :=
  h.setX 4 _ (by rw [heap_setCell_same wr X 4 _ _ _ h.ev]; rfl)
theorem InE.set5 (h : InE w wr F D X out es f k p v g i q r pl vl c) (x : Int) : InE w (wr.setCell ⟨X, 5, none⟩ (.int .i64 x)) F D X out es f k p v g i q r pl vl x :=
  h.setX 5 _ (by rw [heap_setCell_same wr X 5 _ _ _ h.ev]; rfl)
theorem InE.setF (h : InE w wr F D X out es f k p v g i q r pl vl c) (j : Nat) (x : Int) : InE w (wr.setCell ⟨F, j, none⟩ (.int .i64 x)) F D X out es (f.set j x) k p v g i q r pl vl c := by
  have hg := grown_set wr F j (.int .i64 x)
  have a := h.l
  exact ⟨⟨a.app.kept hg (.inr a.oF), a.row.set j x, a.keep.grown hg (by simp; exact a.hF), a.hF, a.oF⟩, (hg.block D h.lt.1 (by simp; exact fun e => h.FD e.symm)).trans h.box, (hg.block X h.lt.2.1 (by simp; exact fun e => h.FX e.symm)).trans h.ev, h.hD, h.hX, h.DX, h.FD, h.FX, h.oD, h.oX⟩
theorem InE.hit (h : InE w wr F D X out es f k p v g i q r pl vl c) {o : Obj} {v' : Value} {w' : World} (e : Ev)
    (ho : w'.ownsRow w.heap.size 40 6 v' (es.length + 1) (es.flatMap cE ++ cE e)) (hg : (wr.alloc o).grownBy w' out.ownBlock) (hb : v'.ownBlock = out.ownBlock ∨ v'.ownBlock = some (wr.heap.size + 1)) :
    InE w w' F D X v' (es ++ [e]) f k p v g i q r pl vl c := by
  have h1 := h.more ((Keep.refl wr).alloc o)
  obtain ⟨a1, a2, a3⟩ := h1.lt
  have apart : ∀ n, n < (wr.alloc o).heap.size → out.ownBlock ≠ some n → v'.ownBlock ≠ some n := fun n hn hne e => by
    rcases hb with hb | hb
    · exact hne (hb ▸ e)
    · rw [hb] at e; have := Option.some.inj e; rw [heap_size] at hn; omega
  exact ⟨⟨appT_hit ho, h1.l.row.kept hg h1.l.oF, h1.l.keep.grown hg h1.l.app.ge, h1.l.hF, apart F a3 h1.l.oF⟩, (hg.block D a1 (fun e => h1.oD e.symm)).trans h1.box, (hg.block X a2 (fun e => h1.oX e.symm)).trans h1.ev, h1.hD, h1.hX, h1.DX, h1.FD, h1.FX, apart D a1 h1.oD, apart X a2 h1.oX⟩
theorem cE_one (e : Ev) : ∀ u ∈ cE e, u.oneCell' = true := by
  intro u hu
  simp only [cE, List.mem_cons, List.not_mem_nil, or_false] at hu
  rcases hu with rfl | rfl | rfl | rfl | rfl | rfl <;> rfl
theorem cE_new (w : World) (i q : Int) (r : Bool) (pl vl c : Int) : ∀ j u, (cE (i, q, r, pl, vl, c))[j]? = some u → (w.alloc (eC i q r pl vl c)).cell? ((⟨w.heap.size, 0, none⟩ : Addr).add j) = some u := by
  intro j u hj
  match j, hj with
  | 0, hj => simp [cE] at hj; subst hj; simp [Addr.add]
  | 1, hj => simp [cE] at hj; subst hj; simp [Addr.add]
  | 2, hj => simp [cE] at hj; subst hj; simp [Addr.add]
  | 3, hj => simp [cE] at hj; subst hj; simp [Addr.add]
  | 4, hj => simp [cE] at hj; subst hj; simp [Addr.add]
  | 5, hj => simp [cE] at hj; subst hj; simp [Addr.add]
theorem cE_newAt (w : World) (n : Nat) (hn : w.heap.size = n) (i q : Int) (r : Bool) (pl vl c : Int) : ∀ j u, (cE (i, q, r, pl, vl, c))[j]? = some u → (w.alloc (eC i q r pl vl c)).cell? ((⟨n, 0, none⟩ : Addr).add j) = some u := by
  subst hn
  exact cE_new w i q r pl vl c
end Go.Proofs.YtkbkdlaknmgjpaaGreat

/- Contract of the specification's l6Events: the events of a right work, in order. -/
namespace Go.Proofs.YtkbkdlaknmgjpaaGreat
open Go.ChangeShapes Go.WideShapes Go.ChangeAt Go.RowKit

theorem fstE_len (g : Int) (n : Nat) (f : List Int) : (fstE g n f).length = f.length := by unfold fstE; split <;> simp
set_option maxRecDepth 100000 in
set_option maxHeartbeats 4000000 in
theorem l6Events_any (w : World) (v : Value) (dss : List (List Dd)) (h : RdW w v dss) (hx : dss.length ≤ 3) (hok : ∀ i, i < dss.length → okL (dss.getD i []) = true) :
    Calls Tryz.prog 54 #[v] w fun e w' => ∃ v', e = .returned v' ∧ AppE w' w.heap.size v' (evsW dss dss.length) ∧ Keep w w' := by
  obtain ⟨a, c, rfl, h⟩ := h
  obtain ⟨i0, hi, hz0, hz1, hz2⟩ := info_parts Tryz.infoI
  obtain ⟨j0, hj, hy0, hy1, hy2⟩ := info_parts Tryz.infoE
  have A0 : AppE (w.alloc (.cells #[] 40)) w.heap.size (.slice (some ⟨w.heap.size, 0, none⟩) 0 0) [] := appT_empty w
  go_enter Tryz.func54, Tryz.ntmps54
  go_wp2
  go_loopw [3, 4] (fun v i wr => ∃ k : Nat, ∃ m : Int, ∃ es : List Ev, k ≤ 3 ∧ i = .int .i64 m ∧ m = (k : Int) ∧ Hid (es = evBeg.take k) ∧ es.length ≤ k ∧ AppE wr w.heap.size v es ∧ Keep w wr) (fun _ i _ => 3 - (intOf i).toNat)
  case atStart => exact ⟨0, 0, [], Nat.zero_le _, rfl, rfl, Lib.hid rfl, Nat.le_refl _, A0, (Keep.refl _).alloc _⟩
  case round =>
    obtain ⟨k, m, es, hk, rfl, hm, hE, hel, ho, hK⟩ := hrel
    clear A0
    have hsz := hK.size
    by_cases hlt : k < 3
    · subst hm
      have HM : Hid (es ++ [((-1 : Int), (-1 : Int), false, (k : Int), 0, (k : Int))] = evBeg.take (k + 1)) := Lib.hid (by
        rw [hE.out]
        have : k = 0 ∨ k = 1 ∨ k = 2 := by omega
        rcases this with rfl | rfl | rfl <;> rfl)
      clear hE
      go_wp2_with (at_builtin; refine wpList_append_own_at _ rfl _ _ 36 rfl w.heap.size 40 j0 (.agg #[.int .i64 0, .int .i64 0, .bool false, .int .i64 0, .int .i64 0, .int .i64 0]) 6 48 Tryz.underlying36 hj hy0 hy1 hy2 rfl (by decide) _ _ _ rfl (ho.keep ((Keep.refl _).alloc _)) ⟨_, 0, none⟩ 1 1 (cE ((-1 : Int), (-1 : Int), false, (k : Int), 0, (k : Int))) rfl rfl ?c1 ?c2 ?c3 ?c4 ?c5 ?_)
      case c1 => exact cE_new _ _ _ _ _ _ _
      case c2 => exact cE_one _
      case c3 => unfold maxLen; omega
      case c4 => omega
      case c5 => simp; omega
      intro v' w1 hown' hgrow _ _
      have hK1 : Keep w w1 := (hK.alloc _).grown hgrow ho.ge
      have hA := appT_hit hown'
      clear hgrow hown'
      go_wp2
      go_roundw
      case rel => exact ⟨k + 1, _, _, by omega, rfl, by omega, HM, by simp; omega, hA, hK1⟩
      case measure => simp [intOf]; omega
    obtain rfl : m = 3 := by omega
    have HB : Hid (es = evsW dss 0) := Lib.hid (by rw [hE.out, show k = 3 by omega]; rfl)
    clear hE hm
    go_wp2
    go_loopw [3, 5] (fun v i wr => ∃ k : Nat, ∃ es : List Ev, k ≤ dss.length ∧ i = .int .i64 k ∧ Hid (es = evsW dss k) ∧ es.length ≤ 3 + 10 * k ∧ AppE wr w.heap.size v es ∧ Keep w wr) (fun _ i _ => dss.length - (intOf i).toNat)
    case atStart => exact ⟨0, es, Nat.zero_le _, rfl, HB, by omega, ho, hK⟩
    case round =>
      clear HB hel ho hK hsz hlt hk
      obtain ⟨k, es, hk, rfl, hE, hel, ho, hK⟩ := hrel
      have hsz := hK.size
      by_cases hlt : k < dss.length
      · rcases h with h | ⟨b, o, rfl, hb, hc⟩
        · exfalso; rw [h] at hlt; simp at hlt
        obtain ⟨u, e1, r1⟩ := hc k hlt
        have okk := hok k hlt
        clear hc hok
        obtain ⟨ds, hds⟩ : ∃ ds, ds = dss.getD k [] := ⟨_, rfl⟩
        have HDS := Lib.hid hds
        rw [← hds] at r1 okk
        clear hds
        obtain ⟨ai, ci, rfl, r1⟩ := r1
        have d1 := (hK.cell hb).trans e1
        have i1 : (0 : Int) ≤ (k : Int) := Int.natCast_nonneg _
        have i2 : (k : Int) < (dss.length : Int) := by omega
        have hl5 : ds.length ≤ 5 := by simp [okL] at okk; omega
        obtain ⟨wo, hwo⟩ : ∃ wo : World, wo = wr := ⟨_, rfl⟩
        subst hwo
        go_wp2_with (at_make; refine wpList_make_full _ rfl _ _ 25 rfl wo.heap.size 2 i0 (.int .i64 0) 1 Tryz.underlying25 hi hz0 hz1 .i64 .i64 _ _ 10 rfl rfl rfl rfl (by rw [hz2]; omega) (by unfold maxLen; omega) (Nat.le_refl _) ?_; intro w1 hown hgrow)
        have k1 : Keep wo w1 := (Keep.refl wo).grown hgrow (by simp)
        have rb : RowAt w1 wo.heap.size (List.replicate 10 0) := by
          have o : Own w1 wo.heap.size (.slice (some ⟨wo.heap.size, 0, none⟩) 10 10) (List.replicate 10 0) := by
            rw [made_ten] at hown; unfold Own; simpa using hown
          rcases o.row with ⟨e, _⟩ | ⟨g, cap, e, _, hr⟩
          · cases e
          · have e1 := congrArg Value.ownBlock e
            simp [Value.ownBlock] at e1
            rw [e1]; exact hr
        clear hgrow hown
        have L0 : InL w w1 wo.heap.size _ es (List.replicate 10 0) := ⟨ho.keep k1, rb, hK.trans k1, hsz, fun e => by have := (ho.lt _ e).2; omega⟩
        go_loopw [3, 7] (fun v i wq => ∃ q : Nat, ∃ evs : List Ev, ∃ f : List Int, q ≤ ds.length ∧ i = .int .i64 q ∧ Hid (clkE k ds es q = (evs, f)) ∧ Hid (f.length = 10) ∧ evs.length ≤ 3 + 10 * k + 2 * q ∧ InL w wq wo.heap.size v evs f) (fun _ i _ => ds.length - (intOf i).toNat)
        case atStart => exact ⟨0, es, _, Nat.zero_le _, rfl, Lib.hid rfl, Lib.hid rfl, by omega, L0⟩
        case round =>
          clear L0 rb k1 w1 d1
          obtain ⟨q, evs, f, hq, rfl, hC, hfl, hev, hI⟩ := hrel
          have d1 := (hI.keep.cell hb).trans e1
          have hbq : b < wr.heap.size := Nat.lt_of_lt_of_le hb hI.keep.size
          by_cases hlq : q < ds.length
          · rcases r1 with h | ⟨b2, o2, rfl, hb2, hc2⟩
            · exfalso; rw [h] at hlq; simp at hlq
            have AT := (hc2 q hlq).keep hb2 hI.keep
            have okq : okD (ds.getD q zD) = true := by
              simp only [okL, Bool.and_eq_true] at okk
              exact all_get zD okk.1 q hlq
            clear hc2 okk
            have hb3 : b2 < wr.heap.size := Nat.lt_of_lt_of_le hb2 hI.keep.size
            have HST : Hid (clkE k ds es (q + 1) = stepE k q (ds.getD q zD) (evs, f)) := Lib.hid (by rw [clkE, hC.out])
            clear hC
            obtain ⟨d, hd⟩ : ∃ d, d = ds.getD q zD := ⟨_, rfl⟩
            rw [← hd] at AT okq HST
            clear hd
            have KD := okD_kindE okq
            have RD := okD_restE okq
            obtain ⟨x0, x1, x2, x3⟩ := d
            obtain ⟨A0, A1, A2, A3⟩ := AT
            simp only at A0 A1 A2 A3 KD RD
            obtain ⟨-, -, r2, r3, r4⟩ := RD
            obtain ⟨g, rfl⟩ := Int.eq_ofNat_of_zero_le r2
            have j1 : (0 : Int) ≤ (q : Int) := Int.natCast_nonneg _
            have j2 : (q : Int) < (ds.length : Int) := by omega
            have j3 : (0 : Int) ≤ (g : Int) := Int.natCast_nonneg _
            have j4 : (g : Int) < 10 := by omega
            have hg9 : g < 10 := by omega
            clear r2 r3 okq
            obtain ⟨av, cv, rfl⟩ := hI.app.shape
            rcases KD with rfl | rfl | rfl | rfl
            · obtain ⟨f', hf'⟩ : ∃ f', f' = fstE (g : Int) evs.length f := ⟨_, rfl⟩
              obtain ⟨cl, hcl⟩ : ∃ cl, cl = clsE (g : Int) evs.length f := ⟨_, rfl⟩
              have HS : Hid (clkE k ds es (q + 1) = (evs ++ [((k : Int), (q : Int), true, x1, 0, cl)], f')) := Lib.hid (by rw [HST.out, hf', hcl]; rfl)
              have hfl' : Hid (f'.length = 10) := Lib.hid (by rw [hf', fstE_len]; exact hfl.out)
              have HF := Lib.hid hf'
              have HC := Lib.hid hcl
              clear HST hf' hcl
              clear r4
              go_upto_if 61 with fail
              have I1 := hI.boxes 1 x1 x2 (g : Int) (k : Int) (q : Int) true x1 0 (evs.length : Int)
              go_cut [] from 29 to 99 (fun wx => InE w wx wo.heap.size wr.heap.size (wr.heap.size + 1) (.slice av evs.length cv) evs f 1 x1 x2 g k q true x1 0 evs.length)
              case first =>
                go_wp2
                go_meet
                case rel => exact I1
              case rest =>
                clear I1 A0 A1 A2 A3 d1
                have IH := hcut
                clear hcut
                obtain ⟨t0, t1, t2, t3⟩ := IH.deed
                obtain ⟨s0, s1, s2, s3, s4, s5⟩ := IH.event
                have F2 := IH.free 2
                have F4 := IH.free 4
                have F5 := IH.free 5
                obtain ⟨z1, z2, z3⟩ := IH.lt
                go_upto_if 67 with fail
                go_cut [] from 29 to 99 (fun wx => InE w wx wo.heap.size wr.heap.size (wr.heap.size + 1) (.slice av evs.length cv) evs f' 1 x1 x2 g k q true x1 0 cl)
                case first =>
                  by_cases g0 : g = 0
                  · have n0 : (g : Int) ≤ 0 := by omega
                    have E1 : Hid (f' = f) := Lib.hid (by rw [HF.out, fstE, if_neg (by omega)])
                    have E2 : Hid (cl = (evs.length : Int)) := Lib.hid (by rw [HC.out, clsE, if_neg (by omega)])
                    go_wp2
                    go_meet
                    case rel => rw [E1.out, E2.out]; exact IH
                  · have n0 : (0 : Int) < (g : Int) := by omega
                    have gg : Hid (f'.getD g 0 = cl) := Lib.hid (by rw [HC.out, HF.out, clsE, if_pos n0, Int.toNat_natCast])
                    have hRC := IH.l.row.cell (j := g) (by rw [hfl.out]; exact hg9)
                    obtain ⟨y, hy⟩ : ∃ y, y = f.getD g 0 := ⟨_, rfl⟩
                    rw [← hy] at hRC
                    have HY := Lib.hid hy
                    have FG := IH.l.row.free g
                    clear hy g0
                    go_upto_if 73 with fail
                    go_cut [] from 29 to 99 (fun wx => InE w wx wo.heap.size wr.heap.size (wr.heap.size + 1) (.slice av evs.length cv) evs f' 1 x1 x2 g k q true x1 0 evs.length)
                    case first =>
                      by_cases y0 : y = 0
                      · have E1 : Hid (f' = f.set g (evs.length : Int)) := Lib.hid (by rw [HF.out, fstE, Int.toNat_natCast, if_pos ⟨n0, by rw [← HY.out]; exact y0⟩])
                        subst y0
                        go_wp2
                        go_meet
                        case rel => rw [E1.out]; exact IH.setF g _
                      · have E1 : Hid (f' = f) := Lib.hid (by rw [HF.out, fstE, Int.toNat_natCast, if_neg (fun e => y0 (HY.out.trans e.2))])
                        have ey : (y == 0) = false := by simp [y0]
                        clear y0
                        go_wp2
                        go_meet
                        case rel => rw [E1.out]; exact IH
                    case rest =>
                      clear t0 t1 t2 t3 s0 s1 s2 s3 s4 s5 F2 F4 F5 z1 z2 z3
                      clear hRC FG IH
                      have hRC := hcut.l.row.cell (j := g) (by rw [hfl'.out]; exact hg9)
                      rw [gg.out] at hRC
                      obtain ⟨t0, t1, t2, t3⟩ := hcut.deed
                      obtain ⟨s0, s1, s2, s3, s4, s5⟩ := hcut.event
                      have F2 := hcut.free 2
                      have F4 := hcut.free 4
                      have F5 := hcut.free 5
                      obtain ⟨z1, z2, z3⟩ := hcut.lt
                      go_wp2
                      go_meet
                      case rel => exact hcut.set5 _
                case rest =>
                  clear t0 t1 t2 t3 s0 s1 s2 s3 s4 s5 F2 F4 F5 z1 z2 z3
                  clear IH hI
                  obtain ⟨t0, t1, t2, t3⟩ := hcut.deed
                  obtain ⟨s0, s1, s2, s3, s4, s5⟩ := hcut.event
                  have F2 := hcut.free 2
                  have F4 := hcut.free 4
                  have F5 := hcut.free 5
                  obtain ⟨z1, z2, z3⟩ := hcut.lt
                  go_wp2_with (at_builtin; refine wpList_append_own_at _ rfl _ _ 36 rfl w.heap.size 40 j0 (.agg #[.int .i64 0, .int .i64 0, .bool false, .int .i64 0, .int .i64 0, .int .i64 0]) 6 48 Tryz.underlying36 hj hy0 hy1 hy2 rfl (by decide) _ _ _ rfl (hcut.l.app.keep ((Keep.refl _).alloc _)) ⟨_, 0, none⟩ 1 1 (cE ((k : Int), (q : Int), true, x1, 0, cl)) rfl rfl ?a1 ?a2 ?a3 ?a4 ?a5 ?_)
                  case a1 => exact cE_new _ _ _ _ _ _ _
                  case a2 => exact cE_one _
                  case a3 => unfold maxLen; omega
                  case a4 => omega
                  case a5 => simp; omega
                  intro v' w5 hown' hgrow _ hbl
                  have I5 := hcut.hit ((k : Int), (q : Int), true, x1, 0, cl) hown' hgrow hbl
                  clear hown' hgrow hbl
                  obtain ⟨es1, h1⟩ : ∃ es1, es1 = evs ++ [((k : Int), (q : Int), true, x1, 0, cl)] := ⟨_, rfl⟩
                  have l1 : es1.length ≤ evs.length + 1 := by rw [h1]; simp
                  rw [← h1] at I5
                  clear t0 t1 t2 t3 s0 s1 s2 s3 s4 s5 F2 F4 F5 z1 z2 z3
                  clear hcut
                  obtain ⟨t0, t1, t2, t3⟩ := I5.deed
                  obtain ⟨s0, s1, s2, s3, s4, s5⟩ := I5.event
                  have F2 := I5.free 2
                  have F4 := I5.free 4
                  have F5 := I5.free 5
                  obtain ⟨z1, z2, z3⟩ := I5.lt
                  have HS1 : Hid (clkE k ds es (q + 1) = (es1, f')) := Lib.hid (by rw [HS.out, h1])
                  clear h1 HS
                  go_wp2
                  go_roundw
                  case rel => exact ⟨q + 1, es1, f', by omega, by go_num, HS1, hfl', by omega, I5.l⟩
                  case measure => simp [intOf]; omega
            · obtain ⟨f', hf'⟩ : ∃ f', f' = fstE (g : Int) evs.length f := ⟨_, rfl⟩
              obtain ⟨cl, hcl⟩ : ∃ cl, cl = clsE (g : Int) evs.length f := ⟨_, rfl⟩
              have HS : Hid (clkE k ds es (q + 1) = (evs ++ [((k : Int), (q : Int), false, x1, x2, cl)], f')) := Lib.hid (by rw [HST.out, hf', hcl]; rfl)
              have hfl' : Hid (f'.length = 10) := Lib.hid (by rw [hf', fstE_len]; exact hfl.out)
              have HF := Lib.hid hf'
              have HC := Lib.hid hcl
              clear HST hf' hcl
              clear r4
              go_upto_if 61 with fail
              have I1 := hI.boxes 2 x1 x2 (g : Int) (k : Int) (q : Int) false x1 x2 (evs.length : Int)
              go_cut [] from 29 to 99 (fun wx => InE w wx wo.heap.size wr.heap.size (wr.heap.size + 1) (.slice av evs.length cv) evs f 2 x1 x2 g k q false x1 x2 evs.length)
              case first =>
                go_wp2
                go_meet
                case rel => exact I1
              case rest =>
                clear I1 A0 A1 A2 A3 d1
                have IH := hcut
                clear hcut
                obtain ⟨t0, t1, t2, t3⟩ := IH.deed
                obtain ⟨s0, s1, s2, s3, s4, s5⟩ := IH.event
                have F2 := IH.free 2
                have F4 := IH.free 4
                have F5 := IH.free 5
                obtain ⟨z1, z2, z3⟩ := IH.lt
                go_upto_if 67 with fail
                go_cut [] from 29 to 99 (fun wx => InE w wx wo.heap.size wr.heap.size (wr.heap.size + 1) (.slice av evs.length cv) evs f' 2 x1 x2 g k q false x1 x2 cl)
                case first =>
                  by_cases g0 : g = 0
                  · have n0 : (g : Int) ≤ 0 := by omega
                    have E1 : Hid (f' = f) := Lib.hid (by rw [HF.out, fstE, if_neg (by omega)])
                    have E2 : Hid (cl = (evs.length : Int)) := Lib.hid (by rw [HC.out, clsE, if_neg (by omega)])
                    go_wp2
                    go_meet
                    case rel => rw [E1.out, E2.out]; exact IH
                  · have n0 : (0 : Int) < (g : Int) := by omega
                    have gg : Hid (f'.getD g 0 = cl) := Lib.hid (by rw [HC.out, HF.out, clsE, if_pos n0, Int.toNat_natCast])
                    have hRC := IH.l.row.cell (j := g) (by rw [hfl.out]; exact hg9)
                    obtain ⟨y, hy⟩ : ∃ y, y = f.getD g 0 := ⟨_, rfl⟩
                    rw [← hy] at hRC
                    have HY := Lib.hid hy
                    have FG := IH.l.row.free g
                    clear hy g0
                    go_upto_if 73 with fail
                    go_cut [] from 29 to 99 (fun wx => InE w wx wo.heap.size wr.heap.size (wr.heap.size + 1) (.slice av evs.length cv) evs f' 2 x1 x2 g k q false x1 x2 evs.length)
                    case first =>
                      by_cases y0 : y = 0
                      · have E1 : Hid (f' = f.set g (evs.length : Int)) := Lib.hid (by rw [HF.out, fstE, Int.toNat_natCast, if_pos ⟨n0, by rw [← HY.out]; exact y0⟩])
                        subst y0
                        go_wp2
                        go_meet
                        case rel => rw [E1.out]; exact IH.setF g _
                      · have E1 : Hid (f' = f) := Lib.hid (by rw [HF.out, fstE, Int.toNat_natCast, if_neg (fun e => y0 (HY.out.trans e.2))])
                        have ey : (y == 0) = false := by simp [y0]
                        clear y0
                        go_wp2
                        go_meet
                        case rel => rw [E1.out]; exact IH
                    case rest =>
                      clear t0 t1 t2 t3 s0 s1 s2 s3 s4 s5 F2 F4 F5 z1 z2 z3
                      clear hRC FG IH
                      have hRC := hcut.l.row.cell (j := g) (by rw [hfl'.out]; exact hg9)
                      rw [gg.out] at hRC
                      obtain ⟨t0, t1, t2, t3⟩ := hcut.deed
                      obtain ⟨s0, s1, s2, s3, s4, s5⟩ := hcut.event
                      have F2 := hcut.free 2
                      have F4 := hcut.free 4
                      have F5 := hcut.free 5
                      obtain ⟨z1, z2, z3⟩ := hcut.lt
                      go_wp2
                      go_meet
                      case rel => exact hcut.set5 _
                case rest =>
                  clear t0 t1 t2 t3 s0 s1 s2 s3 s4 s5 F2 F4 F5 z1 z2 z3
                  clear IH hI
                  obtain ⟨t0, t1, t2, t3⟩ := hcut.deed
                  obtain ⟨s0, s1, s2, s3, s4, s5⟩ := hcut.event
                  have F2 := hcut.free 2
                  have F4 := hcut.free 4
                  have F5 := hcut.free 5
                  obtain ⟨z1, z2, z3⟩ := hcut.lt
                  go_wp2_with (at_builtin; refine wpList_append_own_at _ rfl _ _ 36 rfl w.heap.size 40 j0 (.agg #[.int .i64 0, .int .i64 0, .bool false, .int .i64 0, .int .i64 0, .int .i64 0]) 6 48 Tryz.underlying36 hj hy0 hy1 hy2 rfl (by decide) _ _ _ rfl (hcut.l.app.keep ((Keep.refl _).alloc _)) ⟨_, 0, none⟩ 1 1 (cE ((k : Int), (q : Int), false, x1, x2, cl)) rfl rfl ?a1 ?a2 ?a3 ?a4 ?a5 ?_)
                  case a1 => exact cE_new _ _ _ _ _ _ _
                  case a2 => exact cE_one _
                  case a3 => unfold maxLen; omega
                  case a4 => omega
                  case a5 => simp; omega
                  intro v' w5 hown' hgrow _ hbl
                  have I5 := hcut.hit ((k : Int), (q : Int), false, x1, x2, cl) hown' hgrow hbl
                  clear hown' hgrow hbl
                  obtain ⟨es1, h1⟩ : ∃ es1, es1 = evs ++ [((k : Int), (q : Int), false, x1, x2, cl)] := ⟨_, rfl⟩
                  have l1 : es1.length ≤ evs.length + 1 := by rw [h1]; simp
                  rw [← h1] at I5
                  clear t0 t1 t2 t3 s0 s1 s2 s3 s4 s5 F2 F4 F5 z1 z2 z3
                  clear hcut
                  obtain ⟨t0, t1, t2, t3⟩ := I5.deed
                  obtain ⟨s0, s1, s2, s3, s4, s5⟩ := I5.event
                  have F2 := I5.free 2
                  have F4 := I5.free 4
                  have F5 := I5.free 5
                  obtain ⟨z1, z2, z3⟩ := I5.lt
                  have HS1 : Hid (clkE k ds es (q + 1) = (es1, f')) := Lib.hid (by rw [HS.out, h1])
                  clear h1 HS
                  go_wp2
                  go_roundw
                  case rel => exact ⟨q + 1, es1, f', by omega, by go_num, HS1, hfl', by omega, I5.l⟩
                  case measure => simp [intOf]; omega
            · obtain ⟨f', hf'⟩ : ∃ f', f' = fstE (g : Int) evs.length f := ⟨_, rfl⟩
              obtain ⟨cl, hcl⟩ : ∃ cl, cl = clsE (g : Int) evs.length f := ⟨_, rfl⟩
              have HS : Hid (clkE k ds es (q + 1) = (evs ++ [((k : Int), (q : Int), true, x1, 0, cl), ((k : Int), (q : Int), false, x1, x2, cl)], f')) := Lib.hid (by rw [HST.out, hf', hcl]; rfl)
              have hfl' : Hid (f'.length = 10) := Lib.hid (by rw [hf', fstE_len]; exact hfl.out)
              have HF := Lib.hid hf'
              have HC := Lib.hid hcl
              clear HST hf' hcl
              have n0 : (g : Int) ≤ 0 := by have := r4 (by omega); omega
              clear r4
              go_upto_if 61 with fail
              have I1 := hI.boxes 3 x1 x2 (g : Int) (k : Int) (q : Int) true x1 0 (evs.length : Int)
              go_cut [] from 29 to 99 (fun wx => InE w wx wo.heap.size wr.heap.size (wr.heap.size + 1) (.slice av evs.length cv) evs f 3 x1 x2 g k q true x1 0 evs.length)
              case first =>
                go_wp2
                go_meet
                case rel => exact I1
              case rest =>
                clear I1 A0 A1 A2 A3 d1
                have IH := hcut
                clear hcut
                obtain ⟨t0, t1, t2, t3⟩ := IH.deed
                obtain ⟨s0, s1, s2, s3, s4, s5⟩ := IH.event
                have F2 := IH.free 2
                have F4 := IH.free 4
                have F5 := IH.free 5
                obtain ⟨z1, z2, z3⟩ := IH.lt
                go_upto_if 67 with fail
                go_cut [] from 29 to 99 (fun wx => InE w wx wo.heap.size wr.heap.size (wr.heap.size + 1) (.slice av evs.length cv) evs f' 3 x1 x2 g k q true x1 0 cl)
                case first =>
                  have E1 : Hid (f' = f) := Lib.hid (by rw [HF.out, fstE, if_neg (by omega)])
                  have E2 : Hid (cl = (evs.length : Int)) := Lib.hid (by rw [HC.out, clsE, if_neg (by omega)])
                  go_wp2
                  go_meet
                  case rel => rw [E1.out, E2.out]; exact IH
                case rest =>
                  clear t0 t1 t2 t3 s0 s1 s2 s3 s4 s5 F2 F4 F5 z1 z2 z3
                  clear IH hI
                  obtain ⟨t0, t1, t2, t3⟩ := hcut.deed
                  obtain ⟨s0, s1, s2, s3, s4, s5⟩ := hcut.event
                  have F2 := hcut.free 2
                  have F4 := hcut.free 4
                  have F5 := hcut.free 5
                  obtain ⟨z1, z2, z3⟩ := hcut.lt
                  go_wp2_with (at_builtin; refine wpList_append_own_at _ rfl _ _ 36 rfl w.heap.size 40 j0 (.agg #[.int .i64 0, .int .i64 0, .bool false, .int .i64 0, .int .i64 0, .int .i64 0]) 6 48 Tryz.underlying36 hj hy0 hy1 hy2 rfl (by decide) _ _ _ rfl (hcut.l.app.keep ((Keep.refl _).alloc _)) ⟨_, 0, none⟩ 1 1 (cE ((k : Int), (q : Int), true, x1, 0, cl)) rfl rfl ?a1 ?a2 ?a3 ?a4 ?a5 ?_)
                  case a1 => exact cE_new _ _ _ _ _ _ _
                  case a2 => exact cE_one _
                  case a3 => unfold maxLen; omega
                  case a4 => omega
                  case a5 => simp; omega
                  intro v' w5 hown' hgrow _ hbl
                  have I5 := hcut.hit ((k : Int), (q : Int), true, x1, 0, cl) hown' hgrow hbl
                  clear hown' hgrow hbl
                  obtain ⟨es1, h1⟩ : ∃ es1, es1 = evs ++ [((k : Int), (q : Int), true, x1, 0, cl)] := ⟨_, rfl⟩
                  have l1 : es1.length ≤ evs.length + 1 := by rw [h1]; simp
                  rw [← h1] at I5
                  clear t0 t1 t2 t3 s0 s1 s2 s3 s4 s5 F2 F4 F5 z1 z2 z3
                  clear hcut
                  obtain ⟨t0, t1, t2, t3⟩ := I5.deed
                  obtain ⟨s0, s1, s2, s3, s4, s5⟩ := I5.event
                  have F2 := I5.free 2
                  have F4 := I5.free 4
                  have F5 := I5.free 5
                  obtain ⟨z1, z2, z3⟩ := I5.lt
                  have HS1 : Hid (clkE k ds es (q + 1) = (es1 ++ [((k : Int), (q : Int), false, x1, x2, cl)], f')) := Lib.hid (by rw [HS.out, h1, List.append_assoc]; rfl)
                  clear h1 HS
                  go_upto_region 26 with fail
                  have zz : w.heap.size ≤ w5.heap.size := I5.l.keep.size
                  have I6 := I5.set2 false
                  clear t0 t1 t2 t3 s0 s1 s2 s3 s4 s5 F2 F4 F5 z1 z2 z3
                  obtain ⟨t0, t1, t2, t3⟩ := I6.deed
                  obtain ⟨s0, s1, s2, s3, s4, s5⟩ := I6.event
                  have F2 := I6.free 2
                  have F4 := I6.free 4
                  have F5 := I6.free 5
                  obtain ⟨z1, z2, z3⟩ := I6.lt
                  go_upto_region 27 with fail
                  have I7 := I6.set4 x2
                  clear t0 t1 t2 t3 s0 s1 s2 s3 s4 s5 F2 F4 F5 z1 z2 z3
                  obtain ⟨t0, t1, t2, t3⟩ := I7.deed
                  obtain ⟨s0, s1, s2, s3, s4, s5⟩ := I7.event
                  have F2 := I7.free 2
                  have F4 := I7.free 4
                  have F5 := I7.free 5
                  obtain ⟨z1, z2, z3⟩ := I7.lt
                  go_wp2_with (at_builtin; refine wpList_append_own_at _ rfl _ _ 36 rfl w.heap.size 40 j0 (.agg #[.int .i64 0, .int .i64 0, .bool false, .int .i64 0, .int .i64 0, .int .i64 0]) 6 48 Tryz.underlying36 hj hy0 hy1 hy2 rfl (by decide) _ _ _ rfl (I7.l.app.keep ((Keep.refl _).alloc _)) ⟨_, 0, none⟩ 1 1 (cE ((k : Int), (q : Int), false, x1, x2, cl)) rfl rfl ?b1 ?b2 ?b3 ?b4 ?b5 ?_)
                  case b1 => exact cE_newAt _ _ (by simp) _ _ _ _ _ _
                  case b2 => exact cE_one _
                  case b3 => unfold maxLen; omega
                  case b4 => omega
                  case b5 => simp; omega
                  intro v' w5 hown' hgrow _ hbl
                  have I8 := I7.hit ((k : Int), (q : Int), false, x1, x2, cl) hown' hgrow (by simpa using hbl)
                  clear hown' hgrow hbl
                  clear t0 t1 t2 t3 s0 s1 s2 s3 s4 s5 F2 F4 F5 z1 z2 z3
                  clear I5 I6 I7
                  go_wp2
                  go_roundw
                  case rel => exact ⟨q + 1, _, f', by omega, by go_num, HS1, hfl', by simp; omega, I8.l⟩
                  case measure => simp [intOf]; omega
            · have HS : Hid (clkE k ds es (q + 1) = (evs, f)) := Lib.hid (by rw [HST.out]; rfl)
              clear HST r4
              go_wp2
              go_roundw
              case rel => exact ⟨q + 1, evs, f, by omega, by go_num, HS, hfl, by omega, hI.more ((Keep.refl _).alloc _)⟩
              case measure => simp [intOf]; omega
          · obtain rfl : q = ds.length := by omega
            go_wp2
            go_roundw
            case rel => exact ⟨k + 1, evs, by omega, by go_num, Lib.hid (by rw [evsW, ← HDS.out, ← hE.out, hC.out]), by omega, hI.app, hI.keep⟩
            case measure => simp [intOf]; omega
      · obtain rfl : k = dss.length := by omega
        go_wp2
        go_ret
        exact ⟨_, rfl, by rw [← hE.out]; exact ho, hK⟩
end Go.Proofs.YtkbkdlaknmgjpaaGreat

/- Contract of the specification's SourceOk. -/
namespace Go.Proofs.YtkbkdlaknmgjpaaGreat
open Go.ChangeShapes Go.WideShapes Go.ChangeAt Go.RowKit

set_option maxRecDepth 100000 in
set_option maxHeartbeats 2000000 in
theorem specSourceOk_any (w : World) (v vf : Value) (dss : List (List Dd)) (f : List Int) (h : RdW w v dss) (hf : Rd w vf f) (hx : dss.length ≤ 1048576) (hm : ∀ i, i < dss.length → (dss.getD i []).length ≤ 1048576) (hfl : f.length ≤ 1048576) :
    Calls Tryz.prog 56 #[v, vf] w fun e w' => e = .returned (.bool (sourceB dss f)) ∧ Keep w w' := by
  cases hb : workB dss
  · have HE : Hid (sourceB dss f = false) := Lib.hid (by rw [sourceB, hb]; rfl)
    go_enter Tryz.func56, Tryz.ntmps56
    go_wp2_with fail
    refine (specWorkOk_any _ _ _ h hx hm).mono ?_
    rintro e w1 ⟨rfl, k1⟩
    go_wp2
    go_ret
    exact ⟨by rw [HE.out]; rfl, k1⟩
  · have HE : Hid (sourceB dss f = srcB (chcL (evsW dss dss.length)) f) := Lib.hid (by rw [sourceB, hb, eventsB, if_pos hb]; rfl)
    obtain ⟨u1, u2⟩ := workB_useQ hb
    have h12 := (events_law hb).1
    obtain ⟨cl1, cl2⟩ := chc_len h12
    go_enter Tryz.func56, Tryz.ntmps56
    go_wp2_with fail
    refine (specWorkOk_any _ _ _ h hx hm).mono ?_
    rintro e w1 ⟨rfl, k1⟩
    go_wp2_with fail
    refine (l6Events_any _ _ _ (h.keep k1) u1 u2).mono ?_
    rintro e w2 ⟨v2, rfl, a2, k2⟩
    go_wp2_with fail
    refine (l8Choices_any _ _ _ a2.rd h12).mono ?_
    rintro e w3 ⟨v3, rfl, rc, k3⟩
    have K3 := k1.trans (k2.trans k3)
    have hf3 := hf.keep K3
    generalize chcL (evsW dss dss.length) = c at rc HE cl1 cl2
    clear h hb u1 u2 h12 a2 k1 k2 k3 hf hx hm
    obtain ⟨ac, cc, rfl, rc⟩ := rc
    obtain ⟨af, cf, rfl, hf3⟩ := hf3
    by_cases hl : c.length = f.length
    · have hlb : ((c.length : Int) != (f.length : Int)) = false := by simp [hl]
      have l1 : c.length ≤ f.length := by omega
      have HS : Hid (srcB c f = srcK c f c.length) := Lib.hid (by unfold srcB; simp [hl])
      clear hl
      go_wp2
      go_loopw [6] (fun i wr => ∃ k : Nat, k ≤ c.length ∧ i = .int .i64 k ∧ Hid (srcK c f k = true) ∧ Keep w3 wr) (fun i _ => c.length - (intOf i).toNat)
      case atStart => exact ⟨0, Nat.zero_le _, rfl, Lib.hid rfl, Keep.refl _⟩
      case round =>
        obtain ⟨k, hk, rfl, hS, hK⟩ := hrel
        by_cases hlt : k < c.length
        · rcases rc with h | ⟨b, o, rfl, hb, hc⟩
          · exfalso; rw [h] at hlt; simp at hlt
          rcases hf3 with h | ⟨b2, o2, rfl, hb2, hc2⟩
          · exfalso; rw [h] at l1; simp only [List.length_nil] at l1; omega
          obtain ⟨vi, e1, r1⟩ := hc k hlt
          have d1 := (hK.cell hb).trans e1
          have r2 := r1.keep hK
          have d2 := (hK.cell hb2).trans (hc2 k (by omega))
          have ck := cl2 k hlt
          clear hc hc2 e1 r1
          have HB : Hid (srcK c f (k + 1) = (srcK c f k && isB (c.getD k []) (f.getD k 0))) := Lib.hid rfl
          generalize f.getD k 0 = n at d2 HB
          generalize c.getD k [] = zs at r2 ck HB
          obtain ⟨az, cz, rfl, -⟩ := id r2
          have i1 : (0 : Int) ≤ (k : Int) := Int.natCast_nonneg _
          have i2 : (k : Int) < (c.length : Int) := by omega
          have i3 : (k : Int) < (f.length : Int) := by omega
          cases hi : isB zs n
          · have HN : Hid (srcK c f c.length = false) := Lib.hid (srcK_false (k := k + 1) (by rw [HB.out, hi, Bool.and_false]) _ hlt)
            go_wp2
            go_quiet ((go_at_call 107; exact Calls.quiet_of_same (l8Is_any _ _ zs (r2.keep ((Keep.refl wr).drewN _)) (by omega) _)))
            go_wp2
            go_ret
            exact ⟨by rw [HE.out, HS.out, HN.out]; rfl, (K3.trans hK).drewN _⟩
          · have HN : Hid (srcK c f (k + 1) = true) := Lib.hid (by rw [HB.out, hi, hS.out]; rfl)
            go_wp2
            go_quiet ((go_at_call 107; exact Calls.quiet_of_same (l8Is_any _ _ zs (r2.keep ((Keep.refl wr).drewN _)) (by omega) _)))
            go_wp2
            go_roundw
            case rel => exact ⟨k + 1, by omega, by go_num, HN, hK.drewN _⟩
            case measure => simp [intOf]; omega
        · obtain rfl : k = c.length := by omega
          go_wp2
          go_ret
          exact ⟨by rw [HE.out, HS.out, hS.out]; rfl, K3.trans hK⟩
    · have hlb : ((c.length : Int) != (f.length : Int)) = true := by simp; omega
      have HS : Hid (srcB c f = false) := Lib.hid (by unfold srcB; simp [hl])
      clear hl
      go_wp2
      go_ret
      exact ⟨by rw [HE.out, HS.out]; rfl, K3⟩
end Go.Proofs.YtkbkdlaknmgjpaaGreat

/- Contracts of the specification's l9Places. -/
namespace Go.Proofs.YtkbkdlaknmgjpaaGreat
open Go.ChangeShapes Go.WideShapes Go.ChangeAt Go.RowKit

def plcK (es : List Ev) : Nat → List (List Int)
  | 0 => []
  | k + 1 => plcK es k ++ [plcW es k]
theorem plcK_len (es : List Ev) : ∀ k : Nat, (plcK es k).length = k
  | 0 => rfl
  | k + 1 => by rw [plcK, List.length_append, plcK_len es k]; rfl
theorem plcK_get (es : List Ev) (i : Nat) (hi : i < 3) : (plcK es 3).getD i [] = plcW es i := by
  have : i = 0 ∨ i = 1 ∨ i = 2 := by omega
  rcases this with rfl | rfl | rfl <;> rfl
set_option maxRecDepth 100000 in
set_option maxHeartbeats 2000000 in
theorem l9Places_cap (w : World) (v : Value) (es : List Ev) (h : RdE w v es) (hx : es.length ≤ 12) :
    Calls Tryz.prog 157 #[v] w fun e w' => ∃ v', e = .returned v' ∧ RdLC w' v' (plcK es 3) ∧ Keep w w' := by
  obtain ⟨i0, hi, hz0, hz1, hz2⟩ := info_parts Tryz.infoL
  have A0 := appL_empty w
  go_enter Tryz.func157, Tryz.ntmps157
  go_wp2
  go_loopw [3, 4] (fun x i wr => ∃ k : Nat, ∃ vs : List Value, k ≤ 3 ∧ i = .int .i64 k ∧ AppL wr w.heap.size x vs (plcK es k) ∧ Keep w wr) (fun _ i _ => 3 - (intOf i).toNat)
  case atStart => exact ⟨0, [], Nat.zero_le _, rfl, A0, (Keep.refl w).alloc _⟩
  case round =>
    obtain ⟨k, vs, hk, rfl, hA, hK⟩ := hrel
    clear A0
    by_cases hlt : k < 3
    · have HC : Hid (plcK es (k + 1) = plcK es k ++ [idxB (toE (k : Int)) es]) := Lib.hid rfl
      have hcl := plcK_len es k
      have hE := h.keep hK
      have i1 : (0 : Int) ≤ (k : Int) := Int.natCast_nonneg _
      have i2 : (k : Int) < 3 := by omega
      go_wp2_with fail
      refine (specWritesTo_any _ _ _ _ hE (by omega)).mono ?_
      rintro e w2 ⟨v2, rfl, o2, k2⟩
      obtain ⟨D, hD⟩ : ∃ D, D = plcK es k := ⟨_, rfl⟩
      rw [← hD] at hA HC hcl
      clear hD
      generalize idxB (toE (k : Int)) es = zs at o2 HC
      have hA2 := (hA.keep k2).keep ((Keep.refl w2).alloc (.cells #[v2] 25))
      have hU : Beside (w2.alloc (.cells #[v2] 25)) _ v2 zs := (o2.beside (x := u3) (fun k hk => (hA.lt k hk).2)).keep ((Keep.refl w2).alloc _)
      have hK2 := hK.trans k2
      have hsz := hK2.size
      obtain ⟨a2, c2, hv2, -⟩ := o2.rd
      clear hA o2
      generalize zs.length = nz at hv2
      subst hv2
      go_wp2_with (at_builtin; refine wpList_append_own_at _ rfl _ _ 57 rfl w.heap.size 25 i0 (.slice none 0 0) 1 24 Tryz.underlying57 hi hz0 hz1 hz2 rfl (by decide) _ _ _ rfl hA2.row ⟨_, 0, none⟩ 1 1 [.slice a2 nz c2] rfl rfl ?c1 ?c2 ?c3 ?c4 ?c5 ?_)
      case c1 => exact new_one _ _ _ rfl
      case c2 => intro u hu; simp at hu; subst hu; rfl
      case c3 => unfold maxLen; omega
      case c4 => omega
      case c5 => first | omega | (simp; omega)
      intro v' w3 hown' hgrow _ hblk
      have hblk' : v'.ownBlock = u3.ownBlock ∨ v'.ownBlock = some (w2.alloc (.cells #[.slice a2 nz c2] 25)).heap.size := by rw [heap_size]; exact hblk
      have hA3 := hA2.push hU (by rw [hcl]; exact hown') hgrow hblk'
      have hK3 : Keep w w3 := (hK2.alloc _).grown hgrow (fun k hk => (hA2.lt k hk).1)
      clear hown' hgrow hblk hblk' hA2 hU
      go_wp2
      go_roundw
      case rel => exact ⟨k + 1, _, by omega, by go_num, by rw [HC.out]; exact hA3, hK3⟩
      case measure => simp [intOf]; omega
    · obtain rfl : k = 3 := by omega
      have HR := Lib.hid hA.rdc
      go_wp2
      go_ret
      exact ⟨_, rfl, HR.out, hK⟩
theorem l9Places_any (w : World) (v : Value) (es : List Ev) (h : RdE w v es) (hx : es.length ≤ 12) :
    Calls Tryz.prog 157 #[v] w fun e w' => ∃ v', e = .returned v' ∧ RdL w' v' (plcK es 3) ∧ Keep w w' :=
  (l9Places_cap w v es h hx).mono fun _ _ ⟨v', h1, h2, h3⟩ => ⟨v', h1, h2.rd, h3⟩
end Go.Proofs.YtkbkdlaknmgjpaaGreat

/- Contract of the specification's l9Ok: are these rows. -/
namespace Go.Proofs.YtkbkdlaknmgjpaaGreat
open Go.ChangeShapes Go.WideShapes Go.ChangeAt Go.RowKit

def atRk (es : List Ev) : Nat → Nat
  | 0 => 0
  | k + 1 => atRk es k + (plcW es k).length
def okK (es : List Ev) (rows : List Int) : Nat → Bool
  | 0 => true
  | k + 1 => okK es rows k && okP rows (atRk es k) (plcW es k) k
theorem rowsL_okK (es : List Ev) (rows : List Int) : rowsL es rows = (okK es rows 3 && decide (atRk es 3 = rows.length)) := by
  unfold rowsL
  show _ = ((((true && okP rows 0 (plcW es 0) 0) && okP rows (0 + (plcW es 0).length) (plcW es 1) 1) && okP rows (0 + (plcW es 0).length + (plcW es 1).length) (plcW es 2) 2) && decide (0 + (plcW es 0).length + (plcW es 1).length + (plcW es 2).length = rows.length))
  rw [Bool.true_and, Nat.zero_add]
theorem okK_false {es : List Ev} {rows : List Int} {k : Nat} (h : okK es rows k = false) : ∀ n : Nat, k ≤ n → okK es rows n = false
  | 0, hn => by
    obtain rfl : k = 0 := by omega
    exact h
  | n + 1, hn => by
    by_cases e : k = n + 1
    · rw [← e]; exact h
    · rw [okK, okK_false h n (by omega)]; rfl
theorem okK_not {es : List Ev} {rows : List Int} {k : Nat} (hk : k < 3) (h : okP rows (atRk es k) (plcW es k) k = false) : rowsL es rows = false := by
  rw [rowsL_okK, okK_false (k := k + 1) (by rw [okK, h, Bool.and_false]) 3 (by omega)]; rfl
theorem rd_part {w : World} {b off : Nat} {zs : List Int} (hb : b < w.heap.size) (hc : ∀ i, i < zs.length → w.cell? ⟨b, off + i, none⟩ = some (.int .i64 (zs.getD i 0))) (at0 n c : Nat) (h : at0 + n ≤ zs.length) :
    Rd w (.slice (some ⟨b, off + at0, none⟩) n c) ((zs.drop at0).take n) := by
  have hl : ((zs.drop at0).take n).length = n := by rw [List.length_take, List.length_drop]; omega
  refine ⟨_, c, by rw [hl], .inr ⟨b, off + at0, rfl, hb, fun i hi => ?_⟩⟩
  rw [hl] at hi
  rw [show off + at0 + i = off + (at0 + i) by omega, hc (at0 + i) (by omega), List.getD_eq_getElem?_getD, List.getD_eq_getElem?_getD, List.getElem?_take, if_pos hi, List.getElem?_drop]
set_option maxRecDepth 100000 in
set_option maxHeartbeats 4000000 in
theorem l9Ok_any (w : World) (v vf : Value) (es : List Ev) (rows : List Int) (h : RdE w v es) (hf : Rd w vf rows) (hcap : rows.length ≤ capZ vf) (hx : es.length ≤ 12) (hrl : rows.length ≤ 1048576) (hp : ∀ p, p < 3 → 0 < (plcW es p).length) :
    Calls Tryz.prog 115 #[v, vf] w fun e w' => e = .returned (.bool (rowsL es rows)) ∧ Keep w w' := by
  have HL3 := Lib.hid (rowsL_okK es rows)
  go_enter Tryz.func115, Tryz.ntmps115
  go_wp2_with fail
  refine (l9Places_any _ _ _ h hx).mono ?_
  rintro e w1 ⟨v1, rfl, r1, k1⟩
  replace hf := hf.keep k1
  obtain ⟨a, c, rfl, r1⟩ := r1
  rcases r1 with h0 | ⟨b, o, rfl, hb, hc⟩
  · exfalso; have := plcK_len es 3; rw [h0] at this; simp at this
  obtain ⟨af, cf, rfl, hf⟩ := hf
  simp only [capZ] at hcap
  rw [plcK_len] at hc ⊢
  have HC := Lib.hid hc
  have HFF := Lib.hid hf
  have HP := Lib.hid hp
  clear hc hf hp
  go_wp2
  go_loopw [6, 7] (fun x i wr => ∃ k : Nat, k ≤ 3 ∧ x = .int .i64 (atRk es k) ∧ i = .int .i64 k ∧ atRk es k ≤ rows.length ∧ Hid (okK es rows k = true) ∧ Keep w1 wr) (fun _ i _ => 3 - (intOf i).toNat)
  case atStart => exact ⟨0, Nat.zero_le _, rfl, rfl, Nat.zero_le _, Lib.hid rfl, Keep.refl _⟩
  case round =>
    obtain ⟨k, hk, rfl, rfl, hat, HO, hK⟩ := hrel
    by_cases hlt : k < 3
    · obtain ⟨vi, e1, r2⟩ := HC.out k hlt
      rw [plcK_get es k hlt] at r2
      have d1 := (hK.cell hb).trans e1
      have r3 := r2.keep hK
      have hpk := HP.out k hlt
      have HN := @okK_not es rows k hlt
      have HA : Hid (atRk es (k + 1) = atRk es k + (plcW es k).length) := Lib.hid rfl
      have HO2 : okP rows (atRk es k) (plcW es k) k = true → Hid (okK es rows (k + 1) = true) := fun h => Lib.hid (by rw [okK, HO.out, h]; rfl)
      have hl12 := plcW_len hx k
      clear e1 r2 HO HC
      generalize atRk es k = t at *
      obtain ⟨p, hpe⟩ : ∃ p, p = plcW es k := ⟨_, rfl⟩
      rw [← hpe] at r3 hpk HN HA HO2 hl12
      clear hpe
      obtain ⟨ap, cp, rfl, r3⟩ := r3
      rcases r3 with h0 | ⟨bp, op, rfl, hbp, hcp⟩
      · exfalso; rw [h0] at hpk; simp at hpk
      have i1 : (0 : Int) ≤ (k : Int) := Int.natCast_nonneg _
      have i2 : (k : Int) < 3 := by omega
      have n0 : (0 : Int) < (p.length : Int) := by omega
      have n1 : (p.length : Int) ≤ 12 := by omega
      have t1 : (t : Int) ≤ 1048576 := by omega
      by_cases hov : rows.length < t + p.length
      · have HE : Hid (rowsL es rows = false) := Lib.hid (HN (by unfold okP; rw [decide_eq_false (by omega)]; rfl))
        have j1 : (rows.length : Int) < (t : Int) + (p.length : Int) := by omega
        go_wp2
        go_ret
        exact ⟨by rw [HE.out]; rfl, k1.trans hK⟩
      · have j1 : (t : Int) + (p.length : Int) ≤ (rows.length : Int) := by omega
        have j2 : (t : Int) < (rows.length : Int) := by omega
        have j3 : (0 : Int) ≤ (t : Int) := Int.natCast_nonneg _
        rcases HFF.out with h0 | ⟨bf, of', rfl, hbf, hcf⟩
        · exfalso; rw [h0] at j2; simp only [List.length_nil] at j2; omega
        have d2 := (hK.cell hbf).trans (hcf t (by omega))
        have hcf2 : ∀ i, i < rows.length → wr.cell? ⟨bf, of' + i, none⟩ = some (.int .i64 (rows.getD i 0)) := fun i hi => (hK.cell hbf).trans (hcf i hi)
        have hbfw : bf < wr.heap.size := Nat.lt_of_lt_of_le hbf hK.size
        by_cases hrk : rows.getD t 0 = (k : Int)
        · rw [hrk] at d2
          have HOK : Hid (okP rows t p k = p.all (fun x => isB ((rows.drop t).take p.length) x)) := Lib.hid (by
            unfold okP
            rw [decide_eq_true (by omega), hrk]
            simp)
          have hne : ¬ (cf = t) := by omega
          obtain ⟨u, hu⟩ : ∃ u : Nat, u = t + p.length := ⟨_, rfl⟩
          have ju : (t : Int) + (p.length : Int) = (u : Int) := by omega
          have j4 : (u : Int) ≤ (cf : Int) := by omega
          have j5 : (t : Int) ≤ (u : Int) := by omega
          have j6 : (u : Int) ≤ (rows.length : Int) := by omega
          have j8 : IntKind.i64.wrap (u : Int) = (u : Int) := by rw [IntKind.wrap_i64]; omega
          have R : ∀ (W : World) (kW : Keep wr W), Rd W (.slice (some ⟨bf, of' + t, none⟩) (u - t) (cf - t)) ((rows.drop t).take p.length) := fun W kW => by
            rw [show u - t = p.length by omega]
            exact rd_part (w := W) (Nat.lt_of_lt_of_le hbfw kW.size) (fun i hi => (kW.cell hbfw).trans (hcf2 i hi)) t p.length (cf - t) (by omega)
          have HU := Lib.hid hu
          clear hu j1
          have hbl : ((rows.drop t).take p.length).length ≤ 1048576 := by rw [List.length_take]; omega
          obtain ⟨B, hB⟩ : ∃ B, B = (rows.drop t).take p.length := ⟨_, rfl⟩
          rw [← hB] at HOK R hbl
          clear hB hrk hcf hcf2
          have HCP := Lib.hid hcp
          clear hcp
          obtain ⟨wo, rfl⟩ : ∃ wo : World, wo = wr := ⟨_, rfl⟩
          go_wp2
          go_loopw [9] (fun i wr => ∃ q : Nat, q ≤ p.length ∧ i = .int .i64 q ∧ Hid (∀ j, j < q → isB B (p.getD j 0) = true) ∧ Keep wo wr) (fun i _ => p.length - (intOf i).toNat)
          case atStart => exact ⟨0, Nat.zero_le _, rfl, Lib.hid (fun j hj => by omega), Keep.refl _⟩
          case round =>
            obtain ⟨q, hq, rfl, HQ, hKr⟩ := hrel
            by_cases hql : q < p.length
            · have d3 := (hKr.cell hbp).trans (HCP.out q hql)
              have d4 := (hKr.cell (Nat.lt_of_lt_of_le hb hK.size)).trans d1
              have RQ := R wr hKr
              have HX : isB B (p.getD q 0) = true → Hid (∀ j, j < q + 1 → isB B (p.getD j 0) = true) := fun hh => Lib.hid (fun j hj => by
                by_cases e : j = q
                · subst e; exact hh
                · exact HQ.out j (by omega))
              have HY : isB B (p.getD q 0) = false → Hid (rowsL es rows = false) := fun hh => Lib.hid (HN (by rw [HOK.out]; exact all_not 0 q hql hh))
              clear HQ
              generalize p.getD q 0 = y at d3 HX HY
              have q1 : (0 : Int) ≤ (q : Int) := Int.natCast_nonneg _
              have q2 : (q : Int) < (p.length : Int) := by omega
              have z1 : b < wr.heap.size := Nat.lt_of_lt_of_le (Nat.lt_of_lt_of_le hb hK.size) hKr.size
              have z2 : bp < wr.heap.size := Nat.lt_of_lt_of_le hbp hKr.size
              cases hi : isB B y
              · have HE := HY hi
                clear HX HY
                go_wp2
                go_quiet ((go_at_call 107; exact Calls.quiet_of_same (l8Is_any _ _ B (RQ.keep ((Keep.refl wr).drewN _)) hbl _)))
                go_wp2
                go_ret
                exact ⟨by rw [HE.out]; rfl, ((k1.trans hK).trans hKr).drewN _⟩
              · have HE := HX hi
                clear HX HY
                go_wp2
                go_quiet ((go_at_call 107; exact Calls.quiet_of_same (l8Is_any _ _ B (RQ.keep ((Keep.refl wr).drewN _)) hbl _)))
                go_wp2
                go_roundw
                case rel => exact ⟨q + 1, by omega, by go_num, HE, hKr.drewN _⟩
                case measure => simp [intOf]; omega
            · obtain rfl : q = p.length := by omega
              have HE := HO2 (by rw [HOK.out]; exact all_of 0 (fun i hi => HQ.out i hi))
              clear HQ HO2 HN
              go_wp2
              go_roundw
              case rel => exact ⟨k + 1, by omega, by rw [HA.out, ← HU.out], by go_num, by rw [HA.out]; omega, HE, hK.trans hKr⟩
              case measure => simp [intOf]; omega
        · have HE : Hid (rowsL es rows = false) := Lib.hid (HN (by
            unfold okP
            have : (rows.getD t 0 == (k : Int)) = false := by simpa using hrk
            rw [this]
            simp))
          generalize rows.getD t 0 = y at d2 hrk
          have yb : (y != (k : Int)) = true := by simpa using hrk
          clear HN HO2 hcf hcf2 hrk
          go_wp2
          go_ret
          exact ⟨by rw [HE.out]; rfl, k1.trans hK⟩
    · obtain rfl : k = 3 := by omega
      have HE : Hid (rowsL es rows = decide (atRk es 3 = rows.length)) := Lib.hid (by rw [HL3.out, HO.out]; rfl)
      clear HO HL3
      generalize atRk es 3 = t at HE hat
      by_cases ht : t = rows.length
      · have tb : ((t : Int) == (rows.length : Int)) = true := by simp [ht]
        have HE2 : Hid (rowsL es rows = true) := Lib.hid (by rw [HE.out]; exact decide_eq_true ht)
        clear HE ht
        go_wp2
        go_ret
        exact ⟨by rw [HE2.out]; rfl, k1.trans hK⟩
      · have tb : ((t : Int) == (rows.length : Int)) = false := by simpa using fun e => ht (by omega)
        have HE2 : Hid (rowsL es rows = false) := Lib.hid (by rw [HE.out]; exact decide_eq_false ht)
        clear HE ht
        go_wp2
        go_ret
        exact ⟨by rw [HE2.out]; rfl, k1.trans hK⟩
end Go.Proofs.YtkbkdlaknmgjpaaGreat

/- Each place has a write. -/
namespace Go.Proofs.YtkbkdlaknmgjpaaGreat

theorem plcW_pos {dss : List (List Dd)} (hb : workB dss = true) : ∀ p, p < 3 → 0 < (plcW (evsW dss dss.length) p).length := fun p hp => by
  have := (plcW_first hb p hp).1
  rw [eventsB, if_pos hb] at this
  exact this
end Go.Proofs.YtkbkdlaknmgjpaaGreat

/- Plain: what a right work gives to the walks. -/
namespace Go.Proofs.YtkbkdlaknmgjpaaGreat
open Go.RowKit

theorem workB_useR {dss : List (List Dd)} (h : workB dss = true) : dss.length ≤ 3 ∧ ∀ i, i < dss.length → okL (dss.getD i []) = true := by
  simp only [workB, Bool.and_eq_true, decide_eq_true_eq] at h
  obtain ⟨⟨⟨⟨h1, h2⟩, _⟩, _⟩, _⟩ := h
  exact ⟨h1.2, fun i hi => all_get [] h2 i hi⟩
theorem evsW_9 {dss : List (List Dd)} (h : workB dss = true) : (evsW dss dss.length).length ≤ 9 := by
  simp only [workB, Bool.and_eq_true, decide_eq_true_eq] at h
  obtain ⟨⟨⟨⟨_, h2⟩, _⟩, h4⟩, _⟩ := h
  have := evsW_len (fun i hi => all_get [] h2 i hi) dss.length (Nat.le_refl _)
  omega
end Go.Proofs.YtkbkdlaknmgjpaaGreat
