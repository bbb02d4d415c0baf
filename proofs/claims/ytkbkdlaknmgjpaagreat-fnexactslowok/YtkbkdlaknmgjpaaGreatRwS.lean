/- Contract of the specification's l9Web: from each write to all behind it at its place. -/
import Derived.Test.YtkbkdlaknmgjpaaGreatMA
import Derived.Test.YtkbkdlaknmgjpaaGreatMB
import Derived.BigRegion
import Derived.Deep.QuietTactic
import Derived.BigQuiet
import Derived.Lib.Hide
namespace Go.Proofs.YtkbkdlaknmgjpaaGreat
open Go.ChangeShapes Go.WideShapes Go.ChangeAt Go.RowKit

theorem made_rw (n : Nat) : (madeCells (Value.int .i64 0).cells (n * 1)).toList = ((List.replicate n (0 : Int)).map (Value.int .i64)) := by
  rw [Nat.mul_one, List.map_replicate]
  exact toList_madeCells_one _ _
set_option maxRecDepth 100000 in
set_option maxHeartbeats 4000000 in
theorem l9Web_any (w : World) (v vf : Value) (es : List Ev) (rows : List Int) (h : RdE w v es) (hf : Rd w vf rows) (hn : es.length ≤ 12) (hl : rows.length ≤ 36) (hr : ∀ j, j < rows.length → 0 ≤ rows.getD j 0 ∧ rows.getD j 0 < (es.length : Int)) :
    Calls Tryz.prog 104 #[v, vf] w fun e w' => ∃ v', e = .returned v' ∧ Row w' w.heap.size v' (rwL es rows) ∧ Keep w w' := by
  obtain ⟨a, c, rfl, h⟩ := h
  obtain ⟨af, cf, rfl, hf⟩ := hf
  obtain ⟨i0, hi, hz0, hz1, hz2⟩ := info_parts Tryz.infoI
  go_enter Tryz.func104, Tryz.ntmps104
  go_wp2_with (at_make; refine wpList_make_full _ rfl _ _ 25 rfl w.heap.size 2 i0 (.int .i64 0) 1 Tryz.underlying25 hi hz0 hz1 .i64 .i64 _ _ es.length rfl rfl rfl rfl (by rw [hz2]; omega) (by unfold maxLen; omega) (Nat.le_refl _) ?_; intro w1 hown hgrow)
  rw [made_rw] at hown
  have k1 : Keep w w1 := (Keep.refl w).grown hgrow (by simp)
  have rb : RowAt w1 w.heap.size (rwAll es rows 0) := by
    have o : Own w1 w.heap.size (.slice (some ⟨w.heap.size, 0, none⟩) es.length es.length) (List.replicate es.length 0) := by
      unfold Own; simpa using hown
    rcases o.row with ⟨e, _⟩ | ⟨g, cap, e, _, hr⟩
    · cases e
    · have e1 := congrArg Value.ownBlock e
      simp [Value.ownBlock] at e1
      rw [e1]; exact hr
  clear hgrow hown hi hz0 hz1 hz2
  have HR := Lib.hid hr
  clear hr
  go_loopw [6] (fun i wr => ∃ k : Nat, k ≤ rows.length ∧ i = .int .i64 k ∧ RowAt wr w.heap.size (rwAll es rows k) ∧ Keep w wr) (fun i _ => rows.length - (intOf i).toNat)
  case atStart => exact ⟨0, Nat.zero_le _, rfl, rb, k1⟩
  case round =>
    obtain ⟨k, hk, rfl, hw, hK⟩ := hrel
    clear rb k1
    by_cases hlt : k < rows.length
    · rcases hf with h0 | ⟨bf, of', rfl, hbf, hcf⟩
      · exfalso; rw [h0] at hlt; simp at hlt
      obtain ⟨r0, r1⟩ := HR.out k hlt
      rcases h with h0 | ⟨b, off, rfl, hb, hc⟩
      · exfalso; rw [h0] at r1; simp only [List.length_nil] at r1; omega
      obtain ⟨x, hx⟩ := Int.eq_ofNat_of_zero_le r0
      have hxl : x < es.length := by omega
      have HW := Lib.hid (web_rwAll hn HR.out k (by omega)).1
      have HE : Hid (rwIn es rows k (rwAll es rows k) rows.length = rwAll es rows (k + 1)) := Lib.hid rfl
      generalize rwAll es rows k = T at *
      obtain ⟨wo, rfl⟩ : ∃ wo : World, wo = wr := ⟨_, rfl⟩
      have i1 : (0 : Int) ≤ (k : Int) := Int.natCast_nonneg _
      have i2 : (k : Int) < (rows.length : Int) := by omega
      have i0 : (rows.length : Int) ≤ 36 := by omega
      have HST : Hid (rwIn es rows k T (k + 1) = T) := Lib.hid (rwIn_none T _ (fun j hj => rwP_up (by omega)))
      have HC := Lib.hid hc
      have HCF := Lib.hid hcf
      have HX := Lib.hid hx
      clear hc hcf hx r0 r1
      go_wp2
      go_loopw [7] (fun i wr => ∃ m : Nat, k + 1 ≤ m ∧ m ≤ rows.length ∧ i = .int .i64 m ∧ RowAt wr w.heap.size (rwIn es rows k T m) ∧ Keep w wr) (fun i _ => rows.length - (intOf i).toNat)
      case atStart => exact ⟨k + 1, Nat.le_refl _, by omega, by go_num, by rw [HST.out]; exact hw, hK⟩
      case round =>
        clear hw hK HST
        obtain ⟨m, hkm, hm, rfl, hw, hK⟩ := hrel
        by_cases hml : m < rows.length
        · obtain ⟨y, hy⟩ := Int.eq_ofNat_of_zero_le (HR.out m hml).1
          have hyl : y < es.length := by have := (HR.out m hml).2; omega
          have d1 := (hK.cell hbf).trans (HCF.out k hlt)
          have d2 := (hK.cell hbf).trans (HCF.out m hml)
          have hxx := HX.out
          rw [hxx] at d1
          rw [hy] at d2
          have AX := (HC.out x _ (evs_get hxl)).keep hb hK
          have AY := (HC.out y _ (evs_get hyl)).keep hb hK
          have hB := (web_rwIn (es := es) HR.out hlt HW.out m hm).1
          have hrg := okB_range (hB.2.2 x hxl)
          have hBl : x < (rwIn es rows k T m).length := by rw [hB.2.1]; exact hxl
          have HP : Hid (rwP es rows k m = ((es.getD x zE).2.2.2.1 == (es.getD y zE).2.2.2.1)) := Lib.hid (by
            unfold rwP plE
            rw [decide_eq_true (show k < m by omega), Bool.true_and, hxx, hy, Int.toNat_natCast, Int.toNat_natCast])
          have HH : rwP es rows k m = true → Hid (rwIn es rows k T (m + 1) = (rwIn es rows k T m).set x (bits .or .i64 ((rwIn es rows k T m).getD x 0) (wrap64 (2 ^ (y : Int).toNat)))) := fun hp => Lib.hid (by
            rw [rwIn_hit T hp, hxx, hy, Int.toNat_natCast, gAdd_ok _ _ hrg.1 (by unfold inB; simp; omega)])
          have HM : rwP es rows k m = false → Hid (rwIn es rows k T (m + 1) = rwIn es rows k T m) := fun hp => Lib.hid (rwIn_miss T hp)
          clear hB hxx hy
          obtain ⟨e, he⟩ : ∃ e, e = es.getD x zE := ⟨_, rfl⟩
          rw [← he] at AX HP
          clear he
          obtain ⟨d, hd⟩ : ∃ d, d = es.getD y zE := ⟨_, rfl⟩
          rw [← hd] at AY HP
          clear hd
          obtain ⟨x0, x1, x2, x3, x4, x5⟩ := e
          obtain ⟨y0, y1, y2, y3, y4, y5⟩ := d
          obtain ⟨-, -, -, A3, -, -⟩ := atE AX
          obtain ⟨-, -, -, B3, -, -⟩ := atE AY
          clear AX AY
          simp only at HP
          have j1 : (0 : Int) ≤ (m : Int) := Int.natCast_nonneg _
          have j2 : (m : Int) < (rows.length : Int) := by omega
          have j3 : (0 : Int) ≤ (x : Int) := Int.natCast_nonneg _
          have j4 : (x : Int) < (es.length : Int) := by omega
          have j5 : (0 : Int) ≤ (y : Int) := Int.natCast_nonneg _
          have j6 : (y : Int) < (es.length : Int) := by omega
          have j7 : (es.length : Int) ≤ 12 := by omega
          have c1 := hw.cell (j := x) hBl
          have c2 := hw.free x
          have hGl := hw.lt
          have hbw : b < wr.heap.size := Nat.lt_of_lt_of_le hb hK.size
          have hbfw : bf < wr.heap.size := Nat.lt_of_lt_of_le hbf hK.size
          obtain ⟨S, hS⟩ : ∃ S, S = rwIn es rows k T m := ⟨_, rfl⟩
          rw [← hS] at c1 hw HH HM hrg
          clear hS hBl
          obtain ⟨z, hz⟩ : ∃ z, z = S.getD x 0 := ⟨_, rfl⟩
          rw [← hz] at c1 HH hrg
          clear hz
          by_cases xy : x3 = y3
          · subst xy
            have HE1 := HH (by rw [HP.out]; simp)
            clear HH HM HP
            go_wp2
            go_quiet (fail)
            go_wp2
            go_region
            all_goals
              go_wp2
              refine ⟨⟨m + 1, by omega, by omega, by go_num, ?_, ?_⟩, by simp [intOf]; omega⟩
              · rw [HE1.out]
                exact (hw.drewN _).set x _
              · exact (hK.grown (grown_draw wr _ none) (by simp)).grown (grown_set _ w.heap.size x _) (by simp)
          · have xb : (x3 == y3) = false := by simp [xy]
            have HE1 := HM (by rw [HP.out]; exact xb)
            clear HH HM HP xy c1 c2
            go_wp2
            go_quiet (fail)
            go_wp2
            go_roundw
            case rel => exact ⟨m + 1, by omega, by omega, by go_num, by rw [HE1.out]; exact hw.drewN _, hK.grown (grown_draw wr _ none) (by simp)⟩
            case measure => simp [intOf]; omega
        · obtain rfl : m = rows.length := by omega
          go_wp2
          go_roundw
          case rel => exact ⟨k + 1, by omega, by go_num, by rw [← HE.out]; exact hw, hK⟩
          case measure => simp [intOf]; omega
    · obtain rfl : k = rows.length := by omega
      have HL := (web_rwAll hn HR.out rows.length (Nat.le_refl _)).1.2.1
      go_wp2
      go_ret
      exact ⟨_, rfl, row_new hw (Nat.le_refl _) HL, hK⟩
end Go.Proofs.YtkbkdlaknmgjpaaGreat
