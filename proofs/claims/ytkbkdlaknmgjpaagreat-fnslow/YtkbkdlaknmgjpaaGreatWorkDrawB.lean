/- Contract of the draw of a work: some work of one to three clerks comes of it, each with at most four deeds; nothing but the cursor's own block and new memory is written. -/
import Derived.Test.YtkbkdlaknmgjpaaGreatWorkDrawA
import Derived.Deep.Cut
import Derived.BigRegion
namespace Go.Proofs.YtkbkdlaknmgjpaaGreat
open Go.ChangeShapes Go.WideShapes Go.ChangeAt Go.RowKit

theorem new_cell (w : World) (cs : Array Value) (t : TypeId) (n i : Nat) (hn : n = w.heap.size) : (w.alloc (.cells cs t)).cell? ⟨n, 0 + i, none⟩ = cs[i]? := by
  subst hn
  rw [Nat.zero_add, cell_of_row _ w.heap.size i _ _ (0, 0) (heap_alloc_new w _)]
theorem Dr.grow {w wr w' : World} {B c : Nat} {row : Option Nat} (h : Dr w wr B c) (hg : wr.grownBy w' row) (hr : ∀ k, row = some k → w.heap.size ≤ k) (hc : c < w.heap.size) (hB : B ≤ c) : Dr w w' B c := by
  refine ⟨h.1.kept hg (fun e => by have := hr c e; omega) (fun k hk => by have := hr k hk; omega), ?_⟩
  exact ⟨hg.os.trans h.2.os, hg.tape.trans h.2.tape, hg.output.trans h.2.output, Nat.le_trans h.2.size hg.size, fun i hi hne => (hg.block i (Nat.lt_of_lt_of_le hi h.2.size) (fun e => by have := hr i e.symm; omega)).trans (h.2.block i hi hne)⟩
theorem Dr.trans {a b d : World} {B c : Nat} (h : Dr a b B c) (k : Dr b d B c) : Dr a d B c := ⟨k.1, grown_trans h.2 k.2⟩
theorem AppD.at {w : World} {base : Nat} {v : Value} {ds : List Dd} (h : AppD w base v ds) (hn : 0 < ds.length) :
    ∃ g c, v = .slice (some ⟨g, 0, none⟩) ds.length c ∧ base ≤ g ∧ g < w.heap.size ∧ (∀ i, i < ds.length → AtD w g (i * 4) (ds.getD i zD)) ∧ ∀ i, w.frozen? ⟨g, i, none⟩ = false := by
  obtain ⟨a, c, rfl, r⟩ := h.ownD
  rcases r with r | ⟨g, rfl, hb, hB, hA⟩
  · rw [r] at hn; simp at hn
  · exact ⟨g, _, rfl, hb, hB.lt, hA, hB.free⟩
theorem AppD.cells {w : World} {base g n c : Nat} {ds : List Dd} (h : AppD w base (.slice (some ⟨g, 0, none⟩) n c) ds) {i : Nat} (hi : i < ds.length) : AtD w g (i * 4) (ds.getD i zD) ∧ w.frozen? ⟨g, i * 4 + 3, none⟩ = false ∧ g < w.heap.size := by
  obtain ⟨g', c', e, _, hg, hA, hF⟩ := h.at (by omega)
  simp only [Value.slice.injEq, Option.some.injEq, Addr.mk.injEq, and_true] at e
  obtain ⟨rfl, _, _⟩ := e
  exact ⟨hA i hi, hF _, hg⟩
theorem AppX.cellAt {w : World} {base N g n c : Nat} {V : Nat → Value} {dss : List (List Dd)} (h : AppX w base N (.slice (some ⟨g, 0, none⟩) n c) V dss) {i : Nat} (hi : i < dss.length) : w.cell? ⟨g, i, none⟩ = some (V i) ∧ g < w.heap.size := by
  obtain ⟨g', c', e, _, _, hg, _, hC, _⟩ := h.at (by omega)
  simp only [Value.slice.injEq, Option.some.injEq, Addr.mk.injEq, and_true] at e
  obtain ⟨rfl, _, _⟩ := e
  exact ⟨hC i hi, hg⟩
theorem len_push {dss : List (List Dd)} {L : List Dd} (h : ∀ i, i < dss.length → (dss.getD i []).length ≤ 4) (hL : L.length ≤ 4) : ∀ i, i < (dss ++ [L]).length → ((dss ++ [L]).getD i []).length ≤ 4 := by
  intro i hi
  by_cases e : i < dss.length
  · rw [getD_left dss [L] i [] e]; exact h i e
  · have : i = dss.length := by simp at hi; omega
    subst this
    rw [getD_last]; exact hL
theorem len_set {n k : Nat} {fss : List (List Dd)} {ds : List Dd} (hk : k < fss.length) (h : ∀ i, i < n → (fss.getD i []).length ≤ 4) (hd : ds.length ≤ 4) : ∀ i, i < n → ((fss.set k ds).getD i []).length ≤ 4 := by
  intro i hi
  rw [getD_setW fss k i ds [] hk]
  split
  · exact hd
  · exact h i hi
theorem appX_empty (w : World) : AppX (w.alloc (.cells #[] 80)) w.heap.size (w.alloc (.cells #[] 80)).heap.size (.slice (some ⟨w.heap.size, 0, none⟩) 0 0) (fun _ => vZ) [] :=
  ⟨World.ownsRow_lit w #[] 0 (Nat.le_refl _) (by decide) rfl, fun k hk => by simp [Value.ownBlock] at hk; rw [heap_size]; omega, by simp, by simp, by simp, by simp⟩
theorem appD_emptyX (w : World) : AppD (w.alloc (.cells #[] 96)) w.heap.size (.slice (some ⟨w.heap.size, 0, none⟩) 0 0) [] :=
  World.ownsRow_lit w #[] 0 (Nat.le_refl _) (by decide) rfl
set_option maxRecDepth 100000 in
set_option maxHeartbeats 16000000 in
theorem l5Draw_any (w : World) (B c : Nat) (hc : Cur w B c) :
    Calls Tryz.prog 170 #[.pointer (some ⟨c, 0, none⟩)] w fun e w' => ∃ v V dss, e = .returned v ∧ AppX w' w.heap.size w'.heap.size v V dss ∧ 1 ≤ dss.length ∧ dss.length ≤ 3 ∧ (∀ i, i < dss.length → (dss.getD i []).length ≤ 4) ∧ Dr w w' B c := by
  have hcl := hc.lt
  have hB := hc.1
  obtain ⟨i0, hi, hz0, hz1, hz2⟩ := info_parts Tryz.infoD
  obtain ⟨j0, hj, hy0, hy1, hy2⟩ := info_parts Tryz.infoDS
  have a0 := appX_empty w
  have D0 := (Dr.refl hc).alloc (.cells #[] 80)
  go_enter Tryz.func170, Tryz.ntmps170
  go_wp2_with fail
  refine (below_any _ B c _ D0.1 (by omega)).mono ?_
  rintro e w1 ⟨x, rfl, x0, x1, c1, g1⟩
  have a1 := (a0.kept g1 hcl).up g1.size
  have D1 := D0.step c1 g1
  obtain ⟨n0, rfl⟩ := Int.eq_ofNat_of_zero_le x0
  clear a0 D0 c1 g1 x0
  go_wp2
  go_loopw [3, 4, 5, 6] (fun x e4 e5 i wr => ∃ (r de : Nat) (ev : Int) (V : Nat → Value) (dss : List (List Dd)), i = .int .i64 r ∧ e4 = .int .i64 ev ∧ e5 = .int .i64 de ∧ 0 ≤ ev ∧ ev ≤ 6 ∧ de ≤ 12 ∧ 1 ≤ dss.length + r ∧ dss.length + r ≤ 3 ∧ AppX wr w.heap.size wr.heap.size x V dss ∧ Hid (∀ i, i < dss.length → (dss.getD i []).length ≤ 4) ∧ Dr w wr B c) (fun _ _ _ i _ => (intOf i).toNat)
  case atStart => exact ⟨1 + n0, 0, 0, _, [], by go_num, rfl, rfl, by omega, by omega, by omega, by simp, by simp; omega, a1, Lib.hid (by simp), D1⟩
  case round =>
    obtain ⟨r, de, ev, V, dss, rfl, rfl, rfl, e0, e6, d12, r1, r3, hX, hL4, hD⟩ := hrel
    clear a1 D1
    by_cases hr0 : r = 0
    · have hr : (r : Int) ≤ 0 := by omega
      have hrd : decide (0 < r) = false := by simp [hr0]
      have n1 : 1 ≤ dss.length := by omega
      have n3 : dss.length ≤ 3 := by omega
      clear hr0 r1 r3
      obtain ⟨g, cx, rfl, hgb, hgN, hgw, hcx, hcell, -⟩ := hX.at (by omega)
      go_wp2
      obtain ⟨wo, hwo⟩ : ∃ wo : World, wo = wr := ⟨_, rfl⟩
      subst hwo
      clear hcell
      go_loopw [11] (fun i wr => ∃ (k : Nat), k ≤ dss.length ∧ i = .int .i64 k ∧ Hid (∃ ess : List (List Dd), ess.length ≤ dss.length ∧ dss.length ≤ ess.length ∧ Hid (∀ i, i < dss.length → (ess.getD i []).length ≤ 4) ∧ AppX wr w.heap.size wo.heap.size (.slice (some ⟨g, 0, none⟩) dss.length cx) V ess ∧ wo.heap.size ≤ wr.heap.size ∧ Dr w wr B c)) (fun i _ => dss.length - (intOf i).toNat)
      case atStart => exact ⟨0, Nat.zero_le _, rfl, Lib.hid ⟨dss, Nat.le_refl _, Nat.le_refl _, hL4, hX, Nat.le_refl _, hD⟩⟩
      case round =>
        obtain ⟨k, hk, rfl, hH⟩ := hrel
        clear hD
        obtain ⟨ess, el1, el2, hE4, hY, hsz, hD⟩ := hH.out
        clear hH
        by_cases hlt : k < dss.length
        · have hEk := hE4.out k hlt
          have hAk := hY.each k (by omega)
          obtain ⟨d1, hgw2⟩ := hY.cellAt (i := k) (by omega)
          obtain ⟨a5, c5, hVk⟩ := hAk.shape
          have HLk : Hid (∀ q, q = (ess.getD k []).length → (ess.getD k []).length = q) := Lib.hid (fun q h => h.symm)
          obtain ⟨lk, hlk⟩ : ∃ lk, lk = (ess.getD k []).length := ⟨_, rfl⟩
          have HL2 := Lib.hid hlk
          rw [← hlk] at hVk hEk
          rw [hVk] at d1
          clear hlk HLk
          have i1 : (0 : Int) ≤ (k : Int) := Int.natCast_nonneg _
          have i2 : (k : Int) < (dss.length : Int) := by omega
          by_cases h1 : 1 < lk
          · obtain ⟨gk, ck, e1, hgk, -⟩ := hAk.at (by rw [← HL2.out]; omega)
            rw [hVk] at e1
            simp only [Value.slice.injEq] at e1
            obtain ⟨rfl, -, -⟩ := e1
            have HV := Lib.hid hVk
            clear hVk hAk
            have h1i : (1 : Int) < (lk : Int) := by omega
            go_wp2_with fail
            refine (once_any _ B c _ hD.1 (by omega)).mono ?_
            rintro e w2 ⟨b, rfl, c2, g2⟩
            have hY2 := hY.kept g2 hcl
            have hD2 := hD.step c2 g2
            have hsz2 := Nat.le_trans hsz g2.size
            clear hY hD hsz c2 g2 d1 hgw2
            cases b
            · go_wp2
              go_roundw
              case rel => exact ⟨k + 1, by omega, by go_num, Lib.hid ⟨ess, el1, el2, hE4, hY2, hsz2, hD2⟩⟩
              case measure => simp [intOf]; omega
            · have hw1 : IntKind.i64.wrap ((lk : Int) - 1) = (lk : Int) - 1 := by rw [IntKind.wrap_i64]; omega
              go_wp2_with fail
              refine (below_any _ B c _ hD2.1 (by omega)).mono ?_
              rintro e w3 ⟨x, rfl, x0, x2, c3, g3⟩
              have hY3 := hY2.kept g3 hcl
              have hD3 := hD2.step c3 g3
              have hsz3 := Nat.le_trans hsz2 g3.size
              obtain ⟨f, rfl⟩ := Int.eq_ofNat_of_zero_le x0
              clear hY2 hD2 hsz2 c3 g3 x0
              go_wp2
              go_loopw [14] (fun i wq => ∃ (q : Nat), q ≤ lk ∧ i = .int .i64 q ∧ Hid (∃ fss : List (List Dd), fss.length ≤ dss.length ∧ dss.length ≤ fss.length ∧ Hid (∀ i, i < dss.length → (fss.getD i []).length ≤ 4) ∧ Hid ((fss.getD k []).length = lk) ∧ AppX wq w.heap.size wo.heap.size (.slice (some ⟨g, 0, none⟩) dss.length cx) V fss ∧ wo.heap.size ≤ wq.heap.size ∧ Dr w wq B c)) (fun i _ => lk - (intOf i).toNat)
              case atStart => exact ⟨f, by omega, rfl, Lib.hid ⟨ess, el1, el2, hE4, Lib.hid HL2.out.symm, hY3, hsz3, hD3⟩⟩
              case round =>
                obtain ⟨q, hq, rfl, hH⟩ := hrel
                obtain ⟨fss, l1, l2, h4, hlk, hY, hsz, hD⟩ := hH.out
                clear hY3 hD3 hsz3 hH
                by_cases hql : q < lk
                · go_wp2_with fail
                  refine (below_any _ B c _ hD.1 (by omega)).mono ?_
                  rintro e w4 ⟨z, rfl, z0, z2, c4, g4⟩
                  have hY := hY.kept g4 hcl
                  have hD := hD.step c4 g4
                  have hsz := Nat.le_trans hsz g4.size
                  clear c4 g4
                  by_cases hz : (q : Int) < (f : Int) + 2 + z
                  · obtain ⟨d1, hgw2⟩ := hY.cellAt (i := k) (by omega)
                    have hAk := hY.each k (by omega)
                    rw [HV.out] at d1 hAk
                    obtain ⟨AT, fr, hgk2⟩ := hAk.cells (i := q) (by rw [hlk.out]; exact hql)
                    obtain ⟨A0, -, -, A3⟩ := AT
                    generalize ((fss.getD k []).getD q zD).1 = x0 at A0
                    generalize ((fss.getD k []).getD q zD).2.2.2 = x3 at A3
                    have j1 : (0 : Int) ≤ (q : Int) := Int.natCast_nonneg _
                    have j2 : (q : Int) < (lk : Int) := by omega
                    by_cases hx : 2 < x0
                    · go_wp2
                      go_roundw
                      case rel => exact ⟨k + 1, by omega, by go_num, Lib.hid ⟨fss, l1, l2, h4, hY, hsz, hD⟩⟩
                      case measure => simp [intOf]; omega
                    · have hx' : x0 ≤ 2 := by omega
                      obtain ⟨es, he, hY5⟩ := hY.put (i := k) (k := q) (by omega) HV.out (by rw [hlk.out]; exact hql) ((k : Int) + 1)
                      have hD5 := hD.set hgk hcl hB (q * 4 + 3) (.int .i64 ((k : Int) + 1))
                      have H4 : Hid (∀ i, i < dss.length → ((fss.set k es).getD i []).length ≤ 4) := Lib.hid (len_set (by omega) h4.out (by rw [he]; exact h4.out k hlt))
                      have HK : Hid (((fss.set k es).getD k []).length = lk) := Lib.hid (by rw [getD_setW fss k k es [] (by omega), if_pos rfl, he, hlk.out])
                      clear hx hAk
                      go_wp2
                      go_roundw
                      case rel => exact ⟨q + 1, by omega, by go_num, Lib.hid ⟨fss.set k es, by rw [List.length_set]; exact l1, by rw [List.length_set]; exact l2, H4, HK, hY5, by simpa using hsz, hD5⟩⟩
                      case measure => simp [intOf]; omega
                  · have hz' : (f : Int) + 2 + z ≤ (q : Int) := by omega
                    go_wp2
                    go_roundw
                    case rel => exact ⟨k + 1, by omega, by go_num, Lib.hid ⟨fss, l1, l2, h4, hY, hsz, hD⟩⟩
                    case measure => simp [intOf]; omega
                · have hql' : (lk : Int) ≤ (q : Int) := by omega
                  go_wp2
                  go_roundw
                  case rel => exact ⟨k + 1, by omega, by go_num, Lib.hid ⟨fss, l1, l2, h4, hY, hsz, hD⟩⟩
                  case measure => simp [intOf]; omega
          · have h1i : (lk : Int) ≤ 1 := by omega
            go_wp2
            go_roundw
            case rel => exact ⟨k + 1, by omega, by go_num, Lib.hid ⟨ess, el1, el2, hE4, hY, hsz, hD⟩⟩
            case measure => simp [intOf]; omega
        · obtain rfl : k = dss.length := by omega
          go_wp2
          go_ret
          exact ⟨_, _, ess, rfl, hY.up hsz, by omega, by omega, fun i hi => hE4.out i (by omega), hD⟩
    · obtain ⟨r', rfl⟩ : ∃ r' : Nat, r = r' + 1 := ⟨r - 1, by omega⟩
      clear hr0
      have ad0 := appD_emptyX wr
      have hcw : c < wr.heap.size := Nat.lt_of_lt_of_le hcl hD.2.size
      have D2 := (Dr.refl hD.1).alloc (.cells #[] 96)
      go_wp2_with fail
      refine (below_any _ B c _ D2.1 (by omega)).mono ?_
      rintro e w2 ⟨y, rfl, y0, y1, c2, g2⟩
      have ad2 := ad0.kept g2 (ne_of_ge ad0.ge hcw)
      have D3 := D2.step c2 g2
      obtain ⟨m0, rfl⟩ := Int.eq_ofNat_of_zero_le y0
      clear ad0 D2 c2 g2 y0
      go_wp2
      obtain ⟨wo, hwo⟩ : ∃ wo : World, wo = wr := ⟨_, rfl⟩
      subst hwo
      go_loopw [4, 5, 7, 8] (fun e4 e5 y i wq => ∃ (m de : Nat) (ev : Int) (L : List Dd), i = .int .i64 m ∧ e4 = .int .i64 ev ∧ e5 = .int .i64 de ∧ 0 ≤ ev ∧ ev ≤ 6 ∧ de ≤ 12 ∧ L.length + m ≤ 4 ∧ AppD wq wo.heap.size y L ∧ Dr wo wq B c) (fun _ _ _ i _ => (intOf i).toNat)
      case atStart => exact ⟨m0, de, ev, [], rfl, rfl, rfl, e0, e6, d12, by simp; omega, ad2, D3⟩
      case round =>
        clear e0 e6 d12
        obtain ⟨m, de, ev, L, rfl, rfl, rfl, e0, e6, d12, lm, hA, hQ⟩ := hrel
        clear ad2 D3
        by_cases hm0 : m = 0
        · have hm : (m : Int) ≤ 0 := by omega
          have hmd : decide (0 < m) = false := by simp [hm0]
          clear hm0
          have hX2 := hX.kept hQ.2 hcl
          have hLL := hL4.out
          have hsz1 := hD.2.size
          have hsz2 := hQ.2.size
          have hL4' : L.length ≤ 4 := by omega
          obtain ⟨a5, c5, rfl⟩ := hA.shape
          have hX3 := hX2.keep ((Keep.refl wr).alloc (.cells #[.slice a5 L.length c5] 80))
          have hA3 := hA.keep ((Keep.refl wr).alloc (.cells #[.slice a5 L.length c5] 80))
          have hge := fun k hk => (World.ownsRow.lt hX.row k hk).1
          have HP := Lib.hid (len_push hLL hL4')
          clear hX2 hLL hA
          go_wp2_with (at_builtin; refine wpList_append_own_at _ rfl _ _ 24 rfl w.heap.size 80 j0 (.slice none 0 0) 1 24 Tryz.underlying24 hj hy0 hy1 hy2 rfl (by decide) _ _ _ rfl hX3.row ⟨_, 0, none⟩ 1 1 [.slice a5 L.length c5] rfl rfl ?b1 ?b2 ?b3 ?b4 ?b5 ?_)
          case b1 =>
            intro j u hj
            match j, hj with
            | 0, hj => simp at hj; subst hj; simp [Addr.add]
          case b2 => intro u hu; simp at hu; subst hu; rfl
          case b3 => unfold maxLen; first | omega | (simp; omega)
          case b4 => first | omega | (simp; omega)
          case b5 => first | omega | (simp; omega)
          intro v' w5 hown' hgrow _ hblk
          have hP := AppX.push hX3 hA3 hsz1 hown' hgrow (by rw [heap_size]; exact hblk) (by rw [heap_size]; omega)
          have D5 := ((hD.trans hQ).alloc _).grow hgrow hge hcl hB
          clear hgrow hown' hblk
          go_wp2
          go_roundw
          case rel => exact ⟨r', de, ev, _, dss ++ [L], by go_num, rfl, rfl, e0, e6, d12, by simp; omega, by simp; omega, hP, HP, D5⟩
          case measure => simp [intOf]
        · obtain ⟨m, rfl⟩ : ∃ m' : Nat, m = m' + 1 := ⟨m - 1, by omega⟩
          clear hm0
          go_wp2_with fail
          refine (l4Draw_any _ B c hQ.1).mono ?_
          rintro e w4 ⟨kk, p, v, g, rfl, D4', k1, k4⟩
          have D4 := hQ.trans D4'
          have hA4 := hA.kept D4'.2 (ne_of_ge hA.ge hcw)
          have hge := hA.ge
          have hsz4 := D4.2.size
          obtain ⟨a5, c5, rfl⟩ := hA.shape
          clear hA hQ D4'
          have hk : kk = 1 ∨ kk = 2 ∨ kk = 3 ∨ kk = 4 := by omega
          clear k1 k4
          rcases hk with rfl | rfl | rfl | rfl
          · by_cases hx : 6 < ev + 1
            · go_wp2
              go_roundw
              case rel => exact ⟨m, de, ev, L, by go_num, rfl, rfl, by omega, by omega, by omega, by omega, hA4.keep (((Keep.refl w4).alloc _).alloc _), (D4.alloc _).alloc _⟩
              case measure => simp [intOf]
            · have hx' : ev + 1 ≤ 6 := by omega
              by_cases hd : de = 12
              · have ed : ((de : Int) == 12) = true := by simp; omega
                clear hd
                go_wp2
                go_roundw
                case rel => exact ⟨m, de, ev, L, by go_num, rfl, rfl, by omega, by omega, by omega, by omega, hA4.keep (((Keep.refl w4).alloc _).alloc _), (D4.alloc _).alloc _⟩
                case measure => simp [intOf]
              · have ed : ((de : Int) == 12) = false := by simp; omega
                have de12 : de < 12 := by omega
                clear hd
                go_wp2_with (at_builtin; refine wpList_append_own_at _ rfl _ _ 80 rfl wo.heap.size 96 i0 (.agg #[.int .i64 0, .int .i64 0, .int .i64 0, .int .i64 0]) 4 32 Tryz.underlying80 hi hz0 hz1 hz2 rfl (by decide) _ _ _ rfl (hA4.keep ((((Keep.refl w4).alloc _).alloc _).alloc _)) ⟨_, 0, none⟩ 1 1 (cD (1, p, v, g)) rfl rfl ?c1 ?c2 ?c3 ?c4 ?c5 ?_)
                case c1 =>
                  intro j u hj
                  match j, hj with
                  | 0, hj => simp [cD] at hj; subst hj; rw [plain_add]; exact new_cell _ _ _ _ 0 (by rw [heap_size, heap_size])
                  | 1, hj => simp [cD] at hj; subst hj; rw [plain_add]; exact new_cell _ _ _ _ 1 (by rw [heap_size, heap_size])
                  | 2, hj => simp [cD] at hj; subst hj; rw [plain_add]; exact new_cell _ _ _ _ 2 (by rw [heap_size, heap_size])
                  | 3, hj => simp [cD] at hj; subst hj; rw [plain_add]; exact new_cell _ _ _ _ 3 (by rw [heap_size, heap_size])
                  | n + 4, hj => simp [cD] at hj
                case c2 => intro u hu; simp [cD] at hu; rcases hu with rfl | rfl | rfl | rfl <;> rfl
                case c3 => unfold maxLen; first | (simp; done) | omega | (simp; omega)
                case c4 => first | (simp; done) | omega | (simp; omega)
                case c5 => first | (simp; done) | omega | (simp; omega)
                intro v' w5 hown' hgrow _ _
                have hA5 : AppD w5 wo.heap.size v' (L ++ [(1, p, v, g)]) := appD_hit hown'
                have D5 := (((D4.alloc _).alloc _).alloc _).grow hgrow hge hcw hB
                clear hgrow hown' hA4
                go_wp2
                go_roundw
                case rel => exact ⟨m, de + 1, ev + 1, _, by go_num, by go_num, by go_num, by omega, by omega, by omega, by simp; omega, hA5, D5⟩
                case measure => simp [intOf]
          · by_cases hx : 6 < ev + 1
            · go_wp2
              go_roundw
              case rel => exact ⟨m, de, ev, L, by go_num, rfl, rfl, by omega, by omega, by omega, by omega, hA4.keep (((Keep.refl w4).alloc _).alloc _), (D4.alloc _).alloc _⟩
              case measure => simp [intOf]
            · have hx' : ev + 1 ≤ 6 := by omega
              by_cases hd : de = 12
              · have ed : ((de : Int) == 12) = true := by simp; omega
                clear hd
                go_wp2
                go_roundw
                case rel => exact ⟨m, de, ev, L, by go_num, rfl, rfl, by omega, by omega, by omega, by omega, hA4.keep (((Keep.refl w4).alloc _).alloc _), (D4.alloc _).alloc _⟩
                case measure => simp [intOf]
              · have ed : ((de : Int) == 12) = false := by simp; omega
                have de12 : de < 12 := by omega
                clear hd
                go_wp2_with (at_builtin; refine wpList_append_own_at _ rfl _ _ 80 rfl wo.heap.size 96 i0 (.agg #[.int .i64 0, .int .i64 0, .int .i64 0, .int .i64 0]) 4 32 Tryz.underlying80 hi hz0 hz1 hz2 rfl (by decide) _ _ _ rfl (hA4.keep ((((Keep.refl w4).alloc _).alloc _).alloc _)) ⟨_, 0, none⟩ 1 1 (cD (2, p, v, g)) rfl rfl ?c1 ?c2 ?c3 ?c4 ?c5 ?_)
                case c1 =>
                  intro j u hj
                  match j, hj with
                  | 0, hj => simp [cD] at hj; subst hj; rw [plain_add]; exact new_cell _ _ _ _ 0 (by rw [heap_size, heap_size])
                  | 1, hj => simp [cD] at hj; subst hj; rw [plain_add]; exact new_cell _ _ _ _ 1 (by rw [heap_size, heap_size])
                  | 2, hj => simp [cD] at hj; subst hj; rw [plain_add]; exact new_cell _ _ _ _ 2 (by rw [heap_size, heap_size])
                  | 3, hj => simp [cD] at hj; subst hj; rw [plain_add]; exact new_cell _ _ _ _ 3 (by rw [heap_size, heap_size])
                  | n + 4, hj => simp [cD] at hj
                case c2 => intro u hu; simp [cD] at hu; rcases hu with rfl | rfl | rfl | rfl <;> rfl
                case c3 => unfold maxLen; first | (simp; done) | omega | (simp; omega)
                case c4 => first | (simp; done) | omega | (simp; omega)
                case c5 => first | (simp; done) | omega | (simp; omega)
                intro v' w5 hown' hgrow _ _
                have hA5 : AppD w5 wo.heap.size v' (L ++ [(2, p, v, g)]) := appD_hit hown'
                have D5 := (((D4.alloc _).alloc _).alloc _).grow hgrow hge hcw hB
                clear hgrow hown' hA4
                go_wp2
                go_roundw
                case rel => exact ⟨m, de + 1, ev + 1, _, by go_num, by go_num, by go_num, by omega, by omega, by omega, by simp; omega, hA5, D5⟩
                case measure => simp [intOf]
          · by_cases hx : 6 < ev + 2
            · go_wp2
              go_roundw
              case rel => exact ⟨m, de, ev, L, by go_num, rfl, rfl, by omega, by omega, by omega, by omega, hA4.keep (((Keep.refl w4).alloc _).alloc _), (D4.alloc _).alloc _⟩
              case measure => simp [intOf]
            · have hx' : ev + 2 ≤ 6 := by omega
              by_cases hd : de = 12
              · have ed : ((de : Int) == 12) = true := by simp; omega
                clear hd
                go_wp2
                go_roundw
                case rel => exact ⟨m, de, ev, L, by go_num, rfl, rfl, by omega, by omega, by omega, by omega, hA4.keep (((Keep.refl w4).alloc _).alloc _), (D4.alloc _).alloc _⟩
                case measure => simp [intOf]
              · have ed : ((de : Int) == 12) = false := by simp; omega
                have de12 : de < 12 := by omega
                clear hd
                go_wp2_with (at_builtin; refine wpList_append_own_at _ rfl _ _ 80 rfl wo.heap.size 96 i0 (.agg #[.int .i64 0, .int .i64 0, .int .i64 0, .int .i64 0]) 4 32 Tryz.underlying80 hi hz0 hz1 hz2 rfl (by decide) _ _ _ rfl (hA4.keep ((((Keep.refl w4).alloc _).alloc _).alloc _)) ⟨_, 0, none⟩ 1 1 (cD (3, p, v, g)) rfl rfl ?c1 ?c2 ?c3 ?c4 ?c5 ?_)
                case c1 =>
                  intro j u hj
                  match j, hj with
                  | 0, hj => simp [cD] at hj; subst hj; rw [plain_add]; exact new_cell _ _ _ _ 0 (by rw [heap_size, heap_size])
                  | 1, hj => simp [cD] at hj; subst hj; rw [plain_add]; exact new_cell _ _ _ _ 1 (by rw [heap_size, heap_size])
                  | 2, hj => simp [cD] at hj; subst hj; rw [plain_add]; exact new_cell _ _ _ _ 2 (by rw [heap_size, heap_size])
                  | 3, hj => simp [cD] at hj; subst hj; rw [plain_add]; exact new_cell _ _ _ _ 3 (by rw [heap_size, heap_size])
                  | n + 4, hj => simp [cD] at hj
                case c2 => intro u hu; simp [cD] at hu; rcases hu with rfl | rfl | rfl | rfl <;> rfl
                case c3 => unfold maxLen; first | (simp; done) | omega | (simp; omega)
                case c4 => first | (simp; done) | omega | (simp; omega)
                case c5 => first | (simp; done) | omega | (simp; omega)
                intro v' w5 hown' hgrow _ _
                have hA5 : AppD w5 wo.heap.size v' (L ++ [(3, p, v, g)]) := appD_hit hown'
                have D5 := (((D4.alloc _).alloc _).alloc _).grow hgrow hge hcw hB
                clear hgrow hown' hA4
                go_wp2
                go_roundw
                case rel => exact ⟨m, de + 1, ev + 2, _, by go_num, by go_num, by go_num, by omega, by omega, by omega, by simp; omega, hA5, D5⟩
                case measure => simp [intOf]
          · by_cases hd : de = 12
            · have ed : ((de : Int) == 12) = true := by simp; omega
              clear hd
              go_wp2
              go_roundw
              case rel => exact ⟨m, de, ev, L, by go_num, rfl, rfl, by omega, by omega, by omega, by omega, hA4.keep (((Keep.refl w4).alloc _).alloc _), (D4.alloc _).alloc _⟩
              case measure => simp [intOf]
            · have ed : ((de : Int) == 12) = false := by simp; omega
              have de12 : de < 12 := by omega
              clear hd
              go_wp2_with (at_builtin; refine wpList_append_own_at _ rfl _ _ 80 rfl wo.heap.size 96 i0 (.agg #[.int .i64 0, .int .i64 0, .int .i64 0, .int .i64 0]) 4 32 Tryz.underlying80 hi hz0 hz1 hz2 rfl (by decide) _ _ _ rfl (hA4.keep ((((Keep.refl w4).alloc _).alloc _).alloc _)) ⟨_, 0, none⟩ 1 1 (cD (4, p, v, g)) rfl rfl ?c1 ?c2 ?c3 ?c4 ?c5 ?_)
              case c1 =>
                intro j u hj
                match j, hj with
                | 0, hj => simp [cD] at hj; subst hj; rw [plain_add]; exact new_cell _ _ _ _ 0 (by rw [heap_size, heap_size])
                | 1, hj => simp [cD] at hj; subst hj; rw [plain_add]; exact new_cell _ _ _ _ 1 (by rw [heap_size, heap_size])
                | 2, hj => simp [cD] at hj; subst hj; rw [plain_add]; exact new_cell _ _ _ _ 2 (by rw [heap_size, heap_size])
                | 3, hj => simp [cD] at hj; subst hj; rw [plain_add]; exact new_cell _ _ _ _ 3 (by rw [heap_size, heap_size])
                | n + 4, hj => simp [cD] at hj
              case c2 => intro u hu; simp [cD] at hu; rcases hu with rfl | rfl | rfl | rfl <;> rfl
              case c3 => unfold maxLen; first | (simp; done) | omega | (simp; omega)
              case c4 => first | (simp; done) | omega | (simp; omega)
              case c5 => first | (simp; done) | omega | (simp; omega)
              intro v' w5 hown' hgrow _ _
              have hA5 : AppD w5 wo.heap.size v' (L ++ [(4, p, v, g)]) := appD_hit hown'
              have D5 := (((D4.alloc _).alloc _).alloc _).grow hgrow hge hcw hB
              clear hgrow hown' hA4
              go_wp2
              go_roundw
              case rel => exact ⟨m, de + 1, ev, _, by go_num, by go_num, by go_num, by omega, by omega, by omega, by simp; omega, hA5, D5⟩
              case measure => simp [intOf]
end Go.Proofs.YtkbkdlaknmgjpaaGreat
