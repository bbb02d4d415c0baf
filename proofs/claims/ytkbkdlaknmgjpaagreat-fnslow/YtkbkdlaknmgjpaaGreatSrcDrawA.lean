/- What the laws on sources draw: a work with a list that is mostly a source of it (l8Draw, DrawSourceOk). -/
import Derived.Test.YtkbkdlaknmgjpaaGreatDrawQ
import Derived.Test.YtkbkdlaknmgjpaaGreatSrcS
import Derived.Test.YtkbkdlaknmgjpaaGreatL1Max
import Derived.Test.YtkbkdlaknmgjpaaGreatOwnSet
namespace Go.Proofs.YtkbkdlaknmgjpaaGreat
open Go.ChangeShapes Go.WideShapes Go.ChangeAt Go.RowKit

set_option maxRecDepth 100000 in
set_option maxHeartbeats 4000000 in
theorem l8Draw_any (w : World) (B c : Nat) (hc : Cur w B c) :
    Calls Tryz.prog 98 #[.pointer (some ⟨c, 0, none⟩)] w fun e w' => ∃ v u dss f, e = .returned (.tuple #[v, u]) ∧ RdW w' v dss ∧ (dss.length ≤ 6 ∧ ∀ i, i < dss.length → (dss.getD i []).length ≤ 7) ∧ Rd w' u f ∧ f.length ≤ 13 ∧ Dr w w' B c := by
  have hcl := hc.lt
  have hB := hc.1
  obtain ⟨i0, hi, hz0, hz1, hz2⟩ := info_parts Tryz.infoI
  go_enter Tryz.func98, Tryz.ntmps98
  go_wp2_with fail
  refine (l5DrawAny_any _ B c hc).mono ?_
  rintro e w1 ⟨v, dss, rfl, hR, hS, D1⟩
  have l1 : dss.length ≤ 1048576 := by have := hS.1; omega
  have l2 : ∀ i, i < dss.length → (dss.getD i []).length ≤ 1048576 := fun i hi => by have := hS.2 i hi; omega
  have HS := Lib.hid hS
  have L2 := Lib.hid l2
  clear hS l2
  have hcb := cntB_in dss
  have hal := atB_len dss
  have s1 := D1.2.size
  go_wp2_with fail
  refine (specSourcesCount_any _ _ _ hR.rd l1 L2.out).mono ?_
  rintro e w2 ⟨rfl, k2⟩
  have R2 := hR.keep k2
  have D2 := D1.keepQ k2
  have s2 := k2.size
  clear hR D1 k2
  generalize cntB dss = m at hcb
  go_wp2_with fail
  refine (l1Max_any _ _ _).mono ?_
  rintro e w3 ⟨rfl, rfl⟩
  generalize hM : max 1 m = M
  have M0 : 0 < M := by omega
  have M1 : M ≤ 8916100448256 := by omega
  clear hM hcb
  go_wp2_with fail
  refine (below_any _ B c _ D2.1 (by omega)).mono ?_
  rintro e w4 ⟨x, rfl, x0, x1, c4, g4⟩
  have R4 := R2.kept g4 hcl
  have D4 := D2.step c4 g4
  have s4 := g4.size
  clear R2 D2 c4 g4
  go_wp2_with fail
  refine (specSourceAt_own _ _ _ x R4.rd l1 L2.out).mono ?_
  rintro e w5 ⟨u, rfl, o5, k5⟩
  have G5 : w4.grownBy w5 (some c) := grown_any k5.grownBy _
  have D5 := D4.keepQ k5
  have hL := hal x
  clear D4 k5 hal
  generalize atB dss x = L at o5 hL
  have hN : c < w4.heap.size := by omega
  obtain ⟨a5, c5, rfl, -⟩ := o5.rd
  go_upto_region 4 with fail
  go_cut [23] from 17 (fun s23 wx => ∃ b : Bool, s23 = .bool b ∧ (b = true → 0 < L.length) ∧ Own wx w4.heap.size (.slice a5 L.length c5) L ∧ w4.grownBy wx (some c) ∧ Dr w wx B c)
  case first =>
    by_cases h0 : 0 < L.length
    · have i0 : (0 : Int) < (L.length : Int) := by omega
      go_wp2_with fail
      refine (once_any _ B c _ D5.1 (by omega)).mono ?_
      rintro e w6 ⟨b, rfl, c6, g6⟩
      go_wp2
      go_meet
      case rel => exact ⟨b, rfl, fun _ => h0, o5.keptC g6 hN, grown_trans G5 g6, D5.step c6 g6⟩
    · have i0 : (L.length : Int) ≤ 0 := by omega
      go_wp2
      go_meet
      case rel => exact ⟨false, rfl, by simp, o5, G5, D5⟩
  case rest =>
    clear o5 G5 D5
    obtain ⟨b, rfl, hb0, o5, G5, D5⟩ := hcut
    go_upto_if 23 with fail
    go_cut [] from 17 (fun wx => ∃ L' : List Int, L'.length = L.length ∧ Own wx w4.heap.size (.slice a5 L.length c5) L' ∧ w4.grownBy wx (some c) ∧ Dr w wx B c)
    case first =>
      cases b
      · go_wp2
        go_meet
        case rel => exact ⟨L, rfl, o5, G5, D5⟩
      · have h0 := hb0 rfl
        have i0 : (0 : Int) < (L.length : Int) := by omega
        go_wp2_with fail
        refine (from_any _ B c _ _ D5.1 (by omega) (by omega) (by omega)).mono ?_
        rintro e w6 ⟨y, rfl, -, -, c6, g6⟩
        have o6 := o5.keptC g6 hN
        have G6 := grown_trans G5 g6
        have D6 := D5.step c6 g6
        clear o5 G5 D5 c6 g6
        obtain ⟨g, hg⟩ : ∃ g, a5 = some ⟨g, 0, none⟩ := by
          rcases o6.2 with ⟨e, hz⟩ | ⟨g, cap, cur, e, _⟩
          · omega
          · simp only [Value.slice.injEq] at e
            exact ⟨g, e.1⟩
        subst hg
        have hge : w4.heap.size ≤ g := o6.ge g rfl
        have hR := o6.rowAt
        have fr := hR.free 0
        have hgl := hR.lt
        have cl := hR.cell (j := 0) h0
        go_wp2
        go_meet
        case rel => exact ⟨L.set 0 y, by simp, o6.setAt 0 y, grown_far G6 (grown_set w6 g 0 _) (by intro j hj; simp at hj; omega), D6.set (by omega) hcl hB 0 _⟩
    case rest =>
      clear o5 G5 D5 hb0
      obtain ⟨L', hL', o5, G5, D5⟩ := hcut
      go_wp2_with fail
      refine (once_any _ B c _ D5.1 (by omega)).mono ?_
      rintro e w6 ⟨b2, rfl, c6, g6⟩
      have o6 := o5.keptC g6 hN
      have G6 := grown_trans G5 g6
      have D6 := D5.step c6 g6
      clear o5 G5 D5 c6 g6
      cases b2
      · have HR := Lib.hid (R4.kept G6 hcl).rd
        go_wp2
        go_ret2
        exact ⟨_, _, dss, L', rfl, HR.out, HS.out, o6.rd, by omega, D6⟩
      · have G7 := grown_trans G6 (World.grownBy_alloc w6 (.cells #[.int .i64 0] 2) (some c))
        have D7 := D6.alloc (.cells #[.int .i64 0] 2)
        have hge : ∀ j, (Value.slice a5 L.length c5).ownBlock = some j → w4.heap.size ≤ j := o6.ge
        rw [← hL'] at o6 hge hL ⊢
        clear hL'
        go_wp2_with (at_builtin; refine wpList_append_own _ rfl _ _ 25 rfl w4.heap.size 2 i0 (.int .i64 0) 1 8 Tryz.underlying25 hi hz0 hz1 hz2 rfl (by decide) _ _ _ rfl (World.ownsRow.alloc o6 _) ⟨_, 0, none⟩ 1 1 [.int .i64 0] rfl rfl ?c1 ?c2 ?c3 ?c4 ?c5 ?_)
        case c1 =>
          intro j u hj
          match j, hj with
          | 0, hj => simp at hj; subst hj; simp [Addr.add]
        case c2 => intro u hu; simp at hu; subst hu; rfl
        case c3 => unfold maxLen; omega
        case c4 => omega
        case c5 => have := G7.size; omega
        intro v' w8 hown' hgrow _
        have o8 : Own w8 w4.heap.size v' (L' ++ [0]) := own_hit hown'
        have G8 := grown_far G7 hgrow hge
        have D8 := D7.grow hgrow (fun k hk => by have := hge k hk; omega) hcl hB
        have HR := Lib.hid (R4.kept G8 hcl).rd
        clear hgrow hown'
        go_wp2
        go_ret2
        exact ⟨_, _, dss, L' ++ [0], rfl, HR.out, HS.out, o8.rd, by rw [List.length_append]; simp; omega, D8⟩
theorem drawSourceOk_any (w : World) (a : Option Addr) (cap : Nat) (zs : List Int) (hb : RdB w w.heap.size a zs) :
    Calls Tryz.prog 46 #[.slice a zs.length cap] w fun e w' => ∃ v u dss f, e = .returned (.tuple #[v, u]) ∧ RdW w' v dss ∧ (dss.length ≤ 6 ∧ ∀ i, i < dss.length → (dss.getD i []).length ≤ 7) ∧ Rd w' u f ∧ f.length ≤ 13 ∧ Keep w w' := by
  go_enter Tryz.func46, Tryz.ntmps46
  go_wp2_with fail
  refine (new_any _ a cap zs hb).mono ?_
  rintro e w1 ⟨rfl, c1, k1⟩
  go_wp2_with fail
  refine (l8Draw_any _ _ _ c1).mono ?_
  rintro e w2 ⟨v, u, dss, f, rfl, hR, hs, hf, hl, D2⟩
  have K2 := D2.newQ k1 (Nat.le_refl _)
  have HR := Lib.hid hR
  have HS := Lib.hid hs
  have HF := Lib.hid hf
  clear hR hs hf D2
  go_wp2
  go_ret2
  exact ⟨_, _, _, _, rfl, HR.out, HS.out, HF.out, hl, K2⟩
end Go.Proofs.YtkbkdlaknmgjpaaGreat
