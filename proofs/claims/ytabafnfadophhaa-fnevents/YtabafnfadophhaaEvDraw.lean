/- Contracts of what the law on events draws: some list of at most twenty events. -/
import Derived.Test.YtabafnfadophhaaWorkDrawE
import Derived.Test.YtabafnfadophhaaEvOfS
import Derived.Test.YtabafnfadophhaaEvLen2
import Derived.Maps.AppendAt
namespace Go.Proofs.Ytabafnfadophhaa
open Go.ChangeShapes Go.WideShapes Go.ChangeAt Go.RowKit

theorem AppE.not_nil {w : World} {base : Nat} {v : Value} {es : List Ev} (h : AppE w base v es) (hn : v ≠ .slice none 0 0) : ∃ g c, v = .slice (some ⟨g, 0, none⟩) es.length c := by
  rcases h.2 with ⟨e, _⟩ | ⟨g, cap, cur, hv, _⟩
  · exact absurd e hn
  · exact ⟨g, cap, hv⟩
theorem AppE.keptC {w w' : World} {base c : Nat} {v : Value} {es : List Ev} (h : AppE w base v es) (hg : w.grownBy w' (some c)) (hc : c < base) : AppE w' base v es := by
  refine AppT.kept h hg ?_
  cases hv : v.ownBlock with
  | none => exact .inl rfl
  | some k => exact .inr (fun e => by have := h.ge k hv; simp at e; omega)
theorem Dr.keepE {w wr wr' : World} {B c : Nat} (h : Dr w wr B c) (k : Keep wr wr') : Dr w wr' B c := ⟨h.1.keep k, grown_trans h.2 ⟨Below.os k, Below.tape k, Below.output k, Below.size k, fun i hi _ => Below.block k i hi⟩⟩
theorem flat_oneE (xs : List Ev) : ∀ u, u ∈ xs.flatMap cE → u.oneCell' = true := by
  intro u hu
  obtain ⟨d, _, hd⟩ := List.mem_flatMap.1 hu
  exact cE_one d u hd
theorem flat_lenE : ∀ xs : List Ev, (xs.flatMap cE).length = xs.length * 6
  | [] => rfl
  | x :: r => by rw [List.flatMap_cons, List.length_append, flat_lenE r, cE_len, List.length_cons]; omega
/-- The specification's events are never nil. -/
theorem specEventsOf_new (w : World) (v : Value) (dss : List (List Dd)) (h : RdW w v dss) (hx : dss.length ≤ 1048576) (hm : ∀ i, i < dss.length → (dss.getD i []).length ≤ 1048576) :
    Calls Try.prog 16 #[v] w fun e w' => ∃ v', e = .returned v' ∧ AppE w' w.heap.size v' (eventsB dss) ∧ v' ≠ .slice none 0 0 ∧ Keep w w' := by
  cases hb : workB dss
  · have HE : Hid (eventsB dss = []) := Lib.hid (by rw [eventsB, hb]; rfl)
    have O : ∀ w1 : World, Keep w w1 → AppE (w1.alloc (.cells #[] 43)) w.heap.size (.slice (some ⟨w1.heap.size, 0, none⟩) 0 0) [] := fun w1 k1 => World.ownsRow_lit w1 #[] 0 k1.size (by decide) (by simp)
    go_enter Try.func16, Try.ntmps16
    go_wp2_with fail
    refine (specWorkOk_any _ _ _ h hx hm).mono ?_
    rintro e w1 ⟨rfl, k1⟩
    go_wp2
    go_ret
    exact ⟨_, rfl, by rw [HE.out]; exact O w1 k1, by simp, k1.alloc _⟩
  · have h3 : 1 ≤ (eventsB dss).length := by
      rw [eventsB, if_pos hb]
      have := evsW_len (workB_useS hb).2 dss.length (Nat.le_refl _)
      simp only [workB, Bool.and_eq_true, decide_eq_true_eq] at hb
      have e0 : ∀ n, 0 ≤ evW dss n := fun n => by
        induction n with
        | zero => simp [evW]
        | succ n ih => rw [evW]; have := evK_in (dss.getD n []) (dss.getD n []).length; omega
      have := e0 dss.length
      omega
    refine (specEventsOf_any w v dss h hx hm).mono ?_
    rintro e w' ⟨v', rfl, a, k⟩
    refine ⟨v', rfl, a, fun hn => ?_, k⟩
    obtain ⟨a', c', hv⟩ := a.shape
    rw [hv] at hn
    injection hn with _ h0 _
    omega
set_option maxRecDepth 100000 in
set_option maxHeartbeats 4000000 in
theorem l6Draw_any (w : World) (B c : Nat) (hc : Cur w B c) :
    Calls Try.prog 47 #[.pointer (some ⟨c, 0, none⟩)] w fun e w' => ∃ v es N, e = .returned v ∧ AppE w' N v es ∧ c < N ∧ es.length ≤ 20 ∧ Dr w w' B c := by
  have hcl := hc.lt
  have hB := hc.1
  obtain ⟨j0, hj, hy0, hy1, hy2⟩ := info_parts Try.infoE
  go_enter Try.func47, Try.ntmps47
  go_wp2_with fail
  refine (l5DrawAny_any _ B c hc).mono ?_
  rintro e w1 ⟨v1, dss, rfl, hR, ⟨l1, l2⟩, D1⟩
  have hcl1 := D1.1.lt
  have hs1 := D1.2.size
  go_wp2_with fail
  refine (specEventsOf_new _ _ _ hR (by omega) (fun i hi => by have := l2 i hi; omega)).mono ?_
  rintro e w2 ⟨v2, rfl, a2, n2, k2⟩
  have D2 := D1.keepE k2
  have g9 := eventsB_len9 dss
  generalize eventsB dss = es at a2 g9
  clear hR l1 l2
  go_wp2_with fail
  refine (once_any _ B c _ D2.1 (by omega)).mono ?_
  rintro e w3 ⟨b, rfl, c3, g3⟩
  have a3 := a2.keptC g3 hcl1
  have D3 := D2.step c3 g3
  have s3 := k2.size
  have s4 := g3.size
  clear a2 D2 c3 g3
  go_upto_if 8 with fail
  go_cut [3] from 4 (fun s3 wx => ∃ es, AppE wx w1.heap.size s3 es ∧ es.length ≤ 10 ∧ s3 ≠ .slice none 0 0 ∧ w1.heap.size ≤ wx.heap.size ∧ Dr w wx B c)
  case first =>
    cases b
    · go_wp2
      go_meet
      case rel => exact ⟨es, a3, by omega, n2, by omega, D3⟩
    · go_wp2_with fail
      refine (once_any _ B c _ D3.1 (by omega)).mono ?_
      rintro e w4 ⟨b2, rfl, c4, g4⟩
      have a4 := a3.keptC g4 hcl1
      have D4 := D3.step c4 g4
      have s5 := g4.size
      clear a3 D3 c4 g4
      go_wp2_with fail
      refine (from_any _ B c _ _ D4.1 (by omega) (by omega) (by omega)).mono ?_
      rintro e w5 ⟨p, rfl, -, -, c5, g5⟩
      have a5 := a4.keptC g5 hcl1
      have D5 := D4.step c5 g5
      have s6 := g5.size
      clear a4 D4 c5 g5
      go_wp2_with fail
      refine (below_any _ B c _ D5.1 (by omega)).mono ?_
      rintro e w6 ⟨q, rfl, -, -, c6, g6⟩
      have a6 := a5.keptC g6 hcl1
      have D6 := D5.step c6 g6
      have s7 := g6.size
      clear a5 D5 c6 g6
      have a7 := a6.keep ((Keep.refl w6).alloc (eC 0 0 b2 p 0 q))
      have D7 := D6.alloc (eC 0 0 b2 p 0 q)
      go_wp2_with (at_builtin; refine wpList_append_own_at _ rfl _ _ 26 rfl w1.heap.size 43 j0 (.agg #[.int .i64 0, .int .i64 0, .bool false, .int .i64 0, .int .i64 0, .int .i64 0]) 6 48 Try.underlying26 hj hy0 hy1 hy2 rfl (by decide) _ _ _ rfl a7 ⟨_, 0, none⟩ 1 1 (cE (0, 0, b2, p, 0, q)) rfl rfl ?c1 ?c2 ?c3 ?c4 ?c5 ?_)
      case c1 => exact cE_new _ _ _ _ _ _ _
      case c2 => exact cE_one _
      case c3 => unfold maxLen; omega
      case c4 => omega
      case c5 => simp; omega
      intro v' w8 hown' hgrow hnil _
      have a8 : AppE w8 w1.heap.size v' (es ++ [(0, 0, b2, p, 0, q)]) := appT_hit hown'
      have n8 : v' ≠ .slice none 0 0 := hnil
      have D8 := D7.grow hgrow (fun k hk => Nat.le_trans hs1 (a7.ge k hk)) hcl hB
      have s8 : w1.heap.size ≤ w8.heap.size := Nat.le_trans (by rw [heap_size]; omega) hgrow.size
      clear hown' hgrow hnil a7 D7 a6 D6
      go_wp2
      go_meet
      case rel => exact ⟨_, a8, by simp; omega, n8, s8, D8⟩
  case rest =>
    clear a3 D3 g9 n2 s3 s4
    obtain ⟨es, a3, g9, n3, s3, D3⟩ := hcut
    obtain ⟨g, cx, rfl⟩ := AppE.not_nil a3 n3
    go_wp2_with fail
    refine (once_any _ B c _ D3.1 (by omega)).mono ?_
    rintro e w4 ⟨b2, rfl, c4, g4⟩
    have a4 := a3.keptC g4 hcl1
    have D4 := D3.step c4 g4
    have s5 := g4.size
    clear a3 D3 c4 g4
    cases b2
    · have HR := Lib.hid a4
      go_wp2
      go_ret
      exact ⟨_, es, w1.heap.size, rfl, HR.out, hcl1, by omega, D4⟩
    · go_wp2_with (at_builtin; refine wpList_append_own_at _ rfl _ _ 26 rfl w1.heap.size 43 j0 (.agg #[.int .i64 0, .int .i64 0, .bool false, .int .i64 0, .int .i64 0, .int .i64 0]) 6 48 Try.underlying26 hj hy0 hy1 hy2 rfl (by decide) _ _ _ rfl a4 ⟨g, 0, none⟩ es.length cx (es.flatMap cE) rfl (flat_lenE es) ?c1 ?c2 ?c3 ?c4 ?c5 ?_)
      case c1 =>
        intro j u hju
        have hjl : j < es.length * 6 := by rw [← flat_lenE es]; exact (List.getElem?_eq_some_iff.1 hju).1
        rw [plain_add, Nat.zero_add, World.ownsRow.cellAt a4 j hjl]
        exact hju
      case c2 => exact flat_oneE es
      case c3 => unfold maxLen; omega
      case c4 => omega
      case c5 => omega
      intro v' w8 hown' hgrow hnil _
      have a8 : AppE w8 w1.heap.size v' (es ++ es) := by
        show w8.ownsRow w1.heap.size 43 6 v' (es ++ es).length ((es ++ es).flatMap cE)
        rw [List.flatMap_append, List.length_append]
        exact hown'
      have D8 := D4.grow hgrow (fun k hk => Nat.le_trans hs1 (a4.ge k hk)) hcl hB
      have HR := Lib.hid a8
      clear hown' hgrow hnil a8 a4 D4
      go_wp2
      go_ret
      exact ⟨_, es ++ es, w1.heap.size, rfl, HR.out, hcl1, by simp; omega, D8⟩
theorem drawReads_any (w : World) (a : Option Addr) (cap : Nat) (zs : List Int) (hb : RdB w w.heap.size a zs) :
    Calls Try.prog 11 #[.slice a zs.length cap] w fun e w' => ∃ v es, e = .returned v ∧ RdE w' v es ∧ es.length ≤ 20 ∧ Keep w w' := by
  go_enter Try.func11, Try.ntmps11
  go_wp2_with fail
  refine (new_any _ a cap zs hb).mono ?_
  rintro e w1 ⟨rfl, c1, k1⟩
  go_wp2_with fail
  refine (l6Draw_any _ _ _ c1).mono ?_
  rintro e w2 ⟨v, es, N, rfl, hR, -, hs, D2⟩
  have K2 := D2.newE k1 (Nat.le_refl _)
  have HR := Lib.hid hR.rd
  clear hR D2
  go_wp2
  go_ret
  exact ⟨_, _, rfl, HR.out, hs, K2⟩
theorem drawClasses_any (w : World) (a : Option Addr) (cap : Nat) (zs : List Int) (hb : RdB w w.heap.size a zs) :
    Calls Try.prog 14 #[.slice a zs.length cap] w fun e w' => ∃ v es, e = .returned v ∧ RdE w' v es ∧ es.length ≤ 20 ∧ Keep w w' := by
  go_enter Try.func14, Try.ntmps14
  go_wp2_with fail
  refine (drawReads_any _ a cap zs hb).mono ?_
  rintro e w2 ⟨v, es, rfl, hR, hs, K2⟩
  have HR := Lib.hid hR
  clear hR
  go_wp2
  go_ret
  exact ⟨_, _, rfl, HR.out, hs, K2⟩
theorem drawEvents_any (w : World) (a : Option Addr) (cap : Nat) (zs : List Int) (hb : RdB w w.heap.size a zs) :
    Calls Try.prog 9 #[.slice a zs.length cap] w fun e w' => ∃ v dss, e = .returned v ∧ RdW w' v dss ∧ (dss.length ≤ 6 ∧ ∀ i, i < dss.length → (dss.getD i []).length ≤ 7) ∧ Keep w w' := by
  go_enter Try.func9, Try.ntmps9
  go_wp2_with fail
  refine (drawWork_any _ a cap zs hb).mono ?_
  rintro e w2 ⟨v, dss, rfl, hR, hs, K2⟩
  have HR := Lib.hid hR
  have HS := Lib.hid hs
  clear hR hs
  go_wp2
  go_ret
  exact ⟨_, _, rfl, HR.out, HS.out, K2⟩
theorem drawWrites_any (w : World) (a : Option Addr) (cap : Nat) (zs : List Int) (hb : RdB w w.heap.size a zs) :
    Calls Try.prog 13 #[.slice a zs.length cap] w fun e w' => ∃ v es p, e = .returned (.tuple #[v, .int .i64 p]) ∧ RdE w' v es ∧ es.length ≤ 20 ∧ Keep w w' := by
  go_enter Try.func13, Try.ntmps13
  go_wp2_with fail
  refine (new_any _ a cap zs hb).mono ?_
  rintro e w1 ⟨rfl, c1, k1⟩
  have hcl1 := c1.lt
  go_wp2_with fail
  refine (l6Draw_any _ _ _ c1).mono ?_
  rintro e w2 ⟨v, es, N, rfl, hR, hN, hs, D2⟩
  go_wp2_with fail
  refine (from_any _ _ _ _ _ D2.1 (by omega) (by omega) (by omega)).mono ?_
  rintro e w3 ⟨p, rfl, -, -, c3, g3⟩
  have K3 := (D2.step c3 g3).newE k1 (Nat.le_refl _)
  have HR := Lib.hid (hR.keptC g3 hN).rd
  clear hR c3 g3 D2
  go_wp2
  go_ret2
  exact ⟨_, _, p, rfl, HR.out, hs, K3⟩
end Go.Proofs.Ytabafnfadophhaa
