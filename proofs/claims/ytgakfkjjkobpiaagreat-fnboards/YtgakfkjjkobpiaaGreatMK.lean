/- Gathered texts. -/
import Derived.Test.YtgakfkjjkobpiaaGreatMI
import Derived.Test.YtgakfkjjkobpiaaGreatMJ
import Derived.Deep.Cut
import Derived.Laws.Tables
import Derived.Test.YtgakfkjjkobpiaaGreatME
import Derived.Lib.Hide
import Derived.Outline
import Derived.Deep.QuietTactic
import Derived.BigQuiet
set_option maxRecDepth 100000
set_option maxHeartbeats 8000000
namespace Go.Proofs.YtgakfkjjkobpiaaGreat
open Go.ChangeShapes Go.WideShapes Go.ChangeAt Go.RowKit
open Go.RowKit
def nb0 (n : Nat) : Bd := { plc := [0, 0, 0], lst := [0, 1, 2], nts := [], nxt := List.replicate n 0, sn := [], fr := [], rws := [[0], [1], [2]] }
def gNB : BI → Option Nat
  | .bd => some 12
  | .plc => some 2
  | .lst => some 3
  | .nxt => some 6
  | .rws => some 10
  | .rw 0 => some 7
  | .rw 1 => some 8
  | .rw 2 => some 9
  | _ => none
theorem gNB_inj : ∀ a b i, gNB a = some i → gNB b = some i → a = b := by
  intro a b i h1 h2
  unfold gNB at h1 h2
  split at h1 <;> split at h2 <;> first | rfl | (simp only [Option.some.injEq] at h1 h2; omega) | (cases h2; done) | (cases h1; done)
theorem nb_own {w : World} {m D bs N : Nat} {B : Nat → Bool} {R : Nat → Rw} {dss : List (List Dd)} {n : Nat} {x12 x13 x14 x17 x18 x19 x20 x21 : Value} (HM : Mk w m (liveM [2, 3, 6, 7, 8, 9, 10, 12] B) R true x12 bs N dss)
    (b2 : B 2 = true) (b3 : B 3 = true) (b6 : B 6 = true) (b7 : B 7 = true) (b8 : B 8 = true) (b9 : B 9 = true) (b10 : B 10 = true) (b12 : B 12 = true)
    (r2 : R 2 = ivR [0, 0, 0] x13) (r3 : R 3 = ivR [0, 1, 2] x14) (r6 : R 6 = ivR (List.replicate n 0) x17) (r7 : R 7 = ivR [0] x18) (r8 : R 8 = ivR [1] x19) (r9 : R 9 = ivR [2] x20) (r10 : R 10 = hdR 26 [x18, x19, x20] x21)
    (r12 : R 12 = bdR D ⟨x12, x13, x14, nilS, x17, nilS, nilS, x21⟩) : OwnBd w m D ⟨x12, x13, x14, nilS, x17, nilS, nilS, x21⟩ [] [x18, x19, x20] bs N dss (nb0 n) := by
  have H1 : ∀ a i, liveB [] [x18, x19, x20] a → gNB a = some i → liveM [2, 3, 6, 7, 8, 9, 10, 12] B i ∧ famR D ⟨x12, x13, x14, nilS, x17, nilS, nilS, x21⟩ [] [x18, x19, x20] (nb0 n) a = R i := by
    intro a i _ hi
    unfold gNB at hi
    split at hi <;> simp at hi <;> subst hi
    · exact ⟨⟨by decide, b12⟩, r12.symm⟩
    · exact ⟨⟨by decide, b2⟩, r2.symm⟩
    · exact ⟨⟨by decide, b3⟩, r3.symm⟩
    · exact ⟨⟨by decide, b6⟩, r6.symm⟩
    · exact ⟨⟨by decide, b10⟩, r10.symm⟩
    · exact ⟨⟨by decide, b7⟩, r7.symm⟩
    · exact ⟨⟨by decide, b8⟩, r8.symm⟩
    · exact ⟨⟨by decide, b9⟩, r9.symm⟩
  have H2 : ∀ a, liveB [] [x18, x19, x20] a → gNB a = none → (famR D ⟨x12, x13, x14, nilS, x17, nilS, nilS, x21⟩ [] [x18, x19, x20] (nb0 n) a).own w m ∧ (famR D ⟨x12, x13, x14, nilS, x17, nilS, nilS, x21⟩ [] [x18, x19, x20] (nb0 n) a).v.ownBlock = none := by
    intro a ha hn
    match a, ha, hn with
    | .nts, _, _ => exact ⟨own_none _ _ _ _, rfl⟩
    | .sn, _, _ => exact ⟨own_none _ _ _ _, rfl⟩
    | .fr, _, _ => exact ⟨own_none _ _ _ _, rfl⟩
    | .nt c, ha, _ => exact absurd (show c < 0 from ha) (by omega)
    | .rw 0, _, hn => cases hn
    | .rw 1, _, hn => cases hn
    | .rw 2, _, hn => cases hn
    | .rw (p + 3), ha, _ => exact absurd (show p + 3 < 3 from ha) (by omega)
  refine ⟨HM.fam.via gNB gNB_inj H1 H2, rfl, rfl, (HM.work rfl).1, (HM.work rfl).2.1, fun a ha k hk => ?_⟩
  cases e : gNB a with
  | none => rw [(H2 a ha e).2] at hk; cases hk
  | some i => rw [(H1 a i ha e).2] at hk; exact HM.out rfl i (H1 a i ha e).1 k hk
theorem l14New_any (w : World) (v : Value) (dss : List (List Dd)) (h : RdW w v dss) (hb : workB dss = true) :
    Calls Tryz.prog 47 #[v] w fun e w' => ∃ bv nv rv bs N, e = .returned (BV.agg bv) ∧ OwnVal w' w.heap.size bv nv rv bs N dss (newM dss) ∧ w.heap.size ≤ bs ∧ Keep w w' := by
  obtain ⟨u1, u2⟩ := workB_useR hb
  have CE := fun (W : World) (kW : Keep w W) => l6Events_any W v dss (h.keep kW) u1 u2
  have e1 : eventsB dss = evsW dss dss.length := by rw [eventsB, if_pos hb]
  have h9 := eventsB_len9 dss
  rw [← e1] at CE
  have hok := Lib.hid u2
  clear u2
  have h0 := h
  obtain ⟨a0, c0, rfl, -⟩ := h0
  have hll : ∀ i, i < dss.length → (dss.getD i []).length ≤ 1048576 := fun i hi => by have hq := hok.out i hi; unfold okL at hq; rw [Bool.and_eq_true, decide_eq_true_eq] at hq; omega
  generalize hes : eventsB dss = es at *
  clear e1
  go_enter Tryz.func47, Tryz.ntmps47
  go_wp2_with fail
  refine (CE _ ((Keep.refl w).alloc _)).mono ?_
  rintro e w1 ⟨v1, rfl, o1, k1⟩
  have hR0 := box_heap k1
  have K1 := ((Keep.refl w).alloc _).trans k1
  have s1 := box_size k1
  clear k1 CE
  go_wp2_with fail
  refine (specReadsOf_any _ _ _ o1.rd (by omega)).mono ?_
  rintro e w2 ⟨v2, rfl, o2, k2⟩
  have hR2 := (Below.block k2 w.heap.size s1).trans hR0
  have K2 := K1.trans k2
  have s2 := k2.size
  obtain ⟨a2, c2, rfl, -⟩ := o2.rd
  generalize hrs : idxB rdE es = rs at *
  have HRS := Lib.hid hrs
  clear hrs
  go_upto_region 2 with fail
  go_cut [4] from 11 (fun s4 wx => ∃ D bv rv bs N, s4 = .pointer (some ⟨D, 0, none⟩) ∧ OwnBd wx w2.heap.size D bv [] rv bs N dss (nb0 dss.length) ∧ w2.heap.size ≤ bs ∧ Keep w2 wx)
  case first =>
    refine wp_region_inv (by kernel_rfl) (fun listed a wq => ∃ (B : Nat → Bool) (R : Nat → Rw) (bs N D : Nat) (x4 x11 x12 x13 x14 x15 x16 x17 x18 x19 x20 x21 x22 : Value), listed = #[B 0, B 1, B 2, B 3, B 4, B 5, B 6, B 7, B 8, B 9, B 10, B 11, B 12, B 13] ∧ a = ⟨#[.slice a0 dss.length c0, undef, .pointer (some ⟨w.heap.size, 0, none⟩), .int .i64 (rs.length : Int), x4, undef, undef, .slice a0 dss.length c0, v1, .slice a2 rs.length c2, .int .i64 (rs.length : Int), x11, x12, x13, x14, x15, x16, x17, x18, x19, x20, x21, x22, undef, undef, undef, undef, undef, undef, undef, undef, undef, undef, undef, undef, undef, undef, undef, undef, undef, undef, undef, undef, undef, undef, undef, undef, undef, undef, undef, undef], []⟩ ∧
    Hid (Mk wq w2.heap.size (liveM [2, 3, 6, 7, 8, 9, 10, 12] B) R (B 1) x12 bs N dss ∧ Keep w2 wq ∧ (B 0 = true → x11 = .slice a0 dss.length c0) ∧ (B 1 = true → ∃ a c, x12 = .slice a dss.length c) ∧ (B 2 = true → (∃ g, x13 = .slice (some ⟨g, 0, none⟩) 3 3) ∧ R 2 = ivR [0, 0, 0] x13) ∧ (B 3 = true → (∃ g, x14 = .slice (some ⟨g, 0, none⟩) 3 3) ∧ R 3 = ivR [0, 1, 2] x14) ∧ (B 4 = true → x15 = .slice a0 dss.length c0) ∧ (B 5 = true → x16 = .int .i64 (dss.length : Int)) ∧ (B 6 = true → (∃ g, x17 = .slice (some ⟨g, 0, none⟩) dss.length dss.length) ∧ R 6 = ivR (List.replicate dss.length 0) x17) ∧ (B 7 = true → (∃ g, x18 = .slice (some ⟨g, 0, none⟩) 1 1) ∧ R 7 = ivR [0] x18) ∧ (B 8 = true → (∃ g, x19 = .slice (some ⟨g, 0, none⟩) 1 1) ∧ R 8 = ivR [1] x19) ∧ (B 9 = true → (∃ g, x20 = .slice (some ⟨g, 0, none⟩) 1 1) ∧ R 9 = ivR [2] x20) ∧ (B 10 = true → (B 7 = true ∧ B 8 = true ∧ B 9 = true) ∧ (∃ g, x21 = .slice (some ⟨g, 0, none⟩) 3 3) ∧ R 10 = hdR 26 [x18, x19, x20] x21) ∧ (B 11 = true → (B 1 = true ∧ B 2 = true ∧ B 3 = true ∧ B 6 = true ∧ B 10 = true) ∧ x22 = .agg #[x12, x13, x14, nilS, x17, nilS, nilS, x21]) ∧ (B 12 = true → x4 = .pointer (some ⟨D, 0, none⟩) ∧ (R 12).v = .slice (some ⟨D, 0, none⟩) 1 1 ∧ (B 13 = false → R 12 = ⟨30, 8, .slice (some ⟨D, 0, none⟩) 1 1, 1, [nilS, nilS, nilS, nilS, nilS, nilS, nilS, nilS]⟩)) ∧ (B 13 = true → B 11 = true ∧ B 12 = true) ∧ (B 13 = true → R 12 = bdR D ⟨x12, x13, x14, nilS, x17, nilS, nilS, x21⟩))) ?_ ?_ ?_
    · exact ⟨fun _ => false, fun _ => ⟨0, 0, nilS, 0, []⟩, 0, 0, 0, undef, undef, undef, undef, undef, undef, undef, undef, undef, undef, undef, undef, undef, rfl, rfl, Lib.hid ⟨Mk.start _ _ _ _ _ _ _ _, (Keep.refl w2).drew, (fun q => by cases q), (fun q => by cases q), (fun q => by cases q), (fun q => by cases q), (fun q => by cases q), (fun q => by cases q), (fun q => by cases q), (fun q => by cases q), (fun q => by cases q), (fun q => by cases q), (fun q => by cases q), (fun q => by cases q), (fun q => by cases q), (fun q => by cases q), (fun q => by cases q)⟩⟩
    · rintro listed a w3 ⟨B, R, bs, N, D, x4, x11, x12, x13, x14, x15, x16, x17, x18, x19, x20, x21, x22, rfl, rfl, HJ⟩ i hi
      have hlt := (ready_use hi).1
      have hcs : i = 0 ∨ i = 1 ∨ i = 2 ∨ i = 3 ∨ i = 4 ∨ i = 5 ∨ i = 6 ∨ i = 7 ∨ i = 8 ∨ i = 9 ∨ i = 10 ∨ i = 11 ∨ i = 12 ∨ i = 13 := by simp at hlt; omega
      rcases hcs with rfl | rfl | rfl | rfl | rfl | rfl | rfl | rfl | rfl | rfl | rfl | rfl | rfl | rfl
      ·
        have hbi : B 0 = false := by simpa using (ready_use hi).2.1
        have HI := HJ.out
        obtain ⟨HM, HK, F0, F1, F2, F3, F4, F5, F6, F7, F8, F9, F10, F11, F12, F13, F14⟩ := HI
        have hsz := HK.size
        clear HM HK F0 F1 F2 F3 F4 F5 F6 F7 F8 F9 F10 F11 F12 F13 F14
        refine wpOp_law rfl rfl (fun K hK => ?_)
        simp only [List.getElem_toArray, List.getElem_cons_zero]
        go_simp
        refine hK.out _ _ ?_
        obtain ⟨HM, HK, F0, F1, F2, F3, F4, F5, F6, F7, F8, F9, F10, F11, F12, F13, F14⟩ := HJ.out
        exact ⟨updB B 0, R, bs, N, D, _, _, _, _, _, _, _, _, _, _, _, _, _, rfl, rfl, Lib.hid ⟨HM.pass (by decide), HK, (fun _ => rfl), F1, F2, F3, F4, F5, F6, F7, F8, F9, F10, F11, F12, F13, F14⟩⟩
      ·
        have hbi : B 1 = false := by simpa using (ready_use hi).2.1
        have hdp := (ready_use hi).2.2 _ rfl
        simp [Region.binds] at hdp
        have HI := HJ.out
        obtain ⟨HM, HK, F0, F1, F2, F3, F4, F5, F6, F7, F8, F9, F10, F11, F12, F13, F14⟩ := HI
        have hsz := HK.size
        have Ex := Lib.hid (F0 hdp)
        rw [Ex.out]
        clear HM HK F0 F1 F2 F3 F4 F5 F6 F7 F8 F9 F10 F11 F12 F13 F14
        refine wpOp_law rfl rfl (fun K hK => ?_)
        simp only [List.getElem_toArray, List.getElem_cons_succ, List.getElem_cons_zero]
        go_simp
        refine (l5Copy_any _ _ _ (h.keep (K2.trans HJ.out.2.1)) (by omega) hll).mono ?_
        rintro e wz ⟨vz, rfl, hx, kk⟩
        go_wp2_with fail
        refine hK.out _ _ ?_
        obtain ⟨HM, HK, F0, F1, F2, F3, F4, F5, F6, F7, F8, F9, F10, F11, F12, F13, F14⟩ := HJ.out
        have ex := Ex.out
        subst ex
        rw [hbi] at HM
        obtain ⟨az, cz, ez, -⟩ := id hx
        exact ⟨updB B 1, R, _, _, D, _, _, _, _, _, _, _, _, _, _, _, _, _, rfl, rfl, Lib.hid ⟨HM.copied (by decide) kk hx hsz, HK.trans kk, F0, (fun _ => ⟨az, cz, ez⟩), F2, F3, F4, F5, F6, F7, F8, F9, F10, (fun q => absurd (F11 q).1.1 (by rw [hbi]; simp)), F12, F13, (fun q => absurd (F11 (F13 q).1).1.1 (by rw [hbi]; simp))⟩⟩
      ·
        have hbi : B 2 = false := by simpa using (ready_use hi).2.1
        have HI := HJ.out
        obtain ⟨HM, HK, F0, F1, F2, F3, F4, F5, F6, F7, F8, F9, F10, F11, F12, F13, F14⟩ := HI
        have hsz := HK.size
        clear HM HK F0 F1 F2 F3 F4 F5 F6 F7 F8 F9 F10 F11 F12 F13 F14
        refine wpOp_law rfl rfl (fun K hK => ?_)
        simp only [List.getElem_toArray, List.getElem_cons_succ, List.getElem_cons_zero]
        refine wp_make_ints _ _ rfl 3 rfl rfl (by omega) w2.heap.size hsz ?_
        intro wz oz kz
        simp only [Act.put, List.setIfInBounds_toArray, List.set_cons_zero, List.set_cons_succ]
        refine hK.out _ _ ?_
        obtain ⟨HM, HK, F0, F1, F2, F3, F4, F5, F6, F7, F8, F9, F10, F11, F12, F13, F14⟩ := HJ.out
        exact ⟨updB B 2, upd R 2 (ivR [0, 0, 0] _), bs, N, D, _, _, _, _, _, _, _, _, _, _, _, _, _, rfl, rfl, Lib.hid ⟨HM.add hbi kz oz (fun b hb => new_ge hb), HK.trans kz, F0, F1, (fun _ => ⟨⟨_, rfl⟩, rfl⟩), F3, F4, F5, F6, F7, F8, F9, F10, (fun q => absurd (F11 q).1.2.1 (by rw [hbi]; simp)), F12, F13, (fun q => absurd (F11 (F13 q).1).1.2.1 (by rw [hbi]; simp))⟩⟩
      ·
        have hbi : B 3 = false := by simpa using (ready_use hi).2.1
        have HI := HJ.out
        obtain ⟨HM, HK, F0, F1, F2, F3, F4, F5, F6, F7, F8, F9, F10, F11, F12, F13, F14⟩ := HI
        have hsz := HK.size
        clear HM HK F0 F1 F2 F3 F4 F5 F6 F7 F8 F9 F10 F11 F12 F13 F14
        refine wpOp_law rfl rfl (fun K hK => ?_)
        simp only [List.getElem_toArray, List.getElem_cons_succ, List.getElem_cons_zero]
        go_simp
        refine hK.out _ _ ?_
        obtain ⟨HM, HK, F0, F1, F2, F3, F4, F5, F6, F7, F8, F9, F10, F11, F12, F13, F14⟩ := HJ.out
        exact ⟨updB B 3, _, bs, N, D, _, _, _, _, _, _, _, _, _, _, _, _, _, rfl, rfl, Lib.hid ⟨HM.add hbi ((Keep.refl w3).alloc _) (own_lit w3 hsz 2 #[.int .i64 0, .int .i64 1, .int .i64 2] (by unfold maxLen; simp)) (fun b hb => new_ge hb), HK.alloc _, F0, F1, F2, (fun _ => ⟨⟨_, rfl⟩, rfl⟩), F4, F5, F6, F7, F8, F9, F10, (fun q => absurd (F11 q).1.2.2.1 (by rw [hbi]; simp)), F12, F13, (fun q => absurd (F11 (F13 q).1).1.2.2.1 (by rw [hbi]; simp))⟩⟩
      ·
        have hbi : B 4 = false := by simpa using (ready_use hi).2.1
        have HI := HJ.out
        obtain ⟨HM, HK, F0, F1, F2, F3, F4, F5, F6, F7, F8, F9, F10, F11, F12, F13, F14⟩ := HI
        have hsz := HK.size
        clear HM HK F0 F1 F2 F3 F4 F5 F6 F7 F8 F9 F10 F11 F12 F13 F14
        refine wpOp_law rfl rfl (fun K hK => ?_)
        simp only [List.getElem_toArray, List.getElem_cons_succ, List.getElem_cons_zero]
        go_simp
        refine hK.out _ _ ?_
        obtain ⟨HM, HK, F0, F1, F2, F3, F4, F5, F6, F7, F8, F9, F10, F11, F12, F13, F14⟩ := HJ.out
        exact ⟨updB B 4, R, bs, N, D, _, _, _, _, _, _, _, _, _, _, _, _, _, rfl, rfl, Lib.hid ⟨HM.pass (by decide), HK, F0, F1, F2, F3, (fun _ => rfl), F5, F6, F7, F8, F9, F10, F11, F12, F13, F14⟩⟩
      ·
        have hbi : B 5 = false := by simpa using (ready_use hi).2.1
        have hdp := (ready_use hi).2.2 _ rfl
        simp [Region.binds] at hdp
        have HI := HJ.out
        obtain ⟨HM, HK, F0, F1, F2, F3, F4, F5, F6, F7, F8, F9, F10, F11, F12, F13, F14⟩ := HI
        have hsz := HK.size
        have Ex := Lib.hid (F4 hdp)
        rw [Ex.out]
        clear HM HK F0 F1 F2 F3 F4 F5 F6 F7 F8 F9 F10 F11 F12 F13 F14
        refine wpOp_law rfl rfl (fun K hK => ?_)
        simp only [List.getElem_toArray, List.getElem_cons_succ, List.getElem_cons_zero]
        go_simp
        refine hK.out _ _ ?_
        obtain ⟨HM, HK, F0, F1, F2, F3, F4, F5, F6, F7, F8, F9, F10, F11, F12, F13, F14⟩ := HJ.out
        have ex := Ex.out
        subst ex
        exact ⟨updB B 5, R, bs, N, D, _, _, _, _, _, _, _, _, _, _, _, _, _, rfl, rfl, Lib.hid ⟨HM.pass (by decide), HK, F0, F1, F2, F3, F4, (fun _ => rfl), F6, F7, F8, F9, F10, F11, F12, F13, F14⟩⟩
      ·
        have hbi : B 6 = false := by simpa using (ready_use hi).2.1
        have hdp := (ready_use hi).2.2 _ rfl
        simp [Region.binds] at hdp
        have HI := HJ.out
        obtain ⟨HM, HK, F0, F1, F2, F3, F4, F5, F6, F7, F8, F9, F10, F11, F12, F13, F14⟩ := HI
        have hsz := HK.size
        have Ex := Lib.hid (F5 hdp)
        rw [Ex.out]
        clear HM HK F0 F1 F2 F3 F4 F5 F6 F7 F8 F9 F10 F11 F12 F13 F14
        refine wpOp_law rfl rfl (fun K hK => ?_)
        simp only [List.getElem_toArray, List.getElem_cons_succ, List.getElem_cons_zero]
        refine wp_make_ints _ _ rfl dss.length rfl rfl (by omega) w2.heap.size hsz ?_
        intro wz oz kz
        simp only [Act.put, List.setIfInBounds_toArray, List.set_cons_zero, List.set_cons_succ]
        refine hK.out _ _ ?_
        obtain ⟨HM, HK, F0, F1, F2, F3, F4, F5, F6, F7, F8, F9, F10, F11, F12, F13, F14⟩ := HJ.out
        have ex := Ex.out
        subst ex
        exact ⟨updB B 6, upd R 6 (ivR (List.replicate dss.length 0) _), bs, N, D, _, _, _, _, _, _, _, _, _, _, _, _, _, rfl, rfl, Lib.hid ⟨HM.add hbi kz oz (fun b hb => new_ge hb), HK.trans kz, F0, F1, F2, F3, F4, F5, (fun _ => ⟨⟨_, rfl⟩, rfl⟩), F7, F8, F9, F10, (fun q => absurd (F11 q).1.2.2.2.1 (by rw [hbi]; simp)), F12, F13, (fun q => absurd (F11 (F13 q).1).1.2.2.2.1 (by rw [hbi]; simp))⟩⟩
      ·
        have hbi : B 7 = false := by simpa using (ready_use hi).2.1
        have HI := HJ.out
        obtain ⟨HM, HK, F0, F1, F2, F3, F4, F5, F6, F7, F8, F9, F10, F11, F12, F13, F14⟩ := HI
        have hsz := HK.size
        clear HM HK F0 F1 F2 F3 F4 F5 F6 F7 F8 F9 F10 F11 F12 F13 F14
        refine wpOp_law rfl rfl (fun K hK => ?_)
        simp only [List.getElem_toArray, List.getElem_cons_succ, List.getElem_cons_zero]
        go_simp
        refine hK.out _ _ ?_
        obtain ⟨HM, HK, F0, F1, F2, F3, F4, F5, F6, F7, F8, F9, F10, F11, F12, F13, F14⟩ := HJ.out
        exact ⟨updB B 7, _, bs, N, D, _, _, _, _, _, _, _, _, _, _, _, _, _, rfl, rfl, Lib.hid ⟨HM.add hbi ((Keep.refl w3).alloc _) (own_lit w3 hsz 2 #[.int .i64 0] (by unfold maxLen; simp)) (fun b hb => new_ge hb), HK.alloc _, F0, F1, F2, F3, F4, F5, F6, (fun _ => ⟨⟨_, rfl⟩, rfl⟩), F8, F9, (fun q => absurd (F10 q).1.1 (by rw [hbi]; simp)), F11, F12, F13, F14⟩⟩
      ·
        have hbi : B 8 = false := by simpa using (ready_use hi).2.1
        have HI := HJ.out
        obtain ⟨HM, HK, F0, F1, F2, F3, F4, F5, F6, F7, F8, F9, F10, F11, F12, F13, F14⟩ := HI
        have hsz := HK.size
        clear HM HK F0 F1 F2 F3 F4 F5 F6 F7 F8 F9 F10 F11 F12 F13 F14
        refine wpOp_law rfl rfl (fun K hK => ?_)
        simp only [List.getElem_toArray, List.getElem_cons_succ, List.getElem_cons_zero]
        go_simp
        refine hK.out _ _ ?_
        obtain ⟨HM, HK, F0, F1, F2, F3, F4, F5, F6, F7, F8, F9, F10, F11, F12, F13, F14⟩ := HJ.out
        exact ⟨updB B 8, _, bs, N, D, _, _, _, _, _, _, _, _, _, _, _, _, _, rfl, rfl, Lib.hid ⟨HM.add hbi ((Keep.refl w3).alloc _) (own_lit w3 hsz 2 #[.int .i64 1] (by unfold maxLen; simp)) (fun b hb => new_ge hb), HK.alloc _, F0, F1, F2, F3, F4, F5, F6, F7, (fun _ => ⟨⟨_, rfl⟩, rfl⟩), F9, (fun q => absurd (F10 q).1.2.1 (by rw [hbi]; simp)), F11, F12, F13, F14⟩⟩
      ·
        have hbi : B 9 = false := by simpa using (ready_use hi).2.1
        have HI := HJ.out
        obtain ⟨HM, HK, F0, F1, F2, F3, F4, F5, F6, F7, F8, F9, F10, F11, F12, F13, F14⟩ := HI
        have hsz := HK.size
        clear HM HK F0 F1 F2 F3 F4 F5 F6 F7 F8 F9 F10 F11 F12 F13 F14
        refine wpOp_law rfl rfl (fun K hK => ?_)
        simp only [List.getElem_toArray, List.getElem_cons_succ, List.getElem_cons_zero]
        go_simp
        refine hK.out _ _ ?_
        obtain ⟨HM, HK, F0, F1, F2, F3, F4, F5, F6, F7, F8, F9, F10, F11, F12, F13, F14⟩ := HJ.out
        exact ⟨updB B 9, _, bs, N, D, _, _, _, _, _, _, _, _, _, _, _, _, _, rfl, rfl, Lib.hid ⟨HM.add hbi ((Keep.refl w3).alloc _) (own_lit w3 hsz 2 #[.int .i64 2] (by unfold maxLen; simp)) (fun b hb => new_ge hb), HK.alloc _, F0, F1, F2, F3, F4, F5, F6, F7, F8, (fun _ => ⟨⟨_, rfl⟩, rfl⟩), (fun q => absurd (F10 q).1.2.2 (by rw [hbi]; simp)), F11, F12, F13, F14⟩⟩
      ·
        have hbi : B 10 = false := by simpa using (ready_use hi).2.1
        have hdp := (ready_use hi).2.2 _ rfl
        simp [Region.binds] at hdp
        have HI := HJ.out
        obtain ⟨HM, HK, F0, F1, F2, F3, F4, F5, F6, F7, F8, F9, F10, F11, F12, F13, F14⟩ := HI
        have hsz := HK.size
        obtain ⟨d7, d8, d9⟩ := hdp
        obtain ⟨⟨g7, e7⟩, -⟩ := F7 d7
        have E7 := Lib.hid (e7)
        rw [E7.out]
        clear e7
        obtain ⟨⟨g8, e8⟩, -⟩ := F8 d8
        have E8 := Lib.hid (e8)
        rw [E8.out]
        clear e8
        obtain ⟨⟨g9, e9⟩, -⟩ := F9 d9
        have E9 := Lib.hid (e9)
        rw [E9.out]
        clear e9
        clear HM HK F0 F1 F2 F3 F4 F5 F6 F7 F8 F9 F10 F11 F12 F13 F14
        refine wpOp_law rfl rfl (fun K hK => ?_)
        simp only [List.getElem_toArray, List.getElem_cons_succ, List.getElem_cons_zero]
        go_simp
        refine hK.out _ _ ?_
        obtain ⟨HM, HK, F0, F1, F2, F3, F4, F5, F6, F7, F8, F9, F10, F11, F12, F13, F14⟩ := HJ.out
        have e7 := E7.out
        subst e7
        have e8 := E8.out
        subst e8
        have e9 := E9.out
        subst e9
        exact ⟨updB B 10, _, bs, N, D, _, _, _, _, _, _, _, _, _, _, _, _, _, rfl, rfl, Lib.hid ⟨HM.add hbi ((Keep.refl w3).alloc _) (own_lit w3 hsz 26 #[.slice (some ⟨g7, 0, none⟩) 1 1, .slice (some ⟨g8, 0, none⟩) 1 1, .slice (some ⟨g9, 0, none⟩) 1 1] (by unfold maxLen; simp)) (fun b hb => new_ge hb), HK.alloc _, F0, F1, F2, F3, F4, F5, F6, F7, F8, F9, (fun _ => ⟨⟨d7, d8, d9⟩, ⟨_, rfl⟩, rfl⟩), (fun q => absurd (F11 q).1.2.2.2.2 (by rw [hbi]; simp)), F12, F13, (fun q => absurd (F11 (F13 q).1).1.2.2.2.2 (by rw [hbi]; simp))⟩⟩
      ·
        have hbi : B 11 = false := by simpa using (ready_use hi).2.1
        have hdp := (ready_use hi).2.2 _ rfl
        simp [Region.binds] at hdp
        have HI := HJ.out
        obtain ⟨HM, HK, F0, F1, F2, F3, F4, F5, F6, F7, F8, F9, F10, F11, F12, F13, F14⟩ := HI
        have hsz := HK.size
        obtain ⟨d1, d2, d3, d6, d10⟩ := hdp
        obtain ⟨a1, c1, e1⟩ := F1 d1
        have E1 := Lib.hid (e1)
        rw [E1.out]
        clear e1
        obtain ⟨⟨g2, e2⟩, -⟩ := F2 d2
        have E2 := Lib.hid (e2)
        rw [E2.out]
        clear e2
        obtain ⟨⟨g3, e3⟩, -⟩ := F3 d3
        have E3 := Lib.hid (e3)
        rw [E3.out]
        clear e3
        obtain ⟨⟨g6, e6⟩, -⟩ := F6 d6
        have E6 := Lib.hid (e6)
        rw [E6.out]
        clear e6
        obtain ⟨-, ⟨g10, e10⟩, -⟩ := F10 d10
        have E10 := Lib.hid (e10)
        rw [E10.out]
        clear e10
        clear HM HK F0 F1 F2 F3 F4 F5 F6 F7 F8 F9 F10 F11 F12 F13 F14
        refine wpOp_law rfl rfl (fun K hK => ?_)
        simp only [List.getElem_toArray, List.getElem_cons_succ, List.getElem_cons_zero]
        go_simp
        refine hK.out _ _ ?_
        obtain ⟨HM, HK, F0, F1, F2, F3, F4, F5, F6, F7, F8, F9, F10, F11, F12, F13, F14⟩ := HJ.out
        have e1 := E1.out
        subst e1
        have e2 := E2.out
        subst e2
        have e3 := E3.out
        subst e3
        have e6 := E6.out
        subst e6
        have e10 := E10.out
        subst e10
        exact ⟨updB B 11, R, bs, N, D, _, _, _, _, _, _, _, _, _, _, _, _, _, rfl, rfl, Lib.hid ⟨HM.pass (by decide), HK, F0, F1, F2, F3, F4, F5, F6, F7, F8, F9, F10, (fun _ => ⟨⟨d1, d2, d3, d6, d10⟩, rfl⟩), F12, (fun q => absurd (F13 q).1 (by rw [hbi]; simp)), F14⟩⟩
      ·
        have hbi : B 12 = false := by simpa using (ready_use hi).2.1
        have HI := HJ.out
        obtain ⟨HM, HK, F0, F1, F2, F3, F4, F5, F6, F7, F8, F9, F10, F11, F12, F13, F14⟩ := HI
        have hsz := HK.size
        clear HM HK F0 F1 F2 F3 F4 F5 F6 F7 F8 F9 F10 F11 F12 F13 F14
        refine wpOp_law rfl rfl (fun K hK => ?_)
        simp only [List.getElem_toArray, List.getElem_cons_succ, List.getElem_cons_zero]
        go_simp
        refine hK.out _ _ ?_
        obtain ⟨HM, HK, F0, F1, F2, F3, F4, F5, F6, F7, F8, F9, F10, F11, F12, F13, F14⟩ := HJ.out
        exact ⟨updB B 12, _, bs, N, w3.heap.size, _, _, _, _, _, _, _, _, _, _, _, _, _, rfl, rfl, Lib.hid ⟨HM.add hbi ((Keep.refl w3).alloc _) (box_own w3 hsz) (fun b hb => new_ge hb), HK.alloc _, F0, F1, F2, F3, F4, F5, F6, F7, F8, F9, F10, F11, (fun _ => ⟨rfl, rfl, fun _ => rfl⟩), (fun q => absurd (F13 q).2 (by rw [hbi]; simp)), (fun q => absurd (F13 q).2 (by rw [hbi]; simp))⟩⟩
      ·
        have hbi : B 13 = false := by simpa using (ready_use hi).2.1
        have hdp := (ready_use hi).2.2 _ rfl
        simp [Region.binds] at hdp
        have HI := HJ.out
        obtain ⟨HM, HK, F0, F1, F2, F3, F4, F5, F6, F7, F8, F9, F10, F11, F12, F13, F14⟩ := HI
        have hsz := HK.size
        have d11 : B 11 = true := by exact hdp.2.1
        have d12 : B 12 = true := by exact hdp.1
        obtain ⟨⟨d1, d2, d3, d6, d10⟩, e22⟩ := F11 d11
        obtain ⟨e4, er, ez⟩ := F12 d12
        have o12 := HM.fam.own 12 ⟨by decide, d12⟩
        rw [ez hbi] at o12
        obtain ⟨⟨old, hz, hos⟩, ho⟩ := box_put o12 (v := ⟨x12, x13, x14, nilS, x17, nilS, nilS, x21⟩)
        obtain ⟨a1, c1, e1⟩ := F1 d1
        obtain ⟨⟨g2, e2⟩, -⟩ := F2 d2
        obtain ⟨⟨g3, e3⟩, -⟩ := F3 d3
        obtain ⟨⟨g6, e6⟩, -⟩ := F6 d6
        obtain ⟨-, ⟨g10, e10⟩, -⟩ := F10 d10
        have hone : (BV.arr ⟨x12, x13, x14, nilS, x17, nilS, nilS, x21⟩).all (·.oneCell') = true := by rw [e1, e2, e3, e6, e10]; simp [Value.oneCell']
        clear e1 e2 e3 e6 e10
        have Ep := Lib.hid (e22)
        rw [Ep.out]
        have Eq := Lib.hid (e4)
        rw [Eq.out]
        clear e22 e4
        clear HM HK F0 F1 F2 F3 F4 F5 F6 F7 F8 F9 F10 F11 F12 F13 F14
        refine wpOp_law rfl rfl (fun K hK => ?_)
        simp only [List.getElem_toArray, List.getElem_cons_succ, List.getElem_cons_zero]
        refine wp_store_row 30 _ _ rfl D _ rfl rfl 30 old hz board_info hos hone ?_
        refine hK.out _ _ ?_
        obtain ⟨HM, HK, F0, F1, F2, F3, F4, F5, F6, F7, F8, F9, F10, F11, F12, F13, F14⟩ := HJ.out
        have ep := Ep.out
        subst ep
        have eq := Eq.out
        subst eq
        exact ⟨updB B 13, _, bs, N, D, _, _, _, _, _, _, _, _, _, _, _, _, _, rfl, rfl, Lib.hid ⟨HM.turn (by decide) ⟨by decide, d12⟩ (r := bdR D ⟨x12, x13, x14, nilS, x17, nilS, nilS, x21⟩) (by rw [er]; exact grown_row3 _ _ _) (by rw [er]) ho, HK.grown (grown_row3 _ D _) (fun b hb => by have := (HM.fam.lt ⟨by decide, d12⟩ D (by rw [er]; rfl)).1; have := Option.some.inj hb; omega), F0, F1, F2, F3, F4, F5, F6, F7, F8, F9, F10, F11, (fun _ => ⟨rfl, rfl, fun q => by cases q⟩), (fun _ => ⟨d11, d12⟩), (fun _ => rfl)⟩⟩
    · rintro listed a w3 ⟨B, R, bs, N, D, x4, x11, x12, x13, x14, x15, x16, x17, x18, x19, x20, x21, x22, rfl, rfl, HJ⟩ hr
      have b0 : B 0 = true := by simpa using ready_none hr 0 _ rfl (by simp [Region.binds])
      have b1 : B 1 = true := by simpa using ready_none hr 1 _ rfl (by simp [Region.binds, b0])
      have b2 : B 2 = true := by simpa using ready_none hr 2 _ rfl (by simp [Region.binds])
      have b3 : B 3 = true := by simpa using ready_none hr 3 _ rfl (by simp [Region.binds])
      have b4 : B 4 = true := by simpa using ready_none hr 4 _ rfl (by simp [Region.binds])
      have b5 : B 5 = true := by simpa using ready_none hr 5 _ rfl (by simp [Region.binds, b4])
      have b6 : B 6 = true := by simpa using ready_none hr 6 _ rfl (by simp [Region.binds, b5])
      have b7 : B 7 = true := by simpa using ready_none hr 7 _ rfl (by simp [Region.binds])
      have b8 : B 8 = true := by simpa using ready_none hr 8 _ rfl (by simp [Region.binds])
      have b9 : B 9 = true := by simpa using ready_none hr 9 _ rfl (by simp [Region.binds])
      have b10 : B 10 = true := by simpa using ready_none hr 10 _ rfl (by simp [Region.binds, b7, b8, b9])
      have b11 : B 11 = true := by simpa using ready_none hr 11 _ rfl (by simp [Region.binds, b1, b2, b3, b6, b10])
      have b12 : B 12 = true := by simpa using ready_none hr 12 _ rfl (by simp [Region.binds])
      have b13 : B 13 = true := by simpa using ready_none hr 13 _ rfl (by simp [Region.binds, b0, b1, b2, b3, b4, b5, b6, b7, b8, b9, b10, b11, b12])
      obtain ⟨HM, HK, F0, F1, F2, F3, F4, F5, F6, F7, F8, F9, F10, F11, F12, F13, F14⟩ := HJ.out
      clear HJ hr
      have HB := nb_own (n := dss.length) (by rw [b1] at HM; exact HM) b2 b3 b6 b7 b8 b9 b10 b12 (F2 b2).2 (F3 b3).2 (F6 b6).2 (F7 b7).2 (F8 b8).2 (F9 b9).2 (F10 b10).2.2 (F14 b13)
      have HW := ((by rw [b1] at HM; exact HM) : Mk w3 w2.heap.size _ R true x12 bs N dss).work rfl
      have e4 := (F12 b12).1
      clear HM F0 F1 F2 F3 F4 F5 F6 F7 F8 F9 F10 F11 F12 F13 F14
      subst e4
      go_wp2
      go_meet
      case rel => exact ⟨D, _, _, bs, N, rfl, HB, HW.2.2, HK⟩
  case rest =>
    obtain ⟨D, bv, rv, bs, N, rfl, H, hbs, kc⟩ := hcut
    have hRc := (Below.block kc w.heap.size (by omega)).trans hR2
    obtain ⟨j0, hj, hy0, hy1, hy2⟩ := info_parts Tryz.infoNl
    obtain ⟨i0, hi, hz0, hz1, hz2⟩ := info_parts Tryz.infoI
    have rs12 : rs.length ≤ 12 := by
      rw [← HRS.out]
      unfold idxB
      rw [if_pos (by omega)]
      have := idxK_len rdE es es.length
      omega
    go_wp2
    go_loopw [5] (fun i wr => ∃ (k : Nat) (bv' : BV) (nv' : List Value), k ≤ dss.length ∧ i = .int .i64 k ∧ OwnBd wr w2.heap.size D bv' nv' rv bs N dss { nb0 dss.length with nts := List.replicate k [] } ∧ Keep w2 wr) (fun i _ => dss.length - (intOf i).toNat)
    case atStart => exact ⟨0, bv, [], Nat.zero_le _, rfl, H, kc⟩
    case round =>
      obtain ⟨k, bv', nv', hk, rfl, Hr, kr⟩ := hrel
      clear H kc hRc
      by_cases hlt : k < dss.length
      · obtain ⟨aN, cN', eN, -⟩ := Hr.hN
        simp only [List.length_replicate] at eN
        have d3 := Hr.cells.2.2.2.1
        have hln : nv'.length = k := by have := Hr.ln; simpa using this
        have HR0 : wr.ownsRow w2.heap.size 42 1 (.slice aN k cN') k nv' := by
          have o : wr.ownsRow w2.heap.size 42 1 bv'.N nv'.length nv' := Hr.fam.own .nts trivial
          rw [eN, hln] at o
          exact o
        rw [eN] at d3
        have hbase := Hr.base
        have sr := kr.size
        have oA : AppT cN 44 3 (wr.alloc (.cells #[] 44)) w2.heap.size (.slice (some ⟨wr.heap.size, 0, none⟩) 0 0) [] := World.ownsRow_lit wr #[] 0 sr (by decide) rfl
        have kA : Keep wr (wr.alloc (.cells #[] 44)) := (Keep.refl wr).alloc _
        have kA2 : Keep (wr.alloc (.cells #[] 44)) ((wr.alloc (.cells #[] 44)).alloc (.cells #[.slice (some ⟨wr.heap.size, 0, none⟩) 0 0] 42)) := (Keep.refl _).alloc _
        have kB := kA.trans kA2
        have oB : AppT cN 44 3 ((wr.alloc (.cells #[] 44)).alloc (.cells #[.slice (some ⟨wr.heap.size, 0, none⟩) 0 0] 42)) w2.heap.size (.slice (some ⟨wr.heap.size, 0, none⟩) 0 0) [] := World.ownsRow.kept oA kA2.grownBy (.inr (by simp [Value.ownBlock]))
        have HR := World.ownsRow.kept HR0 kB.grownBy (by cases (Value.slice aN k cN').ownBlock <;> simp)
        have HH := Lib.hid Hr
        have HoB := Lib.hid oB
        have HkB := Lib.hid kB
        have HeN := Lib.hid eN
        have Hln := Lib.hid hln
        have fD := Hr.free 3
        have dB : ((wr.alloc (.cells #[] 44)).alloc (.cells #[.slice (some ⟨wr.heap.size, 0, none⟩) 0 0] 42)).heap.size = wr.heap.size + 1 + 1 := by rw [heap_size, heap_size]
        have HdB := Lib.hid dB
        clear Hr oA kA kA2 kB oB HR0 eN hln dB
        go_wp2_with (at_builtin; refine wpList_append_own_at _ rfl _ _ 27 rfl w2.heap.size 42 j0 (.slice none 0 0) 1 24 Tryz.underlying27 hj hy0 hy1 hy2 rfl (by decide) _ _ _ rfl HR ⟨_, 0, none⟩ 1 1 [.slice (some ⟨wr.heap.size, 0, none⟩) 0 0] rfl rfl ?e1 ?e2 ?e3 ?e4 ?e5 ?_)
        case e2 => rfl
        case e3 => unfold maxLen; omega
        case e4 => omega
        case e5 => omega
        intro v' w7 hown7 hgrow7 _ hblk7
        have ho7 : (hdR 42 (nv' ++ [Value.slice (some ⟨wr.heap.size, 0, none⟩) 0 0]) v').own w7 w2.heap.size := by
          show w7.ownsRow w2.heap.size 42 1 v' (nv' ++ [Value.slice (some ⟨wr.heap.size, 0, none⟩) 0 0]).length (nv' ++ [Value.slice (some ⟨wr.heap.size, 0, none⟩) 0 0])
          rw [List.length_append, Hln.out]
          exact hown7
        obtain ⟨H8, c8, f8⟩ := HH.out.pushN HkB.out (fun q hq => new_ge hq) HoB.out (by rw [HeN.out]; exact hgrow7) (by rw [HeN.out]; rcases hblk7 with e | e; exact .inl e; exact .inr (.inl (by rw [HdB.out]; exact e))) ho7
        have K7 : Keep w2 w7 := (kr.trans HkB.out).grown hgrow7 (fun q hq => (World.ownsRow.lt HR q hq).1)
        have K8 : Keep w2 (w7.setCell ⟨D, 3, none⟩ v') := K7.grown (grown_set w7 D 3 v') (fun q hq => by have := Option.some.inj hq; omega)
        obtain ⟨a8, c8', e8, -⟩ := own_head ho7
        have H9 : OwnBd (w7.setCell ⟨D, 3, none⟩ v') w2.heap.size D { bv' with N := v' } (nv' ++ [Value.slice (some ⟨wr.heap.size, 0, none⟩) 0 0]) rv bs N dss { nb0 dss.length with nts := List.replicate (k + 1) [] } := by
          rw [List.replicate_succ']; exact H8
        have HH9 := Lib.hid H9
        have HK8 := Lib.hid K8
        clear H8 H9 K8 K7 hown7 hgrow7 hblk7 HR ho7 fD
        replace e8 : v' = .slice a8 (k + 1) c8' := by rw [e8, List.length_append, Hln.out]; rfl
        subst e8
        go_wp2
        go_roundw
        case rel => exact ⟨k + 1, _, _, by omega, by go_num, HH9.out, HK8.out⟩
        case measure => simp [intOf]; omega
      · obtain rfl : k = dss.length := by omega
        clear hlt hk
        go_wp2
        go_loopw [6] (fun i wq => ∃ (k : Nat) (bv' : BV), k ≤ rs.length ∧ i = .int .i64 k ∧ OwnBd wq w2.heap.size D bv' nv' rv bs N dss { nb0 dss.length with nts := List.replicate dss.length [], sn := List.replicate k (-1), fr := List.replicate k (-1) } ∧ Keep w2 wq) (fun i _ => rs.length - (intOf i).toNat)
        case atStart => exact ⟨0, bv', Nat.zero_le _, rfl, Hr, kr⟩
        case round =>
          clear Hr kr
          obtain ⟨k, bv', hk, rfl, Hr, kr⟩ := hrel
          by_cases hlt : k < rs.length
          · have oS := Hr.oS
            obtain ⟨aS, cS, eS, -⟩ := oS.rd
            simp only [List.length_replicate] at eS
            have d5 := Hr.cells.2.2.2.2.2.1
            have d6 := Hr.cells.2.2.2.2.2.2.1
            have oF := Hr.oF
            obtain ⟨aF, cF, eF, -⟩ := oF.rd
            simp only [List.length_replicate] at eF
            have f5 := Hr.free 5
            have hbase := Hr.base
            have sr := kr.size
            have HS0 : wr.ownsRow w2.heap.size 2 1 (.slice aS k cS) k ((List.replicate k (-1 : Int)).map (Value.int .i64)) := by
              have o : wr.ownsRow w2.heap.size 2 1 bv'.S (List.replicate k (-1 : Int)).length ((List.replicate k (-1 : Int)).map (Value.int .i64)) := oS
              rw [eS, List.length_replicate] at o
              exact o
            have kA : Keep wr (wr.alloc (.cells #[.int .i64 (-1)] 2)) := (Keep.refl wr).alloc _
            have HS := World.ownsRow.kept HS0 kA.grownBy (by cases (Value.slice aS k cS).ownBlock <;> simp)
            rw [eS] at d5
            have HH := Lib.hid Hr
            have HkA := Lib.hid kA
            have HeS := Lib.hid eS
            have HeF := Lib.hid eF
            clear Hr kA HS0 eS eF oS oF d6
            go_wp2_with (at_builtin; refine wpList_append_own_at _ rfl _ _ 26 rfl w2.heap.size 2 i0 (.int .i64 0) 1 8 Tryz.underlying26 hi hz0 hz1 hz2 rfl (by decide) _ _ _ rfl HS ⟨_, 0, none⟩ 1 1 [.int .i64 (-1)] rfl rfl ?b1 ?b2 ?b3 ?b4 ?b5 ?_)
            case b2 => rfl
            case b3 => unfold maxLen; omega
            case b4 => omega
            case b5 => omega
            intro v' w7 hown7 hgrow7 _ hblk7
            have ho7 : Own w7 w2.heap.size v' (List.replicate (k + 1) (-1)) := by
              unfold Own
              rw [List.replicate_succ']
              simpa using hown7
            have kw : OwnBd (wr.alloc (.cells #[.int .i64 (-1)] 2)) w2.heap.size D bv' nv' rv bs N dss _ := HH.out.keep HkA.out
            obtain ⟨H8, c8, f8⟩ := kw.growS (by rw [HeS.out]; exact hgrow7) (by rw [HeS.out]; rcases hblk7 with e | e; exact .inl e; exact .inr (.inl (by rw [heap_size]; exact e))) ho7
            have K7 : Keep w2 w7 := (kr.trans HkA.out).grown hgrow7 (fun q hq => (World.ownsRow.lt HS q hq).1)
            have K8 : Keep w2 (w7.setCell ⟨D, 5, none⟩ v') := K7.grown (grown_set w7 D 5 v') (fun q hq => by have := Option.some.inj hq; omega)
            obtain ⟨a8, c8', e8, -⟩ := ho7.rd
            rw [List.length_replicate] at e8
            clear hown7 hgrow7 hblk7 HS ho7 f5 d5 HH HkA kw HeS kr K7
            subst e8
            obtain ⟨wS, hwS⟩ : ∃ W : World, W = w7.setCell ⟨D, 5, none⟩ (.slice a8 (k + 1) c8') := ⟨_, rfl⟩
            rw [← hwS] at H8 K8
            have HwS := Lib.hid hwS
            clear hwS
            have d6 := H8.cells.2.2.2.2.2.2.1
            have f6 := H8.free 6
            have oF := H8.oF
            have HF0 : wS.ownsRow w2.heap.size 2 1 (.slice aF k cF) k ((List.replicate k (-1 : Int)).map (Value.int .i64)) := by
              have o : wS.ownsRow w2.heap.size 2 1 bv'.F (List.replicate k (-1 : Int)).length ((List.replicate k (-1 : Int)).map (Value.int .i64)) := oF
              rw [HeF.out, List.length_replicate] at o
              exact o
            have kA : Keep wS (wS.alloc (.cells #[.int .i64 (-1)] 2)) := (Keep.refl wS).alloc _
            have HF := World.ownsRow.kept HF0 kA.grownBy (by cases (Value.slice aF k cF).ownBlock <;> simp)
            have sr := K8.size
            simp only [HeF.out] at d6
            have HH := Lib.hid H8
            have HkA := Lib.hid kA
            clear H8 kA HF0 oF
            go_upto_region 11 with fail
            rw [← HwS.out]
            clear c8 f8 HwS
            go_wp2_with (at_builtin; refine wpList_append_own_at _ rfl _ _ 26 rfl w2.heap.size 2 i0 (.int .i64 0) 1 8 Tryz.underlying26 hi hz0 hz1 hz2 rfl (by decide) _ _ _ rfl HF ⟨_, 0, none⟩ 1 1 [.int .i64 (-1)] rfl rfl ?g1 ?g2 ?g3 ?g4 ?g5 ?_)
            case g2 => rfl
            case g3 => unfold maxLen; omega
            case g4 => omega
            case g5 => omega
            intro v9 w9 hown9 hgrow9 _ hblk9
            have ho9 : Own w9 w2.heap.size v9 (List.replicate (k + 1) (-1)) := by
              unfold Own
              rw [List.replicate_succ']
              simpa using hown9
            have kw : OwnBd (wS.alloc (.cells #[.int .i64 (-1)] 2)) w2.heap.size D _ nv' rv bs N dss _ := HH.out.keep HkA.out
            obtain ⟨H9, c9, f9⟩ := kw.growF (by simp only [HeF.out]; exact hgrow9) (by simp only [HeF.out]; rcases hblk9 with e | e; exact .inl e; exact .inr (.inl (by rw [heap_size]; exact e))) ho9
            have K9 : Keep w2 w9 := (K8.trans HkA.out).grown hgrow9 (fun q hq => (World.ownsRow.lt HF q hq).1)
            have K10 : Keep w2 (w9.setCell ⟨D, 6, none⟩ v9) := K9.grown (grown_set w9 D 6 v9) (fun q hq => by have := Option.some.inj hq; omega)
            obtain ⟨a9, c9', e9, -⟩ := ho9.rd
            rw [List.length_replicate] at e9
            have HH9 := Lib.hid H9
            have HK9 := Lib.hid K10
            clear hown9 hgrow9 hblk9 HF ho9 f6 d6 HH HkA kw K9 K10 H9
            subst e9
            go_wp2
            go_roundw
            case rel => exact ⟨k + 1, _, by omega, by go_num, HH9.out, HK9.out⟩
            case measure => simp [intOf]; omega
          · obtain rfl : k = rs.length := by omega
            have hRw := (Below.block kr w.heap.size (by omega)).trans hR2
            have HNM : Hid (newM dss = { nb0 dss.length with nts := List.replicate dss.length [], sn := List.replicate rs.length (-1), fr := List.replicate rs.length (-1) }) := Lib.hid (by unfold newM nb0; rw [hes, HRS.out])
            have Hn : OwnBd wr w2.heap.size D bv' nv' rv bs N dss (newM dss) := by rw [HNM.out]; exact Hr
            have hM : w2.heap.size ≤ bs := hbs
            clear Hr HNM hk
            generalize hNM : newM dss = nb at *
            have HNM := Lib.hid hNM
            clear hNM
            have hDw := Hn.heapD
            obtain ⟨aW, aP, aL, aN, aX, aT, aF, aR, cW, cP, cL, cN', cX, cT, cF, cR, rfl⟩ := Hn.rd.shapes
            simp only [BV.arr] at hDw
            have HK := Lib.hid (K2.trans kr)
            have HG := Lib.hid (grown_row3 wr w.heap.size #[.slice aW dss.length cW, .slice aP nb.plc.length cP, .slice aL nb.lst.length cL, .slice aN nb.nts.length cN', .slice aX nb.nxt.length cX, .slice aT nb.sn.length cT, .slice aF nb.fr.length cF, .slice aR nb.rws.length cR])
            have HZ := Lib.hid (setRow_heap wr w.heap.size _ #[.slice aW dss.length cW, .slice aP nb.plc.length cP, .slice aL nb.lst.length cL, .slice aN nb.nts.length cN', .slice aX nb.nxt.length cX, .slice aT nb.sn.length cT, .slice aF nb.fr.length cF, .slice aR nb.rws.length cR] _ _ hRw)
            have hNot : ∀ q, some w.heap.size = some q → q < w2.heap.size ∧ (q < bs ∨ N ≤ q) := fun q hq => by have := Option.some.inj hq; omega
            have HO := Lib.hid (((Hn.far HG.out hNot).val).base_le (show w.heap.size ≤ w2.heap.size by omega))
            go_wp2_with (first | refine wpList_load_row rfl 30 _ rfl D rfl 30 _ (0, 0) _ hDw Tryz.underlying30 rfl board_info ?_ | refine wpList_store_row rfl 30 _ _ rfl w.heap.size _ rfl rfl 30 _ hRw board_info rfl (by simp [Value.oneCell']) ?_)
            refine bodyPost_ret (results_row (by rfl) _ _ w.heap.size _ _ (0, 0) _ rfl HZ.out Tryz.underlying30 rfl board_info) rfl ?_
            exact ⟨⟨.slice aW dss.length cW, .slice aP nb.plc.length cP, .slice aL nb.lst.length cL, .slice aN nb.nts.length cN', .slice aX nb.nxt.length cX, .slice aT nb.sn.length cT, .slice aF nb.fr.length cF, .slice aR nb.rws.length cR⟩, nv', rv, bs, N, rfl, by rw [HNM.out]; exact HO.out, by omega, HK.out.grown HG.out (fun q hq => by have := Option.some.inj hq; omega)⟩
theorem take_more {α : Type} (l : List α) (k : Nat) (z : α) (h : k < l.length) : l.take (k + 1) = l.take k ++ [l.getD k z] := by
  rw [List.take_add_one, List.getElem?_eq_getElem h, List.getD_eq_getElem?_getD, List.getElem?_eq_getElem h]
  rfl
theorem all_more {α : Type} {f : α → Bool} {l : List α} {k : Nat} (z : α) (h : k < l.length) (h1 : (l.take k).all f = true) (h2 : f (l.getD k z) = true) : (l.take (k + 1)).all f = true := by
  rw [take_more l k z h, List.all_append, h1]
  rw [List.all_cons, h2]; rfl
theorem lenW_more (d : List Dd) : ∀ l : List (List Dd), lenW (l ++ [d]) = lenW l + d.length
  | [] => by simp [lenW]
  | x :: r => by rw [List.cons_append, lenW, lenW, lenW_more d r]; omega
theorem workB_off {dss : List (List Dd)} {k : Nat} (hk : k < dss.length) (h : okL (dss.getD k []) = false) : workB dss = false := by
  rw [workB, all_not [] k hk h]; simp
theorem specWorkOk_any (w : World) (v : Value) (dss : List (List Dd)) (h : RdW w v dss) (hx : dss.length ≤ 1048576) (hm : ∀ i, i < dss.length → (dss.getD i []).length ≤ 1048576) :
    Calls Tryz.prog 46 #[v] w fun e w' => e = .returned (.bool (workB dss)) ∧ Keep w w' := by
  have RW := h
  obtain ⟨a, c, rfl, h⟩ := h
  cases hb : inB (dss.length : Int) 1 3
  · have HE : Hid (workB dss = false) := by
      refine Lib.hid ?_
      simp [inB] at hb
      rw [workB, decide_eq_false (by omega)]
      rfl
    go_enter Tryz.func46, Tryz.ntmps46
    go_wp2_with (go_at_call 58; refine (l1In_any _ _ _ _).mono ?_; rintro e w' ⟨rfl, rfl⟩)
    go_ret
    exact ⟨by rw [HE.out]; rfl, Keep.refl _⟩
  · have h13 : 1 ≤ dss.length ∧ dss.length ≤ 3 := by simp [inB] at hb; omega
    have HIN := Lib.hid h13
    have h3 := h13.2
    clear h13
    go_enter Tryz.func46, Tryz.ntmps46
    go_wp2_with (go_at_call 58; refine (l1In_any _ _ _ _).mono ?_; rintro e w' ⟨rfl, rfl⟩)
    clear hb
    go_loopw [3, 4] (fun n i wr => ∃ k m : Nat, k ≤ dss.length ∧ n = .int .i64 m ∧ i = .int .i64 k ∧ Hid (m = lenW (dss.take k) ∧ (dss.take k).all okL = true) ∧ m ≤ 5 * k ∧ Keep w' wr) (fun _ i _ => dss.length - (intOf i).toNat)
    case atStart => exact ⟨0, 0, Nat.zero_le _, rfl, rfl, Lib.hid (by simp [lenW]), by omega, Keep.refl _⟩
    case round =>
      obtain ⟨k, m, hk, rfl, rfl, hM, m5, hK⟩ := hrel
      by_cases hlt : k < dss.length
      · rcases h with h | ⟨b, o, rfl, hb, hc⟩
        · exfalso; rw [h] at hlt; simp at hlt
        obtain ⟨u, e1, r1⟩ := hc k hlt
        have hmk := hm k hlt
        clear hc hm RW
        obtain ⟨ds, hds⟩ : ∃ ds, ds = dss.getD k [] := ⟨_, rfl⟩
        have HDS := Lib.hid hds
        rw [← hds] at r1 hmk
        clear hds
        obtain ⟨ai, ci, rfl, r1⟩ := r1
        have d1 := (hK.cell hb).trans e1
        have i1 : (0 : Int) ≤ (k : Int) := Int.natCast_nonneg _
        have i2 : (k : Int) < (dss.length : Int) := by omega
        go_wp2
        go_loopw [5] (fun i wq => ∃ q : Nat, q ≤ ds.length ∧ i = .int .i64 q ∧ Hid ((ds.take q).all okD = true) ∧ Keep w' wq) (fun i _ => ds.length - (intOf i).toNat)
        case atStart => exact ⟨0, Nat.zero_le _, rfl, Lib.hid (by simp), hK⟩
        case round =>
          obtain ⟨q, hq, rfl, hQ, hL⟩ := hrel
          have d1 := (hL.cell hb).trans e1
          by_cases hlq : q < ds.length
          · rcases r1 with h | ⟨b2, o2, rfl, hb2, hc2⟩
            · exfalso; rw [h] at hlq; simp at hlq
            have AT := (hc2 q hlq).keep hb2 hL
            clear hc2
            have hbq : b < wr.heap.size := Nat.lt_of_lt_of_le hb hL.size
            have hb3 : b2 < wr.heap.size := Nat.lt_of_lt_of_le hb2 hL.size
            have j1 : (0 : Int) ≤ (q : Int) := Int.natCast_nonneg _
            have j2 : (q : Int) < (ds.length : Int) := by omega
            have HT : okD (ds.getD q zD) = true → Hid ((ds.take (q + 1)).all okD = true) := fun e => Lib.hid (all_more zD hlq hQ.out e)
            have HF : okD (ds.getD q zD) = false → Hid (workB dss = false) := fun e => Lib.hid (workB_off hlt (by rw [← HDS.out, okL, all_not zD q hlq e]; rfl))
            clear hQ
            obtain ⟨d, hd⟩ : ∃ d, d = ds.getD q zD := ⟨_, rfl⟩
            rw [← hd] at AT HT HF
            clear hd
            obtain ⟨x0, x1, x2, x3⟩ := d
            obtain ⟨A0, A1, A2, A3⟩ := AT
            simp only at A0 A1 A2 A3
            unfold okD at HT HF
            simp only at HT HF
            cases hd : deedB x0 x1 x2 x3
            · have HE := HF hd
              clear HT HF
              go_wp2_with fail
              refine (specDeedOk_any _ _ _ _ _).mono ?_
              rintro e wz ⟨rfl, kk⟩
              go_wp2
              go_ret
              exact ⟨by rw [HE.out]; rfl, hL.trans kk⟩
            · have HE := HT hd
              clear HT HF
              go_wp2_with fail
              refine (specDeedOk_any _ _ _ _ _).mono ?_
              rintro e wz ⟨rfl, kk⟩
              go_wp2
              go_roundw
              case rel => exact ⟨q + 1, by omega, by go_num, HE, hL.trans kk⟩
              case measure => simp [intOf]; omega
          · obtain rfl : q = ds.length := by omega
            rw [List.take_length] at hQ
            by_cases h5 : ds.length ≤ 5
            · have HE : Hid (m + ds.length = lenW (dss.take (k + 1)) ∧ (dss.take (k + 1)).all okL = true) := by
                refine Lib.hid ⟨?_, all_more [] hlt hM.out.2 (by rw [← HDS.out, okL, hQ.out]; simp [h5])⟩
                rw [take_more dss k [] hlt, lenW_more, ← HDS.out, hM.out.1]
              go_wp2
              go_roundw
              case rel => exact ⟨k + 1, m + ds.length, by omega, by go_num, by go_num, HE, by omega, hL⟩
              case measure => simp [intOf]; omega
            · have HE : Hid (workB dss = false) := Lib.hid (workB_off hlt (by rw [← HDS.out, okL]; simp; omega))
              go_wp2
              go_ret
              exact ⟨by rw [HE.out]; rfl, hL⟩
      · obtain rfl : k = dss.length := by omega
        rw [List.take_length] at hM
        have OKS : ∀ i, i < dss.length → okL (dss.getD i []) = true := fun i hi => all_get [] hM.out.2 i hi
        have HW : Hid (workB dss = (decide (m ≤ 12) && decide (evW dss dss.length ≤ 6) && grpB dss)) := by
          refine Lib.hid ?_
          rw [workB, decide_eq_true HIN.out, hM.out.2, hM.out.1]
          rfl
        have rw1 := RW.keep hK
        clear hM RW h hm
        by_cases h12 : m ≤ 12
        · have e12 : decide ((m : Int) ≤ 12) = true := by simp; omega
          by_cases h6 : evW dss dss.length ≤ 6
          · have HE : Hid (workB dss = grpB dss) := Lib.hid (by rw [HW.out]; simp [h12, h6])
            go_wp2_with fail
            refine (l5Events_any _ _ _ rw1 h3 OKS).mono ?_
            rintro e wz ⟨rfl, kk⟩
            have rw2 := rw1.keep kk
            go_wp2_with fail
            refine (l5Groups_any _ _ _ rw2 h3 OKS).mono ?_
            rintro e wy ⟨rfl, k2⟩
            go_wp2
            go_ret
            exact ⟨by rw [HE.out]; rfl, (hK.trans kk).trans k2⟩
          · have HE : Hid (workB dss = false) := Lib.hid (by rw [HW.out]; simp [h6])
            go_wp2_with fail
            refine (l5Events_any _ _ _ rw1 h3 OKS).mono ?_
            rintro e wz ⟨rfl, kk⟩
            go_wp2
            go_ret
            exact ⟨by rw [HE.out]; rfl, hK.trans kk⟩
        · have HE : Hid (workB dss = false) := Lib.hid (by rw [HW.out]; simp [h12])
          go_wp2
          go_ret
          exact ⟨by rw [HE.out]; rfl, hK⟩
theorem specNewBoard_right (w : World) (v : Value) (dss : List (List Dd)) (h : RdW w v dss) (hb : workB dss = true) (hx : dss.length ≤ 1048576) (hm : ∀ i, i < dss.length → (dss.getD i []).length ≤ 1048576) :
    Calls Tryz.prog 13 #[v] w fun e w' => ∃ bv nv rv bs N, e = .returned (.tuple #[BV.agg bv, .bool true]) ∧ OwnVal w' w.heap.size bv nv rv bs N dss (newM dss) ∧ w.heap.size ≤ bs ∧ Keep w w' := by
  have C := fun (W : World) (kW : Keep w W) => specWorkOk_any W v dss (h.keep kW) hx hm
  rw [hb] at C
  have CN := fun (W : World) (kW : Keep w W) => l14New_any W v dss (h.keep kW) hb
  generalize hNM : newM dss = nb at CN
  have HNM := Lib.hid hNM
  clear hNM
  go_enter Tryz.func13, Tryz.ntmps13
  go_wp2_with fail
  refine (C _ ((Keep.refl w).alloc _)).mono ?_
  rintro e w1 ⟨rfl, k1⟩
  have hR0 := box_heap k1
  have K1 := ((Keep.refl w).alloc _).trans k1
  have s1 := box_size k1
  clear C k1
  go_wp2_with fail
  refine (CN _ K1).mono ?_
  rintro e w2 ⟨bv, nv, rv, bs, N, rfl, hV, hbs, k2⟩
  have s2 := k2.size
  have hR2 := (Below.block k2 w.heap.size s1).trans hR0
  have K2 := K1.trans k2
  obtain ⟨aW, aP, aL, aN, aX, aT, aF, aR, cW, cP, cL, cQ, cX, cT, cF, cR, rfl⟩ := (hV.box s2).rd.shapes
  have HG := Lib.hid (grown_row3 w2 w.heap.size #[.slice aW dss.length cW, .slice aP nb.plc.length cP, .slice aL nb.lst.length cL, .slice aN nb.nts.length cQ, .slice aX nb.nxt.length cX, .slice aT nb.sn.length cT, .slice aF nb.fr.length cF, .slice aR nb.rws.length cR])
  have HZ := Lib.hid (setRow_heap w2 w.heap.size _ #[.slice aW dss.length cW, .slice aP nb.plc.length cP, .slice aL nb.lst.length cL, .slice aN nb.nts.length cQ, .slice aX nb.nxt.length cX, .slice aT nb.sn.length cT, .slice aF nb.fr.length cF, .slice aR nb.rws.length cR] _ _ hR2)
  have HO := Lib.hid ((hV.far HG.out (fun q hq => by have := Option.some.inj hq; omega)).base_le (show w.heap.size ≤ w1.heap.size by omega))
  have HK := Lib.hid (K2.grown HG.out (fun q hq => by have := Option.some.inj hq; omega))
  have hbs2 : w.heap.size ≤ bs := by omega
  clear hV K2 k2 CN
  go_wp2_with (first | refine wpList_store_row rfl 30 _ _ rfl w.heap.size _ rfl rfl 30 _ hR2 board_info rfl (by simp [Value.oneCell']) ?_ | fail)
  refine bodyPost_ret (results_row_tmp (by rfl) _ _ w.heap.size _ _ (0, 0) _ (.bool true) rfl HZ.out rfl Tryz.underlying30 rfl board_info) rfl ?_
  exact ⟨⟨.slice aW dss.length cW, .slice aP nb.plc.length cP, .slice aL nb.lst.length cL, .slice aN nb.nts.length cQ, .slice aX nb.nxt.length cX, .slice aT nb.sn.length cT, .slice aF nb.fr.length cF, .slice aR nb.rws.length cR⟩, nv, rv, bs, N, rfl, HO.out, hbs2, HK.out⟩
theorem specNewBoard_wrong (w : World) (v : Value) (dss : List (List Dd)) (h : RdW w v dss) (hb : workB dss = false) (hx : dss.length ≤ 1048576) (hm : ∀ i, i < dss.length → (dss.getD i []).length ≤ 1048576) :
    Calls Tryz.prog 13 #[v] w fun e w' => e = .returned (.tuple #[BV.agg bd0, .bool false]) ∧ Keep w w' := by
  have C := fun (W : World) (kW : Keep w W) => specWorkOk_any W v dss (h.keep kW) hx hm
  rw [hb] at C
  go_enter Tryz.func13, Tryz.ntmps13
  go_wp2_with fail
  refine (C _ ((Keep.refl w).alloc _)).mono ?_
  rintro e w1 ⟨rfl, k1⟩
  have hR0 := box_heap k1
  have K1 := ((Keep.refl w).alloc _).trans k1
  have HG := Lib.hid (grown_row3 w1 w.heap.size #[nilS, nilS, nilS, nilS, nilS, nilS, nilS, nilS])
  have HZ := Lib.hid (setRow_heap w1 w.heap.size _ #[nilS, nilS, nilS, nilS, nilS, nilS, nilS, nilS] _ _ hR0)
  have HK := Lib.hid (K1.grown HG.out (fun q hq => by have := Option.some.inj hq; omega))
  clear C k1 K1
  go_wp2_with (first | refine wpList_store_row rfl 30 _ _ rfl w.heap.size _ rfl rfl 30 _ hR0 board_info rfl (by simp [Value.oneCell']) ?_ | fail)
  refine bodyPost_ret (results_row_tmp (by rfl) _ _ w.heap.size _ _ (0, 0) _ (.bool false) rfl HZ.out rfl Tryz.underlying30 rfl board_info) rfl ?_
  exact ⟨rfl, HK.out⟩
theorem sz_board {dss : List (List Dd)} {b : Bd} (hb : boardB dss b = true) : SzBd dss b := by
  obtain ⟨h1, h2, h3, h4, h5, h6, h7, h8, h9, h10⟩ := board_all hb
  obtain ⟨w1, w2⟩ := work_small h1
  exact ⟨by omega, w2, by omega, by omega, by omega, fun i hi => by have := h10 i (by omega); omega, by omega, by omega, by omega, by omega, fun i hi => by have := h9 i (by omega); omega⟩
structure AtR (dss : List (List Dd)) (stps : List Int) (b : Bd) (k : Nat) : Prop where
  run : Run dss b
  eq : runM dss (eventsB dss) (newM dss) stps = b
  len : stps.length = k
  mes : mesM dss b + k ≤ 24
  ln : LN dss b
  nx : ∀ c, 0 ≤ b.nxt.getD c 0
theorem AtR.new {dss : List (List Dd)} (hb : workB dss = true) : AtR dss [] (newM dss) 0 :=
  ⟨Run.new hb, rfl, rfl, (mes_new hb).1, (mes_new hb).2.1, (mes_new hb).2.2⟩
theorem AtR.step {dss : List (List Dd)} (hb : workB dss = true) {stps : List Int} {b : Bd} {k : Nat} (h : AtR dss stps b k) {s : Int} (hs : isB (possM dss b) s = true) : AtR dss (stps ++ [s]) (stepM dss (eventsB dss) b s) (k + 1) := by
  have hm := mes_step hb (es := eventsB dss) h.ln h.nx hs
  refine ⟨h.run.step hb hs, ?_, by simp [h.len], by have := h.mes; have := hm.1; omega, hm.2.1, hm.2.2⟩
  rw [run_app, h.eq]
  show runM dss (eventsB dss) (if isB (possM dss b) s = true then stepM dss (eventsB dss) b s else b) [] = _
  rw [if_pos hs]
  rfl
theorem sum_board {dss : List (List Dd)} {b : Bd} (hb : boardB dss b = true) : SumBd dss b := by
  obtain ⟨h1, h2, h3, h4, h5, h6, h7, h8, h9, h10⟩ := board_all hb
  obtain ⟨w1, w2⟩ := work_small h1
  have hl : lenW dss ≤ 12 := by
    simp only [workB, Bool.and_eq_true, decide_eq_true_eq] at h1
    exact h1.1.1.2
  have key : ∀ {α : Type} (l : List (List α)) (m : Nat), (∀ i, i < l.length → (l.getD i []).length ≤ m) → ∀ k, k ≤ l.length → lenG (l.take k) ≤ k * m := by
    intro α l m h k
    induction k with
    | zero => intro _; simp [lenG]
    | succ k ih =>
      intro hk
      have := ih (by omega)
      have := h k hk
      rw [lenG_take l k hk, Nat.add_mul]
      omega
  have n1 := key b.nts 8 (fun i hi => by have := h10 i (by omega); omega) b.nts.length (Nat.le_refl _)
  have n2 := key b.rws 20 (fun i hi => by have := h9 i (by omega); omega) b.rws.length (Nat.le_refl _)
  rw [List.take_length] at n1 n2
  refine ⟨by omega, ?_, ?_⟩
  · rw [h5] at n1; omega
  · rw [h4] at n2; omega
theorem new_board {dss : List (List Dd)} (hb : workB dss = true) : boardB dss (newM dss) = true := (Run.new hb).board hb
theorem sz_new (dss : List (List Dd)) : SzBd (newD dss) (newB dss) ∧ SumBd (newD dss) (newB dss) := by
  unfold newD newB
  cases hb : workB dss with
  | true => rw [if_pos rfl, if_pos rfl]; exact ⟨sz_board (new_board hb), sum_board (new_board hb)⟩
  | false => rw [if_neg (by simp), if_neg (by simp)]; exact ⟨sz_zero, by simp [SumBd, lenW, lenG]⟩
theorem specNewBoard_any (w : World) (v : Value) (dss : List (List Dd)) (h : RdW w v dss) (hx : dss.length ≤ 1048576) (hm : ∀ i, i < dss.length → (dss.getD i []).length ≤ 1048576) :
    Calls Tryz.prog 13 #[v] w fun e w' => ∃ bv : BV, e = .returned (.tuple #[bv.agg, .bool (workB dss)]) ∧ RdBd w' bv (newD dss) (newB dss) ∧ Keep w w' := by
  unfold newD newB
  cases hb : workB dss with
  | true =>
    refine (specNewBoard_right w v dss h hb hx hm).mono ?_
    rintro e w' ⟨bv, nv, rv, bs, N, rfl, o, -, k⟩
    exact ⟨bv, rfl, by rw [if_pos rfl, if_pos rfl]; exact o.rd0, k⟩
  | false =>
    refine (specNewBoard_wrong w v dss h hb hx hm).mono ?_
    rintro e w' ⟨rfl, k⟩
    exact ⟨bd0, rfl, by rw [if_neg (by simp), if_neg (by simp)]; exact rd_zero w', k⟩
theorem l14All_any (w : World) (v : Value) (l : List Int) (lo hi : Int) (most : Nat) (h : Rd w v l) (hn : l.length ≤ 1048576) :
    Calls Tryz.prog 57 #[v, .int .i64 lo, .int .i64 hi, .int .i64 most] w fun e w' => e = .returned (.bool (allB l lo hi most)) ∧ w' = w := by
  obtain ⟨a, c, rfl, h⟩ := h
  go_enter Tryz.func57, Tryz.ntmps57
  go_wp2
  go_loop [9] (fun i => ∃ k : Nat, k ≤ l.length ∧ i = .int .i64 k ∧ Hid (∀ j, j < k → (decide (lo ≤ l.getD j 0) && decide (l.getD j 0 ≤ hi)) = true)) (fun i => l.length - (intOf i).toNat)
  case atStart => exact ⟨0, Nat.zero_le _, rfl, Lib.hid (fun j hj => absurd hj (Nat.not_lt_zero _))⟩
  case round =>
    obtain ⟨k, hk, rfl, hno⟩ := hrel
    by_cases hlt : k < l.length
    · rcases h with h | ⟨b, o, rfl, hb, hc⟩
      · exfalso; rw [h] at hlt; simp at hlt
      have d1 := hc k hlt
      have HF := fun e => Lib.hid (allB_far (most := most) (lo := lo) (hi := hi) hlt e)
      have HT : (decide (lo ≤ l.getD k 0) && decide (l.getD k 0 ≤ hi)) = true → Hid (∀ j, j < k + 1 → (decide (lo ≤ l.getD j 0) && decide (l.getD j 0 ≤ hi)) = true) := fun e => Lib.hid (fun j hj => by
        by_cases e' : j = k
        · rw [e']; exact e
        · exact hno.out j (by omega))
      have HB : Hid (inB (l.getD k 0) lo hi = (decide (lo ≤ l.getD k 0) && decide (l.getD k 0 ≤ hi))) := Lib.hid (by unfold inB; rw [Bool.eq_iff_iff]; simp)
      have CI := l1In_any (l.getD k 0) lo hi w
      rw [HB.out] at CI
      clear hc HB
      generalize l.getD k 0 = p at d1 HF HT CI
      generalize (decide (lo ≤ p) && decide (p ≤ hi)) = B at HF HT CI
      have i1 : (0 : Int) ≤ (k : Int) := Int.natCast_nonneg _
      have i2 : (k : Int) < (l.length : Int) := by omega
      cases B
      · have HE := HF rfl
        clear HF HT
        go_wp2_with fail
        refine CI.mono ?_
        rintro e w' ⟨rfl, rfl⟩
        go_wp2
        go_ret
        exact ⟨by rw [HE.out]; rfl, rfl⟩
      · have HE := HT rfl
        clear HF HT
        go_wp2_with fail
        refine CI.mono ?_
        rintro e w' ⟨rfl, rfl⟩
        go_wp2
        go_round
        case rel => exact ⟨k + 1, by omega, by go_num, HE⟩
        case measure => simp [intOf]; omega
    · obtain rfl : k = l.length := by omega
      have HE : Hid (allB l lo hi most = decide (l.length ≤ most)) := Lib.hid (allB_done hno.out)
      have HD : Hid (decide ((l.length : Int) ≤ (most : Int)) = decide (l.length ≤ most)) := Lib.hid (by rw [decide_eq_decide]; omega)
      go_wp2
      go_ret
      exact ⟨by rw [HE.out, ← HD.out]; rfl, rfl⟩
theorem specBoardOk_any (w : World) (v : BV) (dss : List (List Dd)) (b : Bd) (h : RdBd w v dss b) (hz : SzBd dss b) :
    Calls Tryz.prog 20 #[v.agg] w fun e w' => e = .returned (.bool (boardB dss b)) ∧ Keep w w' := by
  obtain ⟨aW, aP, aL, aN, aX, aS, aF, aR, cW, cP, cL, cN, cX, cS, cF, cR, rfl⟩ := h.shapes
  have HZ := Lib.hid hz
  have HH := Lib.hid h
  have HB : Hid (boardB dss b = (shapeB dss b && (fillB ((eventsB dss).length : Int) (idxB rdE (eventsB dss)).length b && (rowsBd ((eventsB dss).length : Int) b && (List.range dss.length).all (fun i => ckB dss ((eventsB dss).length : Int) b i))))) := Lib.hid rfl
  have CW := fun (W : World) (kW : Keep w W) => specWorkOk_any W _ dss (h.W.keep kW) hz.w1 hz.w2
  clear h hz
  go_enter Tryz.func20, Tryz.ntmps20
  go_wp2_with fail
  refine (CW _ ((Keep.refl w).alloc _)).mono ?_
  rintro e w1 ⟨rfl, k1⟩
  have K1 := ((Keep.refl w).alloc _).trans k1
  have c0 := box_cell k1 0
  have c1 := box_cell k1 1
  have c2 := box_cell k1 2
  have c3 := box_cell k1 3
  have c4 := box_cell k1 4
  have c5 := box_cell k1 5
  have c6 := box_cell k1 6
  have c7 := box_cell k1 7
  simp at c0 c1 c2 c3 c4 c5 c6 c7
  have z1 := box_size k1
  clear CW
  cases hb : workB dss
  · have HE : Hid (boardB dss b = false) := Lib.hid (by rw [HB.out, shapeB, hb]; rfl)
    go_wp2
    go_ret
    exact ⟨by rw [HE.out]; rfl, K1⟩
  by_cases qP : b.plc.length = 3
  rotate_left
  · have HE : Hid (boardB dss b = false) := Lib.hid (by rw [HB.out, shapeB, decide_eq_false qP]; simp)
    have tP : ((b.plc.length : Int) != (3 : Int)) = true := by simp; omega
    clear qP
    go_wp2
    go_ret
    exact ⟨by rw [HE.out]; rfl, K1⟩
  have tP : ((b.plc.length : Int) != (3 : Int)) = false := by simp [qP]
  have QP := Lib.hid qP
  clear qP
  by_cases qL : b.lst.length = 3
  rotate_left
  · have HE : Hid (boardB dss b = false) := Lib.hid (by rw [HB.out, shapeB, decide_eq_false qL]; simp)
    have tL : ((b.lst.length : Int) != (3 : Int)) = true := by simp; omega
    clear qL
    go_wp2
    go_ret
    exact ⟨by rw [HE.out]; rfl, K1⟩
  have tL : ((b.lst.length : Int) != (3 : Int)) = false := by simp [qL]
  have QL := Lib.hid qL
  clear qL
  by_cases qR : b.rws.length = 3
  rotate_left
  · have HE : Hid (boardB dss b = false) := Lib.hid (by rw [HB.out, shapeB, decide_eq_false qR]; simp)
    have tR : ((b.rws.length : Int) != (3 : Int)) = true := by simp; omega
    clear qR
    go_wp2
    go_ret
    exact ⟨by rw [HE.out]; rfl, K1⟩
  have tR : ((b.rws.length : Int) != (3 : Int)) = false := by simp [qR]
  have QR := Lib.hid qR
  clear qR
  by_cases qN : b.nts.length = dss.length
  rotate_left
  · have HE : Hid (boardB dss b = false) := Lib.hid (by rw [HB.out, shapeB, decide_eq_false qN]; simp)
    have tN : ((b.nts.length : Int) != (dss.length : Int)) = true := by simp; omega
    clear qN
    go_wp2
    go_ret
    exact ⟨by rw [HE.out]; rfl, K1⟩
  have tN : ((b.nts.length : Int) != (dss.length : Int)) = false := by simp [qN]
  have QN := Lib.hid qN
  clear qN
  by_cases qX : b.nxt.length = dss.length
  rotate_left
  · have HE : Hid (boardB dss b = false) := Lib.hid (by rw [HB.out, shapeB, decide_eq_false qX]; simp)
    have tX : ((b.nxt.length : Int) != (dss.length : Int)) = true := by simp; omega
    clear qX
    go_wp2
    go_ret
    exact ⟨by rw [HE.out]; rfl, K1⟩
  have tX : ((b.nxt.length : Int) != (dss.length : Int)) = false := by simp [qX]
  have QX := Lib.hid qX
  clear qX
  have HB2 : Hid (boardB dss b = (fillB ((evsW dss dss.length).length : Int) (idxB rdE (evsW dss dss.length)).length b && (rowsBd ((evsW dss dss.length).length : Int) b && (List.range dss.length).all (fun i => ckB dss ((evsW dss dss.length).length : Int) b i)))) := Lib.hid (by
    have e1 : eventsB dss = evsW dss dss.length := by rw [eventsB, if_pos hb]
    rw [HB.out, shapeB, hb, decide_eq_true QP.out, decide_eq_true QL.out, decide_eq_true QR.out, decide_eq_true QN.out, decide_eq_true QX.out, e1]; rfl)
  obtain ⟨u1, u2⟩ := workB_useR hb
  have L9 := evsW_9 hb
  clear HB
  go_wp2_with fail
  refine (l6Events_any _ _ dss (HH.out.W.keep K1) u1 u2).mono ?_
  rintro e w2 ⟨ve, rfl, ae, k2⟩
  have re := ae.rd
  generalize evsW dss dss.length = es at *
  obtain ⟨aE, cE', rfl, -⟩ := id re
  have K2 := K1.trans k2
  go_wp2_with fail
  refine (specReadsOf_any _ _ es re (by omega)).mono ?_
  rintro e w3 ⟨vr, rfl, or3, k3⟩
  have K3 := K2.trans k3
  have hrl : (idxB rdE es).length ≤ 12 := by
    unfold idxB
    rw [if_pos (by omega)]
    have := idxK_len rdE es es.length
    omega
  obtain ⟨ar, cr, rfl, -⟩ := id or3.rd
  generalize (idxB rdE es).length = rn at *
  have k13 := k2.trans k3
  replace c0 := (k13.cell z1).trans c0
  replace c1 := (k13.cell z1).trans c1
  replace c2 := (k13.cell z1).trans c2
  replace c3 := (k13.cell z1).trans c3
  replace c4 := (k13.cell z1).trans c4
  replace c5 := (k13.cell z1).trans c5
  replace c6 := (k13.cell z1).trans c6
  replace c7 := (k13.cell z1).trans c7
  replace z1 := Nat.lt_of_lt_of_le z1 k13.size
  clear k1 k2 k3 k13 K1 K2 ae re or3 tP tL tR tN tX
  by_cases qS : b.sn.length = rn
  rotate_left
  · have HE : Hid (boardB dss b = false) := Lib.hid (by rw [HB2.out, fillB, decide_eq_false qS]; simp)
    have tS : ((b.sn.length : Int) != (rn : Int)) = true := by simp; omega
    clear qS
    go_wp2
    go_ret
    exact ⟨by rw [HE.out]; rfl, K3⟩
  have tS : ((b.sn.length : Int) != (rn : Int)) = false := by simp [qS]
  have QS := Lib.hid qS
  clear qS
  by_cases qF : b.fr.length = rn
  rotate_left
  · have HE : Hid (boardB dss b = false) := Lib.hid (by rw [HB2.out, fillB, decide_eq_false qF]; simp)
    have tF : ((b.fr.length : Int) != (rn : Int)) = true := by simp; omega
    clear qF
    go_wp2
    go_ret
    exact ⟨by rw [HE.out]; rfl, K3⟩
  have tF : ((b.fr.length : Int) != (rn : Int)) = false := by simp [qF]
  have QF := Lib.hid qF
  clear qF
  have i1 : IntKind.i64.wrap ((es.length : Int) - 1) = (es.length : Int) - 1 := by rw [IntKind.wrap_i64]; omega
  have CP := l14All_any _ _ b.plc 0 9 3 (HH.out.P.keep K3) HZ.out.plc
  have CL := l14All_any _ _ b.lst 0 ((es.length : Int) - 1) 3 (HH.out.L.keep K3) HZ.out.lst
  have CS := l14All_any _ _ b.sn (-1) 9 12 (HH.out.S.keep K3) HZ.out.sn
  have CF := l14All_any _ _ b.fr (-1) ((es.length : Int) - 1) 12 (HH.out.F.keep K3) HZ.out.fr
  cases qP : allB b.plc 0 9 3
  · have HE : Hid (boardB dss b = false) := Lib.hid (by rw [HB2.out, fillB, qP]; simp)
    rw [qP] at CP
    go_wp2_with fail
    refine CP.mono ?_
    rintro e w4 ⟨rfl, rfl⟩
    go_wp2
    go_ret
    exact ⟨by rw [HE.out]; rfl, K3⟩
  rw [qP] at CP
  cases qL : allB b.lst 0 ((es.length : Int) - 1) 3
  · have HE : Hid (boardB dss b = false) := Lib.hid (by rw [HB2.out, fillB, qL]; simp)
    rw [qL] at CL
    go_wp2_with fail
    refine CP.mono ?_
    rintro e w4 ⟨rfl, rfl⟩
    go_wp2_with fail
    refine CL.mono ?_
    rintro e w5 ⟨rfl, rfl⟩
    go_wp2
    go_ret
    exact ⟨by rw [HE.out]; rfl, K3⟩
  rw [qL] at CL
  cases qS : allB b.sn (-1) 9 12
  · have HE : Hid (boardB dss b = false) := Lib.hid (by rw [HB2.out, fillB, qS]; simp)
    rw [qS] at CS
    go_wp2_with fail
    refine CP.mono ?_
    rintro e w4 ⟨rfl, rfl⟩
    go_wp2_with fail
    refine CL.mono ?_
    rintro e w5 ⟨rfl, rfl⟩
    go_wp2_with fail
    refine CS.mono ?_
    rintro e w6 ⟨rfl, rfl⟩
    go_wp2
    go_ret
    exact ⟨by rw [HE.out]; rfl, K3⟩
  rw [qS] at CS
  cases qF : allB b.fr (-1) ((es.length : Int) - 1) 12
  · have HE : Hid (boardB dss b = false) := Lib.hid (by rw [HB2.out, fillB, qF]; simp)
    rw [qF] at CF
    go_wp2_with fail
    refine CP.mono ?_
    rintro e w4 ⟨rfl, rfl⟩
    go_wp2_with fail
    refine CL.mono ?_
    rintro e w5 ⟨rfl, rfl⟩
    go_wp2_with fail
    refine CS.mono ?_
    rintro e w6 ⟨rfl, rfl⟩
    go_wp2_with fail
    refine CF.mono ?_
    rintro e w7 ⟨rfl, rfl⟩
    go_wp2
    go_ret
    exact ⟨by rw [HE.out]; rfl, K3⟩
  rw [qF] at CF
  have HB3 : Hid (boardB dss b = (rowsBd (es.length : Int) b && (List.range dss.length).all (fun i => ckB dss (es.length : Int) b i))) := Lib.hid (by rw [HB2.out, fillB, decide_eq_true QS.out, decide_eq_true QF.out, qP, qL, qS, qF]; rfl)
  clear HB2
  go_wp2_with fail
  refine CP.mono ?_
  rintro e w4 ⟨rfl, rfl⟩
  go_wp2_with fail
  refine CL.mono ?_
  rintro e w5 ⟨rfl, rfl⟩
  go_wp2_with fail
  refine CS.mono ?_
  rintro e w6 ⟨rfl, rfl⟩
  go_wp2_with fail
  refine CF.mono ?_
  rintro e w7 ⟨rfl, rfl⟩
  clear CP CL CS CF qP qL qS qF tS tF
  go_wp2
  go_loop [6] (fun i => ∃ k : Nat, k ≤ 3 ∧ i = .int .i64 k ∧ Hid (∀ j, j < k → allB (b.rws.getD j []) 0 ((es.length : Int) - 1) 20 = true)) (fun i => 3 - (intOf i).toNat)
  case atStart => exact ⟨0, Nat.zero_le _, rfl, Lib.hid (fun j hj => absurd hj (Nat.not_lt_zero _))⟩
  case round =>
    obtain ⟨k, hk, rfl, hno⟩ := hrel
    by_cases hlt : k < 3
    · obtain ⟨a', c', he', hR⟩ := HH.out.R.keep K3
      simp only [Value.slice.injEq, true_and] at he'
      obtain ⟨rfl, rfl⟩ := he'
      rcases hR with h0 | ⟨bb, o, rfl, hbb, hc⟩
      · exfalso; have := QR.out; rw [h0] at this; simp at this
      obtain ⟨vi, d1, r1⟩ := hc k (by rw [QR.out]; exact hlt)
      have CA := l14All_any _ _ (b.rws.getD k []) 0 ((es.length : Int) - 1) 20 r1 (HZ.out.r2 k (by rw [QR.out]; exact hlt))
      obtain ⟨ai, ci, hvi, -⟩ := id r1
      have j1 : (0 : Int) ≤ (k : Int) := Int.natCast_nonneg _
      have j2 : (k : Int) < 3 := by omega
      have j3 : (k : Int) < (b.rws.length : Int) := by have := QR.out; omega
      clear hc r1
      cases qA : allB (b.rws.getD k []) 0 ((es.length : Int) - 1) 20
      · have HE : Hid (boardB dss b = false) := Lib.hid (by rw [HB3.out, rowsBd, all_range_false hlt qA]; rfl)
        rw [qA] at CA
        clear qA
        generalize (b.rws.getD k []).length = nk at hvi
        subst hvi
        go_wp2_with fail
        refine CA.mono ?_
        rintro e w4 ⟨rfl, rfl⟩
        go_wp2
        go_ret
        exact ⟨by rw [HE.out]; rfl, K3⟩
      · have HN : Hid (∀ j, j < k + 1 → allB (b.rws.getD j []) 0 ((es.length : Int) - 1) 20 = true) := Lib.hid (fun j hj => by
          by_cases e' : j = k
          · rw [e']; exact qA
          · exact hno.out j (by omega))
        rw [qA] at CA
        clear qA
        generalize (b.rws.getD k []).length = nk at hvi
        subst hvi
        go_wp2_with fail
        refine CA.mono ?_
        rintro e w4 ⟨rfl, rfl⟩
        go_wp2
        go_round
        case rel => exact ⟨k + 1, by omega, by go_num, HN⟩
        case measure => simp [intOf]; omega
    · obtain rfl : k = 3 := by omega
      have HB4 : Hid (boardB dss b = (List.range dss.length).all (fun i => ckB dss (es.length : Int) b i)) := Lib.hid (by
        have e : rowsBd (es.length : Int) b = true := all_range_true hno.out
        rw [HB3.out, e]; rfl)
      clear HB3 hno hk hlt
      have K0 := Keep.refl w7
      go_wp2
      go_loopw [7] (fun i wr => ∃ k : Nat, k ≤ dss.length ∧ i = .int .i64 k ∧ Hid (∀ j, j < k → ckB dss (es.length : Int) b j = true) ∧ Keep w7 wr) (fun i _ => dss.length - (intOf i).toNat)
      case atStart => exact ⟨0, Nat.zero_le _, rfl, Lib.hid (fun j hj => absurd hj (Nat.not_lt_zero _)), K0⟩
      case round =>
        obtain ⟨k, hk, rfl, hno, hK⟩ := hrel
        clear K0
        have e0 := (hK.cell z1).trans c0
        have e3 := (hK.cell z1).trans c3
        have e4 := (hK.cell z1).trans c4
        have KR := K3.trans hK
        by_cases hlt : k < dss.length
        · have lX : k < b.nxt.length := by rw [QX.out]; exact hlt
          have lN : k < b.nts.length := by rw [QN.out]; exact hlt
          obtain ⟨a', c', he', hX⟩ := HH.out.X.keep KR
          simp only [Value.slice.injEq, true_and] at he'
          obtain ⟨rfl, rfl⟩ := he'
          rcases hX with h0 | ⟨bx, ox, rfl, hbx, hcx⟩
          · exfalso; rw [h0] at lX; simp at lX
          obtain ⟨a', c', he', hW⟩ := HH.out.W.keep KR
          simp only [Value.slice.injEq, true_and] at he'
          obtain ⟨rfl, rfl⟩ := he'
          rcases hW with h0 | ⟨bw, ow, rfl, hbw, hcw⟩
          · exfalso; rw [h0] at hlt; simp at hlt
          obtain ⟨a', c', he', hN⟩ := HH.out.N.keep K3
          simp only [Value.slice.injEq, true_and] at he'
          obtain ⟨rfl, rfl⟩ := he'
          rcases hN with h0 | ⟨bn, on, rfl, hbn, hcn⟩
          · exfalso; rw [h0] at lN; simp at lN
          have d1 := hcx k lX
          obtain ⟨vw, d2, r2⟩ := hcw k hlt
          obtain ⟨vn, D3, r3⟩ := hcn k lN
          have d3 := (hK.cell hbn (o := on + k)).trans D3
          have HF : ckB dss (es.length : Int) b k = false → Hid (boardB dss b = false) := fun e => Lib.hid (by rw [HB4.out, all_range_false hlt e])
          have HT : ckB dss (es.length : Int) b k = true → Hid (∀ j, j < k + 1 → ckB dss (es.length : Int) b j = true) := fun e => Lib.hid (fun j hj => by
            by_cases e' : j = k
            · rw [e']; exact e
            · exact hno.out j (by omega))
          have HC : Hid (ckB dss (es.length : Int) b k = (inB (b.nxt.getD k 0) 0 ((dss.getD k []).length : Int) && (decide ((b.nts.getD k []).length ≤ 8) && ntsB (es.length : Int) (b.nts.getD k [])))) := Lib.hid (by
            have : inB (b.nxt.getD k 0) 0 ((dss.getD k []).length : Int) = (decide (0 ≤ b.nxt.getD k 0) && decide (b.nxt.getD k 0 ≤ ((dss.getD k []).length : Int))) := by unfold inB; rw [Bool.eq_iff_iff]; simp
            rw [ckB, this])
          have nlen := HZ.out.n2 k lN
          have hwl := HZ.out.w2 k hlt
          obtain ⟨aw, cw, rfl, -⟩ := r2
          have RN := Lib.hid r3
          obtain ⟨an, cn, rfl, r3⟩ := r3
          generalize b.nxt.getD k 0 = x at d1 HC
          generalize (dss.getD k []).length = wl at d2 HC hwl
          generalize b.nts.getD k [] = ns at *
          have j1 : (0 : Int) ≤ (k : Int) := Int.natCast_nonneg _
          have j2 : (k : Int) < (dss.length : Int) := by omega
          have j3 : (k : Int) < (b.nxt.length : Int) := by omega
          have j4 : (k : Int) < (b.nts.length : Int) := by omega
          clear hcx hcw hcn hno
          cases qI : inB x 0 (wl : Int)
          · have HE := HF (by rw [HC.out, qI]; rfl)
            clear HF HT HC
            have CI := fun W : World => l1In_any x 0 (wl : Int) W
            rw [qI] at CI
            go_wp2
            go_quiet ((go_at_call 58; exact Calls.quiet_of_same (CI _)))
            go_wp2
            go_ret
            exact ⟨by rw [HE.out]; rfl, KR.drewN _⟩
          have CI := fun W : World => l1In_any x 0 (wl : Int) W
          rw [qI] at CI
          by_cases q8 : ns.length ≤ 8
          rotate_left
          · have HE := HF (by rw [HC.out, decide_eq_false q8]; simp)
            have t8 : (8 : Int) < (ns.length : Int) := by omega
            clear HF HT HC q8
            go_wp2
            go_quiet ((go_at_call 58; exact Calls.quiet_of_same (CI _)))
            go_wp2
            go_ret
            exact ⟨by rw [HE.out]; rfl, KR.drewN _⟩
          have t8 : decide ((8 : Int) < (ns.length : Int)) = false := by simp; omega
          have HC2 : Hid (ckB dss (es.length : Int) b k = ntsB (es.length : Int) ns) := Lib.hid (by rw [HC.out, qI, decide_eq_true q8]; rfl)
          clear HC
          go_wp2
          go_quiet ((go_at_call 58; exact Calls.quiet_of_same (CI _)))
          have KD : Keep w7 (wr.drewN nq) := hK.drewN _
          clear CI qI d1 d2 d3 e0 e3 e4 hK KR q8 t8
          go_wp2
          go_loopw [8] (fun i wz => ∃ m : Nat, m ≤ ns.length ∧ i = .int .i64 m ∧ Hid (∀ j, j < m → ntB (es.length : Int) (ns.getD j (0, 0, 0)) = true) ∧ Keep w7 wz) (fun i _ => ns.length - (intOf i).toNat)
          case atStart => exact ⟨0, Nat.zero_le _, rfl, Lib.hid (fun j hj => absurd hj (Nat.not_lt_zero _)), KD⟩
          case round =>
            clear KD
            obtain ⟨m, hm, rfl, hnt, hK2⟩ := hrel
            have f3 := (hK2.cell z1).trans c3
            have n3 := (hK2.cell hbn (o := on + k)).trans D3
            by_cases hml : m < ns.length
            · obtain ⟨a', c', he', hA⟩ := RN.out.keep hK2
              simp only [Value.slice.injEq, Nat.add_left_cancel_iff, true_and] at he'
              obtain ⟨rfl, rfl⟩ := he'
              rcases hA with h0 | ⟨bq, oq, rfl, hbq, hcq⟩
              · exfalso; rw [h0] at hml; simp at hml
              obtain ⟨g0, g1, g2⟩ := atN (hcq m _ (nts_get hml))
              have NF : ntB (es.length : Int) (ns.getD m (0, 0, 0)) = false → Hid (boardB dss b = false) := fun e => HF (by rw [HC2.out]; exact ntsB_false hml e)
              have NT : ntB (es.length : Int) (ns.getD m (0, 0, 0)) = true → Hid (∀ j, j < m + 1 → ntB (es.length : Int) (ns.getD j (0, 0, 0)) = true) := fun e => Lib.hid (fun j hj => by
                by_cases e' : j = m
                · rw [e']; exact e
                · exact hnt.out j (by omega))
              have HNB : Hid (∀ y : Nt, ntB (es.length : Int) y = (inB y.1 0 2 && (inB y.2.1 0 9 && inB y.2.2 0 ((es.length : Int) - 1)))) := Lib.hid (fun y => by
                unfold ntB inB
                rw [Bool.eq_iff_iff]
                simp [and_assoc])
              rw [HNB.out] at NF NT
              generalize ns.getD m (0, 0, 0) = y at g0 g1 g2 NF NT
              obtain ⟨y0, y1, y2⟩ := y
              simp only at g0 g1 g2 NF NT
              have I0 := fun W : World => l1In_any y0 0 2 W
              have I1 := fun W : World => l1In_any y1 0 9 W
              have I2 := fun W : World => l1In_any y2 0 ((es.length : Int) - 1) W
              have m1 : (0 : Int) ≤ (m : Int) := Int.natCast_nonneg _
              have m2 : (m : Int) < (ns.length : Int) := by omega
              have KZ := (K3.trans hK2).alloc (.cells #[.int .i64 y0, .int .i64 y1, .int .i64 y2] 44)
              clear hcq HNB hnt
              cases t0 : inB y0 0 2
              · have HE := NF (by rw [t0]; rfl)
                rw [t0] at I0
                clear NF NT I1 I2 t0
                go_wp2_with fail
                refine (I0 _).mono ?_
                rintro e w8 ⟨rfl, rfl⟩
                go_wp2
                go_ret
                exact ⟨by rw [HE.out]; rfl, KZ⟩
              rw [t0] at I0
              cases t1 : inB y1 0 9
              · have HE := NF (by rw [t1]; simp)
                rw [t1] at I1
                clear NF NT I2 t0 t1
                go_wp2_with fail
                refine (I0 _).mono ?_
                rintro e w8 ⟨rfl, rfl⟩
                go_wp2_with fail
                refine (I1 _).mono ?_
                rintro e w8 ⟨rfl, rfl⟩
                go_wp2
                go_ret
                exact ⟨by rw [HE.out]; rfl, KZ⟩
              rw [t1] at I1
              cases t2 : inB y2 0 ((es.length : Int) - 1)
              · have HE := NF (by rw [t2]; simp)
                rw [t2] at I2
                clear NF NT t0 t1 t2
                go_wp2_with fail
                refine (I0 _).mono ?_
                rintro e w8 ⟨rfl, rfl⟩
                go_wp2_with fail
                refine (I1 _).mono ?_
                rintro e w8 ⟨rfl, rfl⟩
                go_wp2_with fail
                refine (I2 _).mono ?_
                rintro e w8 ⟨rfl, rfl⟩
                go_wp2
                go_ret
                exact ⟨by rw [HE.out]; rfl, KZ⟩
              · have HE := NT (by rw [t0, t1, t2]; rfl)
                rw [t2] at I2
                clear NF NT t0 t1 t2
                go_wp2_with fail
                refine (I0 _).mono ?_
                rintro e w8 ⟨rfl, rfl⟩
                go_wp2_with fail
                refine (I1 _).mono ?_
                rintro e w8 ⟨rfl, rfl⟩
                go_wp2_with fail
                refine (I2 _).mono ?_
                rintro e w8 ⟨rfl, rfl⟩
                go_wp2
                go_roundw
                case rel => exact ⟨m + 1, by omega, by go_num, HE, hK2.alloc _⟩
                case measure => simp [intOf]; omega
            · obtain rfl : m = ns.length := by omega
              have HE := HT (by rw [HC2.out]; exact ntsB_true hnt.out)
              go_wp2
              go_roundw
              case rel => exact ⟨k + 1, by omega, by go_num, HE, hK2⟩
              case measure => simp [intOf]; omega
        · obtain rfl : k = dss.length := by omega
          have HE : Hid (boardB dss b = true) := Lib.hid (by rw [HB4.out]; exact all_range_true hno.out)
          go_wp2
          go_ret
          exact ⟨by rw [HE.out]; rfl, KR⟩
end Go.Proofs.YtgakfkjjkobpiaaGreat
