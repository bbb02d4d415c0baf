/- Gathered texts. -/
import Derived.Test.YtgakfkjjkobpiaaMG
import Derived.BigRegion
import Derived.Deep.CutRange
import Derived.Lib.Hide
import Derived.Maps.AppendAt
import Derived.Laws.AppendOwn
import Derived.Deep.Cut
import Derived.Test.YtgakfkjjkobpiaaMD
set_option maxRecDepth 100000
set_option maxHeartbeats 8000000
namespace Go.Proofs.Ytgakfkjjkobpiaa
open Go.ChangeShapes Go.WideShapes Go.ChangeAt Go.RowKit
section
abbrev dC (k p v g : Int) : Obj := .cells #[.int .i64 k, .int .i64 p, .int .i64 v, .int .i64 g] 98
abbrev eC (i k : Int) (r : Bool) (p v c : Int) : Obj := .cells #[.int .i64 i, .int .i64 k, .bool r, .int .i64 p, .int .i64 v, .int .i64 c] 104
structure InL (w wr : World) (F : Nat) (out : Value) (es : List Ev) (f : List Int) : Prop where
  app : AppE wr w.heap.size out es
  row : RowAt wr F f
  keep : Keep w wr
  hF : w.heap.size ≤ F
  oF : out.ownBlock ≠ some F
structure InE (w wr : World) (F D X : Nat) (out : Value) (es : List Ev) (f : List Int) (k p v g : Int) (i q : Int) (r : Bool) (pl vl c : Int) : Prop where
  l : InL w wr F out es f
  box : wr.heap[D]? = some (dC k p v g)
  ev : wr.heap[X]? = some (eC i q r pl vl c)
  hD : w.heap.size ≤ D
  hX : w.heap.size ≤ X
  DX : D ≠ X
  FD : F ≠ D
  FX : F ≠ X
  oD : out.ownBlock ≠ some D
  oX : out.ownBlock ≠ some X
theorem InL.more {w wr wr' : World} {F : Nat} {out : Value} {es : List Ev} {f : List Int} (h : InL w wr F out es f) (k : Keep wr wr') : InL w wr' F out es f :=
  ⟨h.app.keep k, h.row.keep k, h.keep.trans k, h.hF, h.oF⟩
theorem InL.boxes {w wr : World} {F : Nat} {out : Value} {es : List Ev} {f : List Int} (h : InL w wr F out es f) (k p v g i q : Int) (r : Bool) (pl vl c : Int) :
    InE w ((wr.alloc (dC k p v g)).alloc (eC i q r pl vl c)) F wr.heap.size (wr.heap.size + 1) out es f k p v g i q r pl vl c := by
  have hs := h.keep.size
  have hR := h.row.lt
  have hl := h.app.lt
  have z : (wr.alloc (dC k p v g)).heap.size = wr.heap.size + 1 := heap_size wr _
  refine ⟨h.more (((Keep.refl wr).alloc _).alloc _), ?_, ?_, hs, by omega, by omega, by omega, by omega, fun e => ?_, fun e => ?_⟩
  · rw [heap_at, if_neg (by rw [z]; omega), heap_at, if_pos rfl]
  · rw [heap_at, if_pos z.symm]
  · have := (hl _ e).2; omega
  · have := (hl _ e).2; omega
variable {w wr : World} {F D X : Nat} {out : Value} {es : List Ev} {f : List Int} {k p v g i q pl vl c : Int} {r : Bool}
theorem InE.more {wr' : World} (h : InE w wr F D X out es f k p v g i q r pl vl c) (kk : Keep wr wr') : InE w wr' F D X out es f k p v g i q r pl vl c :=
  ⟨h.l.more kk, (Below.block kk D (Array.getElem?_eq_some_iff.1 h.box).1).trans h.box, (Below.block kk X (Array.getElem?_eq_some_iff.1 h.ev).1).trans h.ev, h.hD, h.hX, h.DX, h.FD, h.FX, h.oD, h.oX⟩
theorem InE.lt (h : InE w wr F D X out es f k p v g i q r pl vl c) : D < wr.heap.size ∧ X < wr.heap.size ∧ F < wr.heap.size :=
  ⟨(Array.getElem?_eq_some_iff.1 h.box).1, (Array.getElem?_eq_some_iff.1 h.ev).1, h.l.row.lt⟩
theorem InE.deed (h : InE w wr F D X out es f k p v g i q r pl vl c) :
    wr.cell? ⟨D, 0, none⟩ = some (.int .i64 k) ∧ wr.cell? ⟨D, 1, none⟩ = some (.int .i64 p) ∧ wr.cell? ⟨D, 2, none⟩ = some (.int .i64 v) ∧ wr.cell? ⟨D, 3, none⟩ = some (.int .i64 g) :=
  ⟨cell_of_row wr D 0 _ _ (0, 0) h.box, cell_of_row wr D 1 _ _ (0, 0) h.box, cell_of_row wr D 2 _ _ (0, 0) h.box, cell_of_row wr D 3 _ _ (0, 0) h.box⟩
theorem InE.event (h : InE w wr F D X out es f k p v g i q r pl vl c) :
    wr.cell? ⟨X, 0, none⟩ = some (.int .i64 i) ∧ wr.cell? ⟨X, 1, none⟩ = some (.int .i64 q) ∧ wr.cell? ⟨X, 2, none⟩ = some (.bool r) ∧ wr.cell? ⟨X, 3, none⟩ = some (.int .i64 pl) ∧ wr.cell? ⟨X, 4, none⟩ = some (.int .i64 vl) ∧ wr.cell? ⟨X, 5, none⟩ = some (.int .i64 c) :=
  ⟨cell_of_row wr X 0 _ _ (0, 0) h.ev, cell_of_row wr X 1 _ _ (0, 0) h.ev, cell_of_row wr X 2 _ _ (0, 0) h.ev, cell_of_row wr X 3 _ _ (0, 0) h.ev, cell_of_row wr X 4 _ _ (0, 0) h.ev, cell_of_row wr X 5 _ _ (0, 0) h.ev⟩
theorem InE.free (h : InE w wr F D X out es f k p v g i q r pl vl c) (j : Nat) : wr.frozen? ⟨X, j, none⟩ = false := frozen_of_row wr X j _ _ h.ev
theorem InE.setX (h : InE w wr F D X out es f k p v g i q r pl vl c) (j : Nat) (x : Value) {r' : Bool} {pl' vl' c' : Int}
    (he : (wr.setCell ⟨X, j, none⟩ x).heap[X]? = some (eC i q r' pl' vl' c')) : InE w (wr.setCell ⟨X, j, none⟩ x) F D X out es f k p v g i q r' pl' vl' c' := by
  have hg := grown_set wr X j x
  have a := h.l
  refine ⟨⟨a.app.kept hg (.inr h.oX), a.row.kept hg (by simp; exact fun e => h.FX e.symm), a.keep.grown hg (by simp; exact h.hX), a.hF, a.oF⟩, (hg.block D h.lt.1 (by simp; exact h.DX)).trans h.box, he, h.hD, h.hX, h.DX, h.FD, h.FX, h.oD, h.oX⟩
theorem InE.set2 (h : InE w wr F D X out es f k p v g i q r pl vl c) (x : Bool) : InE w (wr.setCell ⟨X, 2, none⟩ (.bool x)) F D X out es f k p v g i q x pl vl c :=
  h.setX 2 _ (by rw [heap_setCell_same wr X 2 _ _ _ h.ev]; rfl)
theorem InE.set4 (h : InE w wr F D X out es f k p v g i q r pl vl c) (x : Int) : InE w (wr.setCell ⟨X, 4, none⟩ (.int .i64 x)) F D X out es f k p v g i q r pl x c :=
  h.setX 4 _ (by rw [heap_setCell_same wr X 4 _ _ _ h.ev]; rfl)
theorem InE.set5 (h : InE w wr F D X out es f k p v g i q r pl vl c) (x : Int) : InE w (wr.setCell ⟨X, 5, none⟩ (.int .i64 x)) F D X out es f k p v g i q r pl vl x :=
  h.setX 5 _ (by rw [heap_setCell_same wr X 5 _ _ _ h.ev]; rfl)
theorem InE.setF (h : InE w wr F D X out es f k p v g i q r pl vl c) (j : Nat) (x : Int) : InE w (wr.setCell ⟨F, j, none⟩ (.int .i64 x)) F D X out es (f.set j x) k p v g i q r pl vl c := by
  have hg := grown_set wr F j (.int .i64 x)
  have a := h.l
  exact ⟨⟨a.app.kept hg (.inr a.oF), a.row.set j x, a.keep.grown hg (by simp; exact a.hF), a.hF, a.oF⟩, (hg.block D h.lt.1 (by simp; exact fun e => h.FD e.symm)).trans h.box, (hg.block X h.lt.2.1 (by simp; exact fun e => h.FX e.symm)).trans h.ev, h.hD, h.hX, h.DX, h.FD, h.FX, h.oD, h.oX⟩
theorem InE.hit (h : InE w wr F D X out es f k p v g i q r pl vl c) {o : Obj} {v' : Value} {w' : World} (e : Ev)
    (ho : w'.ownsRow w.heap.size 104 6 v' (es.length + 1) (es.flatMap cE ++ cE e)) (hg : (wr.alloc o).grownBy w' out.ownBlock) (hb : v'.ownBlock = out.ownBlock ∨ v'.ownBlock = some (wr.heap.size + 1)) :
    InE w w' F D X v' (es ++ [e]) f k p v g i q r pl vl c := by
  have h1 := h.more ((Keep.refl wr).alloc o)
  obtain ⟨a1, a2, a3⟩ := h1.lt
  have apart : ∀ n, n < (wr.alloc o).heap.size → out.ownBlock ≠ some n → v'.ownBlock ≠ some n := fun n hn hne e => by
    rcases hb with hb | hb
    · exact hne (hb ▸ e)
    · rw [hb] at e; have := Option.some.inj e; rw [heap_size] at hn; omega
  exact ⟨⟨appT_hit ho, h1.l.row.kept hg h1.l.oF, h1.l.keep.grown hg h1.l.app.ge, h1.l.hF, apart F a3 h1.l.oF⟩, (hg.block D a1 (fun e => h1.oD e.symm)).trans h1.box, (hg.block X a2 (fun e => h1.oX e.symm)).trans h1.ev, h1.hD, h1.hX, h1.DX, h1.FD, h1.FX, apart D a1 h1.oD, apart X a2 h1.oX⟩
theorem cE_one (e : Ev) : ∀ u ∈ cE e, u.oneCell' = true := by
  intro u hu
  simp only [cE, List.mem_cons, List.not_mem_nil, or_false] at hu
  rcases hu with rfl | rfl | rfl | rfl | rfl | rfl <;> rfl
theorem cE_new (w : World) (i q : Int) (r : Bool) (pl vl c : Int) : ∀ j u, (cE (i, q, r, pl, vl, c))[j]? = some u → (w.alloc (eC i q r pl vl c)).cell? ((⟨w.heap.size, 0, none⟩ : Addr).add j) = some u := by
  intro j u hj
  match j, hj with
  | 0, hj => simp [cE] at hj; subst hj; simp [Addr.add]
  | 1, hj => simp [cE] at hj; subst hj; simp [Addr.add]
  | 2, hj => simp [cE] at hj; subst hj; simp [Addr.add]
  | 3, hj => simp [cE] at hj; subst hj; simp [Addr.add]
  | 4, hj => simp [cE] at hj; subst hj; simp [Addr.add]
  | 5, hj => simp [cE] at hj; subst hj; simp [Addr.add]
theorem cE_newAt (w : World) (n : Nat) (hn : w.heap.size = n) (i q : Int) (r : Bool) (pl vl c : Int) : ∀ j u, (cE (i, q, r, pl, vl, c))[j]? = some u → (w.alloc (eC i q r pl vl c)).cell? ((⟨n, 0, none⟩ : Addr).add j) = some u := by
  subst hn
  exact cE_new w i q r pl vl c
end
theorem fstE_len (g : Int) (n : Nat) (f : List Int) : (fstE g n f).length = f.length := by unfold fstE; split <;> simp
theorem l6Events_any (w : World) (v : Value) (dss : List (List Dd)) (h : RdW w v dss) (hx : dss.length ≤ 3) (hok : ∀ i, i < dss.length → okL (dss.getD i []) = true) :
    Calls Try.prog 42 #[v] w fun e w' => ∃ v', e = .returned v' ∧ AppE w' w.heap.size v' (evsW dss dss.length) ∧ Keep w w' := by
  obtain ⟨a, c, rfl, h⟩ := h
  obtain ⟨i0, hi, hz0, hz1, hz2⟩ := info_parts Try.infoI
  obtain ⟨j0, hj, hy0, hy1, hy2⟩ := info_parts Try.infoE
  have A0 : AppE (w.alloc (.cells #[] 104)) w.heap.size (.slice (some ⟨w.heap.size, 0, none⟩) 0 0) [] := appT_empty w
  go_enter Try.func42, Try.ntmps42
  go_wp2
  go_loopw [3, 4] (fun v i wr => ∃ k : Nat, ∃ m : Int, ∃ es : List Ev, k ≤ 3 ∧ i = .int .i64 m ∧ m = (k : Int) ∧ Hid (es = evBeg.take k) ∧ es.length ≤ k ∧ AppE wr w.heap.size v es ∧ Keep w wr) (fun _ i _ => 3 - (intOf i).toNat)
  case atStart => exact ⟨0, 0, [], Nat.zero_le _, rfl, rfl, Lib.hid rfl, Nat.le_refl _, A0, (Keep.refl _).alloc _⟩
  case round =>
    obtain ⟨k, m, es, hk, rfl, hm, hE, hel, ho, hK⟩ := hrel
    clear A0
    have hsz := hK.size
    by_cases hlt : k < 3
    · subst hm
      have HM : Hid (es ++ [((-1 : Int), (-1 : Int), false, (k : Int), 0, (k : Int))] = evBeg.take (k + 1)) := Lib.hid (by
        rw [hE.out]
        have : k = 0 ∨ k = 1 ∨ k = 2 := by omega
        rcases this with rfl | rfl | rfl <;> rfl)
      clear hE
      go_wp2_with (at_builtin; refine wpList_append_own_at _ rfl _ _ 68 rfl w.heap.size 104 j0 (.agg #[.int .i64 0, .int .i64 0, .bool false, .int .i64 0, .int .i64 0, .int .i64 0]) 6 48 Try.underlying68 hj hy0 hy1 hy2 rfl (by decide) _ _ _ rfl (ho.keep ((Keep.refl _).alloc _)) ⟨_, 0, none⟩ 1 1 (cE ((-1 : Int), (-1 : Int), false, (k : Int), 0, (k : Int))) rfl rfl ?c1 ?c2 ?c3 ?c4 ?c5 ?_)
      case c1 => exact cE_new _ _ _ _ _ _ _
      case c2 => exact cE_one _
      case c3 => unfold maxLen; omega
      case c4 => omega
      case c5 => simp; omega
      intro v' w1 hown' hgrow _ _
      have hK1 : Keep w w1 := (hK.alloc _).grown hgrow ho.ge
      have hA := appT_hit hown'
      clear hgrow hown'
      go_wp2
      go_roundw
      case rel => exact ⟨k + 1, _, _, by omega, rfl, by omega, HM, by simp; omega, hA, hK1⟩
      case measure => simp [intOf]; omega
    obtain rfl : m = 3 := by omega
    have HB : Hid (es = evsW dss 0) := Lib.hid (by rw [hE.out, show k = 3 by omega]; rfl)
    clear hE hm
    go_wp2
    go_loopw [3, 5] (fun v i wr => ∃ k : Nat, ∃ es : List Ev, k ≤ dss.length ∧ i = .int .i64 k ∧ Hid (es = evsW dss k) ∧ es.length ≤ 3 + 10 * k ∧ AppE wr w.heap.size v es ∧ Keep w wr) (fun _ i _ => dss.length - (intOf i).toNat)
    case atStart => exact ⟨0, es, Nat.zero_le _, rfl, HB, by omega, ho, hK⟩
    case round =>
      clear HB hel ho hK hsz hlt hk
      obtain ⟨k, es, hk, rfl, hE, hel, ho, hK⟩ := hrel
      have hsz := hK.size
      by_cases hlt : k < dss.length
      · rcases h with h | ⟨b, o, rfl, hb, hc⟩
        · exfalso; rw [h] at hlt; simp at hlt
        obtain ⟨u, e1, r1⟩ := hc k hlt
        have okk := hok k hlt
        clear hc hok
        obtain ⟨ds, hds⟩ : ∃ ds, ds = dss.getD k [] := ⟨_, rfl⟩
        have HDS := Lib.hid hds
        rw [← hds] at r1 okk
        clear hds
        obtain ⟨ai, ci, rfl, r1⟩ := r1
        have d1 := (hK.cell hb).trans e1
        have i1 : (0 : Int) ≤ (k : Int) := Int.natCast_nonneg _
        have i2 : (k : Int) < (dss.length : Int) := by omega
        have hl5 : ds.length ≤ 5 := by simp [okL] at okk; omega
        obtain ⟨wo, hwo⟩ : ∃ wo : World, wo = wr := ⟨_, rfl⟩
        subst hwo
        go_wp2_with (at_make; refine wpList_make_full _ rfl _ _ 25 rfl wo.heap.size 2 i0 (.int .i64 0) 1 Try.underlying25 hi hz0 hz1 .i64 .i64 _ _ 10 rfl rfl rfl rfl (by rw [hz2]; omega) (by unfold maxLen; omega) (Nat.le_refl _) ?_; intro w1 hown hgrow)
        have k1 : Keep wo w1 := (Keep.refl wo).grown hgrow (by simp)
        have rb : RowAt w1 wo.heap.size (List.replicate 10 0) := by
          have o : Own w1 wo.heap.size (.slice (some ⟨wo.heap.size, 0, none⟩) 10 10) (List.replicate 10 0) := by
            rw [made_ten] at hown; unfold Own; simpa using hown
          rcases o.row with ⟨e, _⟩ | ⟨g, cap, e, _, hr⟩
          · cases e
          · have e1 := congrArg Value.ownBlock e
            simp [Value.ownBlock] at e1
            rw [e1]; exact hr
        clear hgrow hown
        have L0 : InL w w1 wo.heap.size _ es (List.replicate 10 0) := ⟨ho.keep k1, rb, hK.trans k1, hsz, fun e => by have := (ho.lt _ e).2; omega⟩
        go_loopw [3, 7] (fun v i wq => ∃ q : Nat, ∃ evs : List Ev, ∃ f : List Int, q ≤ ds.length ∧ i = .int .i64 q ∧ Hid (clkE k ds es q = (evs, f)) ∧ Hid (f.length = 10) ∧ evs.length ≤ 3 + 10 * k + 2 * q ∧ InL w wq wo.heap.size v evs f) (fun _ i _ => ds.length - (intOf i).toNat)
        case atStart => exact ⟨0, es, _, Nat.zero_le _, rfl, Lib.hid rfl, Lib.hid rfl, by omega, L0⟩
        case round =>
          clear L0 rb k1 w1 d1
          obtain ⟨q, evs, f, hq, rfl, hC, hfl, hev, hI⟩ := hrel
          have d1 := (hI.keep.cell hb).trans e1
          have hbq : b < wr.heap.size := Nat.lt_of_lt_of_le hb hI.keep.size
          by_cases hlq : q < ds.length
          · rcases r1 with h | ⟨b2, o2, rfl, hb2, hc2⟩
            · exfalso; rw [h] at hlq; simp at hlq
            have AT := (hc2 q hlq).keep hb2 hI.keep
            have okq : okD (ds.getD q zD) = true := by
              simp only [okL, Bool.and_eq_true] at okk
              exact all_get zD okk.1 q hlq
            clear hc2 okk
            have hb3 : b2 < wr.heap.size := Nat.lt_of_lt_of_le hb2 hI.keep.size
            have HST : Hid (clkE k ds es (q + 1) = stepE k q (ds.getD q zD) (evs, f)) := Lib.hid (by rw [clkE, hC.out])
            clear hC
            obtain ⟨d, hd⟩ : ∃ d, d = ds.getD q zD := ⟨_, rfl⟩
            rw [← hd] at AT okq HST
            clear hd
            have KD := okD_kindE okq
            have RD := okD_restE okq
            obtain ⟨x0, x1, x2, x3⟩ := d
            obtain ⟨A0, A1, A2, A3⟩ := AT
            simp only at A0 A1 A2 A3 KD RD
            obtain ⟨-, -, r2, r3, r4⟩ := RD
            obtain ⟨g, rfl⟩ := Int.eq_ofNat_of_zero_le r2
            have j1 : (0 : Int) ≤ (q : Int) := Int.natCast_nonneg _
            have j2 : (q : Int) < (ds.length : Int) := by omega
            have j3 : (0 : Int) ≤ (g : Int) := Int.natCast_nonneg _
            have j4 : (g : Int) < 10 := by omega
            have hg9 : g < 10 := by omega
            clear r2 r3 okq
            obtain ⟨av, cv, rfl⟩ := hI.app.shape
            rcases KD with rfl | rfl | rfl | rfl
            · obtain ⟨f', hf'⟩ : ∃ f', f' = fstE (g : Int) evs.length f := ⟨_, rfl⟩
              obtain ⟨cl, hcl⟩ : ∃ cl, cl = clsE (g : Int) evs.length f := ⟨_, rfl⟩
              have HS : Hid (clkE k ds es (q + 1) = (evs ++ [((k : Int), (q : Int), true, x1, 0, cl)], f')) := Lib.hid (by rw [HST.out, hf', hcl]; rfl)
              have hfl' : Hid (f'.length = 10) := Lib.hid (by rw [hf', fstE_len]; exact hfl.out)
              have HF := Lib.hid hf'
              have HC := Lib.hid hcl
              clear HST hf' hcl
              clear r4
              go_upto_if 61 with fail
              have I1 := hI.boxes 1 x1 x2 (g : Int) (k : Int) (q : Int) true x1 0 (evs.length : Int)
              go_cut [] from 29 to 99 (fun wx => InE w wx wo.heap.size wr.heap.size (wr.heap.size + 1) (.slice av evs.length cv) evs f 1 x1 x2 g k q true x1 0 evs.length)
              case first =>
                go_wp2
                go_meet
                case rel => exact I1
              case rest =>
                clear I1 A0 A1 A2 A3 d1
                have IH := hcut
                clear hcut
                obtain ⟨t0, t1, t2, t3⟩ := IH.deed
                obtain ⟨s0, s1, s2, s3, s4, s5⟩ := IH.event
                have F2 := IH.free 2
                have F4 := IH.free 4
                have F5 := IH.free 5
                obtain ⟨z1, z2, z3⟩ := IH.lt
                go_upto_if 67 with fail
                go_cut [] from 29 to 99 (fun wx => InE w wx wo.heap.size wr.heap.size (wr.heap.size + 1) (.slice av evs.length cv) evs f' 1 x1 x2 g k q true x1 0 cl)
                case first =>
                  by_cases g0 : g = 0
                  · have n0 : (g : Int) ≤ 0 := by omega
                    have E1 : Hid (f' = f) := Lib.hid (by rw [HF.out, fstE, if_neg (by omega)])
                    have E2 : Hid (cl = (evs.length : Int)) := Lib.hid (by rw [HC.out, clsE, if_neg (by omega)])
                    go_wp2
                    go_meet
                    case rel => rw [E1.out, E2.out]; exact IH
                  · have n0 : (0 : Int) < (g : Int) := by omega
                    have gg : Hid (f'.getD g 0 = cl) := Lib.hid (by rw [HC.out, HF.out, clsE, if_pos n0, Int.toNat_natCast])
                    have hRC := IH.l.row.cell (j := g) (by rw [hfl.out]; exact hg9)
                    obtain ⟨y, hy⟩ : ∃ y, y = f.getD g 0 := ⟨_, rfl⟩
                    rw [← hy] at hRC
                    have HY := Lib.hid hy
                    have FG := IH.l.row.free g
                    clear hy g0
                    go_upto_if 73 with fail
                    go_cut [] from 29 to 99 (fun wx => InE w wx wo.heap.size wr.heap.size (wr.heap.size + 1) (.slice av evs.length cv) evs f' 1 x1 x2 g k q true x1 0 evs.length)
                    case first =>
                      by_cases y0 : y = 0
                      · have E1 : Hid (f' = f.set g (evs.length : Int)) := Lib.hid (by rw [HF.out, fstE, Int.toNat_natCast, if_pos ⟨n0, by rw [← HY.out]; exact y0⟩])
                        subst y0
                        go_wp2
                        go_meet
                        case rel => rw [E1.out]; exact IH.setF g _
                      · have E1 : Hid (f' = f) := Lib.hid (by rw [HF.out, fstE, Int.toNat_natCast, if_neg (fun e => y0 (HY.out.trans e.2))])
                        have ey : (y == 0) = false := by simp [y0]
                        clear y0
                        go_wp2
                        go_meet
                        case rel => rw [E1.out]; exact IH
                    case rest =>
                      clear t0 t1 t2 t3 s0 s1 s2 s3 s4 s5 F2 F4 F5 z1 z2 z3
                      clear hRC FG IH
                      have hRC := hcut.l.row.cell (j := g) (by rw [hfl'.out]; exact hg9)
                      rw [gg.out] at hRC
                      obtain ⟨t0, t1, t2, t3⟩ := hcut.deed
                      obtain ⟨s0, s1, s2, s3, s4, s5⟩ := hcut.event
                      have F2 := hcut.free 2
                      have F4 := hcut.free 4
                      have F5 := hcut.free 5
                      obtain ⟨z1, z2, z3⟩ := hcut.lt
                      go_wp2
                      go_meet
                      case rel => exact hcut.set5 _
                case rest =>
                  clear t0 t1 t2 t3 s0 s1 s2 s3 s4 s5 F2 F4 F5 z1 z2 z3
                  clear IH hI
                  obtain ⟨t0, t1, t2, t3⟩ := hcut.deed
                  obtain ⟨s0, s1, s2, s3, s4, s5⟩ := hcut.event
                  have F2 := hcut.free 2
                  have F4 := hcut.free 4
                  have F5 := hcut.free 5
                  obtain ⟨z1, z2, z3⟩ := hcut.lt
                  go_wp2_with (at_builtin; refine wpList_append_own_at _ rfl _ _ 68 rfl w.heap.size 104 j0 (.agg #[.int .i64 0, .int .i64 0, .bool false, .int .i64 0, .int .i64 0, .int .i64 0]) 6 48 Try.underlying68 hj hy0 hy1 hy2 rfl (by decide) _ _ _ rfl (hcut.l.app.keep ((Keep.refl _).alloc _)) ⟨_, 0, none⟩ 1 1 (cE ((k : Int), (q : Int), true, x1, 0, cl)) rfl rfl ?a1 ?a2 ?a3 ?a4 ?a5 ?_)
                  case a1 => exact cE_new _ _ _ _ _ _ _
                  case a2 => exact cE_one _
                  case a3 => unfold maxLen; omega
                  case a4 => omega
                  case a5 => simp; omega
                  intro v' w5 hown' hgrow _ hbl
                  have I5 := hcut.hit ((k : Int), (q : Int), true, x1, 0, cl) hown' hgrow hbl
                  clear hown' hgrow hbl
                  obtain ⟨es1, h1⟩ : ∃ es1, es1 = evs ++ [((k : Int), (q : Int), true, x1, 0, cl)] := ⟨_, rfl⟩
                  have l1 : es1.length ≤ evs.length + 1 := by rw [h1]; simp
                  rw [← h1] at I5
                  clear t0 t1 t2 t3 s0 s1 s2 s3 s4 s5 F2 F4 F5 z1 z2 z3
                  clear hcut
                  obtain ⟨t0, t1, t2, t3⟩ := I5.deed
                  obtain ⟨s0, s1, s2, s3, s4, s5⟩ := I5.event
                  have F2 := I5.free 2
                  have F4 := I5.free 4
                  have F5 := I5.free 5
                  obtain ⟨z1, z2, z3⟩ := I5.lt
                  have HS1 : Hid (clkE k ds es (q + 1) = (es1, f')) := Lib.hid (by rw [HS.out, h1])
                  clear h1 HS
                  go_wp2
                  go_roundw
                  case rel => exact ⟨q + 1, es1, f', by omega, by go_num, HS1, hfl', by omega, I5.l⟩
                  case measure => simp [intOf]; omega
            · obtain ⟨f', hf'⟩ : ∃ f', f' = fstE (g : Int) evs.length f := ⟨_, rfl⟩
              obtain ⟨cl, hcl⟩ : ∃ cl, cl = clsE (g : Int) evs.length f := ⟨_, rfl⟩
              have HS : Hid (clkE k ds es (q + 1) = (evs ++ [((k : Int), (q : Int), false, x1, x2, cl)], f')) := Lib.hid (by rw [HST.out, hf', hcl]; rfl)
              have hfl' : Hid (f'.length = 10) := Lib.hid (by rw [hf', fstE_len]; exact hfl.out)
              have HF := Lib.hid hf'
              have HC := Lib.hid hcl
              clear HST hf' hcl
              clear r4
              go_upto_if 61 with fail
              have I1 := hI.boxes 2 x1 x2 (g : Int) (k : Int) (q : Int) false x1 x2 (evs.length : Int)
              go_cut [] from 29 to 99 (fun wx => InE w wx wo.heap.size wr.heap.size (wr.heap.size + 1) (.slice av evs.length cv) evs f 2 x1 x2 g k q false x1 x2 evs.length)
              case first =>
                go_wp2
                go_meet
                case rel => exact I1
              case rest =>
                clear I1 A0 A1 A2 A3 d1
                have IH := hcut
                clear hcut
                obtain ⟨t0, t1, t2, t3⟩ := IH.deed
                obtain ⟨s0, s1, s2, s3, s4, s5⟩ := IH.event
                have F2 := IH.free 2
                have F4 := IH.free 4
                have F5 := IH.free 5
                obtain ⟨z1, z2, z3⟩ := IH.lt
                go_upto_if 67 with fail
                go_cut [] from 29 to 99 (fun wx => InE w wx wo.heap.size wr.heap.size (wr.heap.size + 1) (.slice av evs.length cv) evs f' 2 x1 x2 g k q false x1 x2 cl)
                case first =>
                  by_cases g0 : g = 0
                  · have n0 : (g : Int) ≤ 0 := by omega
                    have E1 : Hid (f' = f) := Lib.hid (by rw [HF.out, fstE, if_neg (by omega)])
                    have E2 : Hid (cl = (evs.length : Int)) := Lib.hid (by rw [HC.out, clsE, if_neg (by omega)])
                    go_wp2
                    go_meet
                    case rel => rw [E1.out, E2.out]; exact IH
                  · have n0 : (0 : Int) < (g : Int) := by omega
                    have gg : Hid (f'.getD g 0 = cl) := Lib.hid (by rw [HC.out, HF.out, clsE, if_pos n0, Int.toNat_natCast])
                    have hRC := IH.l.row.cell (j := g) (by rw [hfl.out]; exact hg9)
                    obtain ⟨y, hy⟩ : ∃ y, y = f.getD g 0 := ⟨_, rfl⟩
                    rw [← hy] at hRC
                    have HY := Lib.hid hy
                    have FG := IH.l.row.free g
                    clear hy g0
                    go_upto_if 73 with fail
                    go_cut [] from 29 to 99 (fun wx => InE w wx wo.heap.size wr.heap.size (wr.heap.size + 1) (.slice av evs.length cv) evs f' 2 x1 x2 g k q false x1 x2 evs.length)
                    case first =>
                      by_cases y0 : y = 0
                      · have E1 : Hid (f' = f.set g (evs.length : Int)) := Lib.hid (by rw [HF.out, fstE, Int.toNat_natCast, if_pos ⟨n0, by rw [← HY.out]; exact y0⟩])
                        subst y0
                        go_wp2
                        go_meet
                        case rel => rw [E1.out]; exact IH.setF g _
                      · have E1 : Hid (f' = f) := Lib.hid (by rw [HF.out, fstE, Int.toNat_natCast, if_neg (fun e => y0 (HY.out.trans e.2))])
                        have ey : (y == 0) = false := by simp [y0]
                        clear y0
                        go_wp2
                        go_meet
                        case rel => rw [E1.out]; exact IH
                    case rest =>
                      clear t0 t1 t2 t3 s0 s1 s2 s3 s4 s5 F2 F4 F5 z1 z2 z3
                      clear hRC FG IH
                      have hRC := hcut.l.row.cell (j := g) (by rw [hfl'.out]; exact hg9)
                      rw [gg.out] at hRC
                      obtain ⟨t0, t1, t2, t3⟩ := hcut.deed
                      obtain ⟨s0, s1, s2, s3, s4, s5⟩ := hcut.event
                      have F2 := hcut.free 2
                      have F4 := hcut.free 4
                      have F5 := hcut.free 5
                      obtain ⟨z1, z2, z3⟩ := hcut.lt
                      go_wp2
                      go_meet
                      case rel => exact hcut.set5 _
                case rest =>
                  clear t0 t1 t2 t3 s0 s1 s2 s3 s4 s5 F2 F4 F5 z1 z2 z3
                  clear IH hI
                  obtain ⟨t0, t1, t2, t3⟩ := hcut.deed
                  obtain ⟨s0, s1, s2, s3, s4, s5⟩ := hcut.event
                  have F2 := hcut.free 2
                  have F4 := hcut.free 4
                  have F5 := hcut.free 5
                  obtain ⟨z1, z2, z3⟩ := hcut.lt
                  go_wp2_with (at_builtin; refine wpList_append_own_at _ rfl _ _ 68 rfl w.heap.size 104 j0 (.agg #[.int .i64 0, .int .i64 0, .bool false, .int .i64 0, .int .i64 0, .int .i64 0]) 6 48 Try.underlying68 hj hy0 hy1 hy2 rfl (by decide) _ _ _ rfl (hcut.l.app.keep ((Keep.refl _).alloc _)) ⟨_, 0, none⟩ 1 1 (cE ((k : Int), (q : Int), false, x1, x2, cl)) rfl rfl ?a1 ?a2 ?a3 ?a4 ?a5 ?_)
                  case a1 => exact cE_new _ _ _ _ _ _ _
                  case a2 => exact cE_one _
                  case a3 => unfold maxLen; omega
                  case a4 => omega
                  case a5 => simp; omega
                  intro v' w5 hown' hgrow _ hbl
                  have I5 := hcut.hit ((k : Int), (q : Int), false, x1, x2, cl) hown' hgrow hbl
                  clear hown' hgrow hbl
                  obtain ⟨es1, h1⟩ : ∃ es1, es1 = evs ++ [((k : Int), (q : Int), false, x1, x2, cl)] := ⟨_, rfl⟩
                  have l1 : es1.length ≤ evs.length + 1 := by rw [h1]; simp
                  rw [← h1] at I5
                  clear t0 t1 t2 t3 s0 s1 s2 s3 s4 s5 F2 F4 F5 z1 z2 z3
                  clear hcut
                  obtain ⟨t0, t1, t2, t3⟩ := I5.deed
                  obtain ⟨s0, s1, s2, s3, s4, s5⟩ := I5.event
                  have F2 := I5.free 2
                  have F4 := I5.free 4
                  have F5 := I5.free 5
                  obtain ⟨z1, z2, z3⟩ := I5.lt
                  have HS1 : Hid (clkE k ds es (q + 1) = (es1, f')) := Lib.hid (by rw [HS.out, h1])
                  clear h1 HS
                  go_wp2
                  go_roundw
                  case rel => exact ⟨q + 1, es1, f', by omega, by go_num, HS1, hfl', by omega, I5.l⟩
                  case measure => simp [intOf]; omega
            · obtain ⟨f', hf'⟩ : ∃ f', f' = fstE (g : Int) evs.length f := ⟨_, rfl⟩
              obtain ⟨cl, hcl⟩ : ∃ cl, cl = clsE (g : Int) evs.length f := ⟨_, rfl⟩
              have HS : Hid (clkE k ds es (q + 1) = (evs ++ [((k : Int), (q : Int), true, x1, 0, cl), ((k : Int), (q : Int), false, x1, x2, cl)], f')) := Lib.hid (by rw [HST.out, hf', hcl]; rfl)
              have hfl' : Hid (f'.length = 10) := Lib.hid (by rw [hf', fstE_len]; exact hfl.out)
              have HF := Lib.hid hf'
              have HC := Lib.hid hcl
              clear HST hf' hcl
              have n0 : (g : Int) ≤ 0 := by have := r4 (by omega); omega
              clear r4
              go_upto_if 61 with fail
              have I1 := hI.boxes 3 x1 x2 (g : Int) (k : Int) (q : Int) true x1 0 (evs.length : Int)
              go_cut [] from 29 to 99 (fun wx => InE w wx wo.heap.size wr.heap.size (wr.heap.size + 1) (.slice av evs.length cv) evs f 3 x1 x2 g k q true x1 0 evs.length)
              case first =>
                go_wp2
                go_meet
                case rel => exact I1
              case rest =>
                clear I1 A0 A1 A2 A3 d1
                have IH := hcut
                clear hcut
                obtain ⟨t0, t1, t2, t3⟩ := IH.deed
                obtain ⟨s0, s1, s2, s3, s4, s5⟩ := IH.event
                have F2 := IH.free 2
                have F4 := IH.free 4
                have F5 := IH.free 5
                obtain ⟨z1, z2, z3⟩ := IH.lt
                go_upto_if 67 with fail
                go_cut [] from 29 to 99 (fun wx => InE w wx wo.heap.size wr.heap.size (wr.heap.size + 1) (.slice av evs.length cv) evs f' 3 x1 x2 g k q true x1 0 cl)
                case first =>
                  have E1 : Hid (f' = f) := Lib.hid (by rw [HF.out, fstE, if_neg (by omega)])
                  have E2 : Hid (cl = (evs.length : Int)) := Lib.hid (by rw [HC.out, clsE, if_neg (by omega)])
                  go_wp2
                  go_meet
                  case rel => rw [E1.out, E2.out]; exact IH
                case rest =>
                  clear t0 t1 t2 t3 s0 s1 s2 s3 s4 s5 F2 F4 F5 z1 z2 z3
                  clear IH hI
                  obtain ⟨t0, t1, t2, t3⟩ := hcut.deed
                  obtain ⟨s0, s1, s2, s3, s4, s5⟩ := hcut.event
                  have F2 := hcut.free 2
                  have F4 := hcut.free 4
                  have F5 := hcut.free 5
                  obtain ⟨z1, z2, z3⟩ := hcut.lt
                  go_wp2_with (at_builtin; refine wpList_append_own_at _ rfl _ _ 68 rfl w.heap.size 104 j0 (.agg #[.int .i64 0, .int .i64 0, .bool false, .int .i64 0, .int .i64 0, .int .i64 0]) 6 48 Try.underlying68 hj hy0 hy1 hy2 rfl (by decide) _ _ _ rfl (hcut.l.app.keep ((Keep.refl _).alloc _)) ⟨_, 0, none⟩ 1 1 (cE ((k : Int), (q : Int), true, x1, 0, cl)) rfl rfl ?a1 ?a2 ?a3 ?a4 ?a5 ?_)
                  case a1 => exact cE_new _ _ _ _ _ _ _
                  case a2 => exact cE_one _
                  case a3 => unfold maxLen; omega
                  case a4 => omega
                  case a5 => simp; omega
                  intro v' w5 hown' hgrow _ hbl
                  have I5 := hcut.hit ((k : Int), (q : Int), true, x1, 0, cl) hown' hgrow hbl
                  clear hown' hgrow hbl
                  obtain ⟨es1, h1⟩ : ∃ es1, es1 = evs ++ [((k : Int), (q : Int), true, x1, 0, cl)] := ⟨_, rfl⟩
                  have l1 : es1.length ≤ evs.length + 1 := by rw [h1]; simp
                  rw [← h1] at I5
                  clear t0 t1 t2 t3 s0 s1 s2 s3 s4 s5 F2 F4 F5 z1 z2 z3
                  clear hcut
                  obtain ⟨t0, t1, t2, t3⟩ := I5.deed
                  obtain ⟨s0, s1, s2, s3, s4, s5⟩ := I5.event
                  have F2 := I5.free 2
                  have F4 := I5.free 4
                  have F5 := I5.free 5
                  obtain ⟨z1, z2, z3⟩ := I5.lt
                  have HS1 : Hid (clkE k ds es (q + 1) = (es1 ++ [((k : Int), (q : Int), false, x1, x2, cl)], f')) := Lib.hid (by rw [HS.out, h1, List.append_assoc]; rfl)
                  clear h1 HS
                  go_upto_region 26 with fail
                  have zz : w.heap.size ≤ w5.heap.size := I5.l.keep.size
                  have I6 := I5.set2 false
                  clear t0 t1 t2 t3 s0 s1 s2 s3 s4 s5 F2 F4 F5 z1 z2 z3
                  obtain ⟨t0, t1, t2, t3⟩ := I6.deed
                  obtain ⟨s0, s1, s2, s3, s4, s5⟩ := I6.event
                  have F2 := I6.free 2
                  have F4 := I6.free 4
                  have F5 := I6.free 5
                  obtain ⟨z1, z2, z3⟩ := I6.lt
                  go_upto_region 27 with fail
                  have I7 := I6.set4 x2
                  clear t0 t1 t2 t3 s0 s1 s2 s3 s4 s5 F2 F4 F5 z1 z2 z3
                  obtain ⟨t0, t1, t2, t3⟩ := I7.deed
                  obtain ⟨s0, s1, s2, s3, s4, s5⟩ := I7.event
                  have F2 := I7.free 2
                  have F4 := I7.free 4
                  have F5 := I7.free 5
                  obtain ⟨z1, z2, z3⟩ := I7.lt
                  go_wp2_with (at_builtin; refine wpList_append_own_at _ rfl _ _ 68 rfl w.heap.size 104 j0 (.agg #[.int .i64 0, .int .i64 0, .bool false, .int .i64 0, .int .i64 0, .int .i64 0]) 6 48 Try.underlying68 hj hy0 hy1 hy2 rfl (by decide) _ _ _ rfl (I7.l.app.keep ((Keep.refl _).alloc _)) ⟨_, 0, none⟩ 1 1 (cE ((k : Int), (q : Int), false, x1, x2, cl)) rfl rfl ?b1 ?b2 ?b3 ?b4 ?b5 ?_)
                  case b1 => exact cE_newAt _ _ (by simp) _ _ _ _ _ _
                  case b2 => exact cE_one _
                  case b3 => unfold maxLen; omega
                  case b4 => omega
                  case b5 => simp; omega
                  intro v' w5 hown' hgrow _ hbl
                  have I8 := I7.hit ((k : Int), (q : Int), false, x1, x2, cl) hown' hgrow (by simpa using hbl)
                  clear hown' hgrow hbl
                  clear t0 t1 t2 t3 s0 s1 s2 s3 s4 s5 F2 F4 F5 z1 z2 z3
                  clear I5 I6 I7
                  go_wp2
                  go_roundw
                  case rel => exact ⟨q + 1, _, f', by omega, by go_num, HS1, hfl', by simp; omega, I8.l⟩
                  case measure => simp [intOf]; omega
            · have HS : Hid (clkE k ds es (q + 1) = (evs, f)) := Lib.hid (by rw [HST.out]; rfl)
              clear HST r4
              go_wp2
              go_roundw
              case rel => exact ⟨q + 1, evs, f, by omega, by go_num, HS, hfl, by omega, hI.more ((Keep.refl _).alloc _)⟩
              case measure => simp [intOf]; omega
          · obtain rfl : q = ds.length := by omega
            go_wp2
            go_roundw
            case rel => exact ⟨k + 1, evs, by omega, by go_num, Lib.hid (by rw [evsW, ← HDS.out, ← hE.out, hC.out]), by omega, hI.app, hI.keep⟩
            case measure => simp [intOf]; omega
      · obtain rfl : k = dss.length := by omega
        go_wp2
        go_ret
        exact ⟨_, rfl, by rw [← hE.out]; exact ho, hK⟩
theorem specReadsOf_any (w : World) (v : Value) (es : List Ev) (h : RdE w v es) (hx : es.length ≤ 1048576) :
    Calls Try.prog 43 #[v] w fun e w' => ∃ v', e = .returned v' ∧ Own w' w.heap.size v' (idxB rdE es) ∧ Keep w w' := by
  have hown0 : Own (w.alloc (.cells #[] 2)) w.heap.size (.slice (some ⟨w.heap.size, 0, none⟩) 0 0) [] := World.ownsRow_lit w #[] 0 (Nat.le_refl _) (by decide) rfl
  obtain ⟨a, cap, rfl, h⟩ := h
  by_cases hl : 12 < es.length
  · have HE : Hid (idxB rdE es = []) := Lib.hid (by unfold idxB; rw [if_neg (by omega)])
    have l1 : (12 : Int) < (es.length : Int) := by omega
    go_enter Try.func43, Try.ntmps43
    go_wp2
    refine wp_loop_rounds 1 ?_
    rw [rounds_succ]
    go_wp2
    go_ret
    exact ⟨_, rfl, by rw [HE.out]; exact hown0, (Keep.refl _).alloc _⟩
  have l1 : es.length ≤ 12 := by omega
  clear hl
  have HE : Hid (idxB rdE es = idxK rdE es es.length) := Lib.hid (by unfold idxB; rw [if_pos l1])
  obtain ⟨i0, hi, hz0, hz1, hz2⟩ := info_parts Try.infoI
  go_enter Try.func43, Try.ntmps43
  go_wp2
  go_loopw [3, 4] (fun v i wr => ∃ k : Nat, k ≤ es.length ∧ i = .int .i64 k ∧ Own wr w.heap.size v (idxK rdE es k) ∧ Keep w wr) (fun _ i _ => es.length - (intOf i).toNat)
  case atStart => exact ⟨0, Nat.zero_le _, rfl, hown0, (Keep.refl _).alloc _⟩
  case round =>
    obtain ⟨k, hk, rfl, ho, hK⟩ := hrel
    clear hown0
    by_cases hlt : k < es.length
    · rcases h with h | ⟨b, off, rfl, hb, hc⟩
      · exfalso; rw [h] at hlt; simp at hlt
      have AT := (hc k _ (evs_get hlt)).keep hb hK
      have hbw : b < wr.heap.size := Nat.lt_of_lt_of_le hb hK.size
      clear hc
      have hml : (idxK rdE es k).length ≤ k := idxK_len rdE es k
      have hsz := hK.size
      have i1 : (0 : Int) ≤ (k : Int) := Int.natCast_nonneg _
      have i2 : (k : Int) < (es.length : Int) := by omega
      have l2 : (es.length : Int) ≤ 12 := by omega
      have HP : Hid (idxK rdE es (k + 1) = if rdE (es.getD k zE) = true then idxK rdE es k ++ [(k : Int)] else idxK rdE es k) := Lib.hid rfl
      obtain ⟨e, he⟩ : ∃ e, e = es.getD k zE := ⟨_, rfl⟩
      rw [← he] at AT HP
      clear he
      obtain ⟨x0, x1, x2, x3, x4, x5⟩ := e
      obtain ⟨-, -, A2, -, -, -⟩ := atE AT
      clear AT
      cases x2
      · have HM : Hid (idxK rdE es (k + 1) = idxK rdE es k) := Lib.hid (by rw [HP.out]; rfl)
        clear HP
        go_wp2
        go_roundw
        case rel => exact ⟨k + 1, by omega, by go_num, by rw [HM.out]; exact ho, hK⟩
        case measure => simp [intOf]; omega
      · have HM : Hid (idxK rdE es (k + 1) = idxK rdE es k ++ [(k : Int)]) := Lib.hid (by rw [HP.out]; rfl)
        clear HP
        go_wp2_with (at_builtin; refine wpList_append_own _ rfl _ _ 25 rfl w.heap.size 2 i0 (.int .i64 0) 1 8 Try.underlying25 hi hz0 hz1 hz2 rfl (by decide) _ _ _ rfl (World.ownsRow.alloc ho _) ⟨_, 0, none⟩ 1 1 [.int .i64 k] rfl rfl ?c1 ?c2 ?c3 ?c4 ?c5 ?_)
        case c1 =>
          intro j u hj
          match j, hj with
          | 0, hj => simp at hj; subst hj; simp [Addr.add]
        case c2 => intro u hu; simp at hu; subst hu; rfl
        case c3 => unfold maxLen; omega
        case c4 => omega
        case c5 => simp; omega
        intro v' w1 hown' hgrow _
        have hK1 : Keep w w1 := (hK.alloc _).grown hgrow ho.ge
        clear hgrow
        go_wp2
        go_roundw
        case rel => exact ⟨k + 1, by omega, by go_num, by rw [HM.out]; exact own_hit hown', hK1⟩
        case measure => simp [intOf]; omega
    · obtain rfl : k = es.length := by omega
      go_wp2
      go_ret
      exact ⟨_, rfl, by rw [HE.out]; exact ho, hK⟩
section
section
variable {P : Program} {w : World}
theorem wp_append_at {o : Oper} {a : Act} {K : Act → World → Prop} {Q : Exit → Act → World → Prop} (s x : Operand) (t : TypeId)
    (ho : o.op = .call { callee := .builtin .append, args := #[s, x], argTypes := #[t, t] })
    (base : Nat) (e : TypeId) (i : TypeInfo) (z : Value) (size bytes : Nat) (ht : P.underlying t = some (.slice e)) (hi : P.info? e = some i) (hz : i.zero = some z)
    (hsize : i.size = size) (hby : i.bytes = bytes) (hzs : z.cells.size = size) (hsz : 0 < size)
    (v : Value) (n : Nat) (xs : List Value) (hs : a.eval s = v) (hown : w.ownsRow base e size v n xs)
    (ad : Addr) (m c : Nat) (news : List Value) (hx : a.eval x = .slice (some ad) m c) (hl : news.length = m * size) (hnews : ∀ j u, news[j]? = some u → w.cell? (ad.add j) = some u) (h1 : ∀ u ∈ news, u.oneCell' = true)
    (h63 : n + m ≤ maxLen) (hbytes : (n + m) * bytes ≤ 140737488355328) (hbase : base ≤ w.heap.size)
    (h : ∀ v' w', w'.ownsRow base e size v' (n + m) (xs ++ news) → w.grownBy w' v.ownBlock → (v'.ownBlock = v.ownBlock ∨ v'.ownBlock = some w.heap.size) → K (a.put o.dst v') w') : o.wp P a w K Q := by
  obtain ⟨v', w', hr, h2, h3, _, h5⟩ := run_append_own_at (P := P) w base t o.type e i z size bytes ht hi hz hsize hby hzs hsz v n xs hown ad m c news hl hnews h1 h63 hbytes hbase
  unfold Oper.wp execOp
  simp only [ho, resolve, invoke, builtin, Sem.run_bind, Sem.run_pure, Result.andThen_ok, List.map_toArray, List.map_cons, List.map_nil, hs, hx, hr]
  exact h v' w' h2 h3 h5
end
theorem wp_append_rd {w : World} {o : Oper} {a : Act} {K : Act → World → Prop} {Q : Exit → Act → World → Prop} (s x : Operand)
    (ho : o.op = .call { callee := .builtin .append, args := #[s, x], argTypes := #[25, 25] })
    (base : Nat) (v : Value) (zs : List Int) (hs : a.eval s = v) (hown : Own w base v zs)
    (vx : Value) (hx : a.eval x = vx) (ys : List Int) (hr : Rd w vx ys) (hz : zs.length ≤ 1048576) (hy : ys.length ≤ 1048576) (hb : base ≤ w.heap.size)
    (h : ∀ v' w', Own w' base v' (zs ++ ys) → w.grownBy w' v.ownBlock → (v'.ownBlock = v.ownBlock ∨ v'.ownBlock = some w.heap.size) → K (a.put o.dst v') w') : o.wp Try.prog a w K Q := by
  obtain ⟨i0, hi, hz0, hz1, hz2⟩ := info_parts Try.infoI
  have law : ∀ (ad : Addr) (c : Nat), a.eval x = .slice (some ad) ys.length c → (∀ j u, (ys.map (Value.int .i64))[j]? = some u → w.cell? (ad.add j) = some u) → o.wp Try.prog a w K Q := fun ad c hx hn => by
    refine wp_append_at s x 25 ho base 2 i0 _ 1 8 Try.underlying25 hi hz0 hz1 hz2 rfl (by decide) v zs.length (zs.map (Value.int .i64)) hs hown ad ys.length c (ys.map (Value.int .i64)) hx (by simp) hn (fun u hu => ?_) (by unfold maxLen; omega) (by omega) hb ?_
    · obtain ⟨q, _, rfl⟩ := List.mem_map.1 hu; rfl
    · intro v' w' h1 h2 h3
      refine h v' w' ?_ h2 h3
      unfold Own
      rw [List.length_append, List.map_append]
      exact h1
  obtain ⟨ax, cx, rfl, hr⟩ := hr
  rcases hr with h0 | ⟨bx, ox, rfl, hbx, hcx⟩
  · subst h0
    cases ax with
    | none =>
      have hh := h v w (by rw [List.append_nil]; exact hown) (World.grownBy.refl _ _) (.inl rfl)
      rcases hown.2 with ⟨rfl, hn0⟩ | ⟨g, cap, cur, rfl, -, -, hcap, -⟩
      · unfold Oper.wp execOp
        simp only [ho, resolve, invoke, builtin, Sem.run_bind, Sem.run_pure, Result.andThen_ok, List.map_toArray, List.map_cons, List.map_nil, hs, hx]
        go_simp
        exact hh
      · unfold Oper.wp execOp
        simp only [ho, resolve, invoke, builtin, Sem.run_bind, Sem.run_pure, Result.andThen_ok, List.map_toArray, List.map_cons, List.map_nil, hs, hx]
        go_simp
        exact hh
    | some y => exact law y _ hx (fun j u hu => by simp at hu)
  · refine law _ _ hx (fun j u hu => ?_)
    have hj : j < ys.length := by have := (List.getElem?_eq_some_iff.1 hu).1; simpa using this
    have e := hcx j hj
    rw [List.getElem?_map, List.getElem?_eq_getElem hj] at hu
    simp only [Option.map_some, Option.some.injEq] at hu
    rw [List.getD_eq_getElem?_getD, List.getElem?_eq_getElem hj] at e
    simp only [Option.getD_some] at e
    rw [← hu]
    have ea : (⟨bx, ox, none⟩ : Addr).add j = ⟨bx, ox + j, none⟩ := by
      by_cases hj0 : j = 0
      · subst hj0; simp [Addr.add]
      · simp [Addr.add, hj0]
    rw [ea]
    exact e
end
theorem wpList_append_rd {w : World} {ops : Array Oper} {rest : List Oper} {o : Oper} {a : Act} {Q : Exit → Act → World → Prop} (hgd : o.guard = none) (s x : Operand)
    (ho : o.op = .call { callee := .builtin .append, args := #[s, x], argTypes := #[25, 25] })
    (base : Nat) (v : Value) (zs : List Int) (hs : a.eval s = v) (hown : Own w base v zs)
    (vx : Value) (hx : a.eval x = vx) (ys : List Int) (hr : Rd w vx ys) (hz : zs.length ≤ 1048576) (hy : ys.length ≤ 1048576) (hb : base ≤ w.heap.size)
    (h : ∀ v' w', Own w' base v' (zs ++ ys) → w.grownBy w' v.ownBlock → (v'.ownBlock = v.ownBlock ∨ v'.ownBlock = some w.heap.size) → wpList Try.prog ops Q rest (a.put o.dst v') w') : wpList Try.prog ops Q (o :: rest) a w :=
  wpList_plain hgd fun _ hK => wp_append_rd s x ho base v zs hs hown vx hx ys hr hz hy hb (fun v' w' h1 h2 h3 => hK _ _ (h v' w' h1 h2 h3))
section
abbrev ddR (ds : List Dd) (v : Value) : Rw := ⟨98, 4, v, ds.length, ds.flatMap cD⟩
section
variable {α : Type} (t : TypeId) (rowOf : List α → Value → Rw)
def llR (v : Value) (hs : List Value) (xss : List (List α)) : Option Nat → Rw
  | none => hdR t hs v
  | some i => rowOf (xss.getD i []) (hs.getD i nilS)
def llLive (j : Nat) : Option Nat → Prop
  | none => True
  | some i => i < j
structure LLP (w : World) (m : Nat) (v : Value) (hs : List Value) (xss : List (List α)) (j : Nat) : Prop where
  fam : Fam w m (llLive j) (llR t rowOf v hs xss)
  len : hs.length = xss.length
  hv : ∀ xs u, (rowOf xs u).v = u
variable {t rowOf} {w w2 : World} {m : Nat} {v u : Value} {hs : List Value} {xss : List (List α)} {j : Nat}
theorem LLP.keep (h : LLP t rowOf w m v hs xss j) (k : Keep w w2) : LLP t rowOf w2 m v hs xss j := ⟨h.fam.keep k, h.len, h.hv⟩
theorem LLP.step (h : LLP t rowOf w m v hs xss j) (hj : j < xss.length) (k : Keep w w2) (ho : (rowOf (xss.getD j []) u).own w2 m) (hn : ∀ b, u.ownBlock = some b → w.heap.size ≤ b) {g cap : Nat} (hv : v = .slice (some ⟨g, 0, none⟩) hs.length cap) :
    LLP t rowOf (w2.setCell ⟨g, j, none⟩ u) m v (hs.set j u) xss (j + 1) ∧ w2.cell? ⟨g, j, none⟩ = some (hs.getD j nilS) ∧ w2.frozen? ⟨g, j, none⟩ = false ∧ w2.grownBy (w2.setCell ⟨g, j, none⟩ u) (some g) ∧ m ≤ g := by
  have hjl : j < hs.length := by rw [h.len]; exact hj
  have F1 := h.fam.add (i := some j) (fun q => Nat.lt_irrefl _ (show j < j from q)) (r := rowOf (xss.getD j []) u) rfl k ho (fun b hb => hn b (by rw [h.hv] at hb; exact hb))
  have o1 : (hdR t hs v).own w2 m := by have := F1.own none (.inl trivial); rw [upd_other _ _ (by simp)] at this; exact this
  obtain ⟨q1, q2, q3⟩ := Rw.put o1 (g := g) (cap := cap) (k := j) hv u
  have F2 := F1.set (i := none) (.inl trivial) (r := { hdR t hs v with xs := hs.set j u }) (by rw [upd_other _ _ (by simp)]; exact q2) (.inl (by rw [upd_other _ _ (by simp)]; rfl)) q1
  have hb : v.ownBlock = some g := by rw [hv]; rfl
  refine ⟨⟨F2.congr (fun o ho' => ?_) (fun o ho' => ?_), by rw [List.length_set]; exact h.len, h.hv⟩, ?_, q3, by rw [← hb]; exact q2, (h.fam.lt (i := none) trivial g hb).1⟩
  · cases o with
    | none => exact .inl trivial
    | some i =>
      have hi : i < j + 1 := ho'
      by_cases e : i = j
      · exact .inr (by rw [e])
      · exact .inl (show i < j by omega)
  · cases o with
    | none =>
      rw [upd_same]
      show hdR t (hs.set j u) v = _
      simp [hdR]
    | some i =>
      rw [upd_other _ _ (by simp)]
      show rowOf (xss.getD i []) ((hs.set j u).getD i nilS) = _
      rw [getD_setV _ _ _ _ hjl]
      by_cases e : i = j
      · subst e; rw [if_pos rfl, upd_same]
      · rw [if_neg e, upd_other _ _ (by simpa using e)]; rfl
  · have := Rw.cell o1 (g := g) (cap := cap) (k := j) hv (by show j < hs.length * 1; omega)
    rw [this, List.getD_eq_getElem?_getD]
    show hs[j]? = _
    rw [List.getElem?_eq_getElem hjl]
    rfl
structure OwnLL (t : TypeId) (rowOf : List α → Value → Rw) (w : World) (m : Nat) (v : Value) (hs : List Value) (xss : List (List α)) : Prop where
  fam : Fam w m (llLive hs.length) (llR t rowOf v hs xss)
  len : hs.length = xss.length
theorem LLP.all (h : LLP t rowOf w m v hs xss xss.length) : OwnLL t rowOf w m v hs xss := ⟨by rw [h.len]; exact h.fam, h.len⟩
theorem LLP.new (ho : (hdR t (List.replicate xss.length nilS) v).own w m) (hv : ∀ xs u, (rowOf xs u).v = u) : LLP t rowOf w m v (List.replicate xss.length nilS) xss 0 := by
  refine ⟨⟨fun o h => ?_, fun o o' h h' hne => ?_⟩, by simp, hv⟩
  · cases o with
    | none => exact ho
    | some i => exact absurd (show i < 0 from h) (by omega)
  · cases o with
    | none =>
      cases o' with
      | none => exact absurd rfl hne
      | some i => exact absurd (show i < 0 from h') (by omega)
    | some i => exact absurd (show i < 0 from h) (by omega)
end
end
section
inductive BJ where
  | b (i : BI)
  | wk
  | wd (c : Nat) deriving DecidableEq
def famA (v : BV) (nv rv wv : List Value) (dss : List (List Dd)) (b : Bd) : BJ → Rw
  | .b i => famR 0 v nv rv b i
  | .wk => hdR 72 wv v.W
  | .wd c => ddR (dss.getD c []) (wv.getD c nilS)
def liveA (nv rv wv : List Value) : BJ → Prop
  | .b i => liveB nv rv i ∧ i ≠ .bd
  | .wk => True
  | .wd c => c < wv.length
structure OwnA (w : World) (m : Nat) (v : BV) (nv rv wv : List Value) (dss : List (List Dd)) (b : Bd) : Prop where
  fam : Fam w m (liveA nv rv wv) (famA v nv rv wv dss b)
  ln : nv.length = b.nts.length
  lr : rv.length = b.rws.length
  lw : wv.length = dss.length
theorem Fam.ranges {ι : Type} {w : World} {live : ι → Prop} {R : ι → Rw} (rk : ι → Nat) (s : Nat → Nat) (n : Nat) (mono : ∀ i, i < n → s i ≤ s (i + 1)) (hrk : ∀ i, live i → rk i < n)
    (own : ∀ i, live i → (R i).own w (s (rk i))) (lt : ∀ i, live i → ∀ b, (R i).v.ownBlock = some b → b < s (rk i + 1))
    (ap : ∀ i j, live i → live j → i ≠ j → rk i = rk j → (R i).v.ownBlock = none ∨ (R i).v.ownBlock ≠ (R j).v.ownBlock) : Fam w (s 0) live R := by
  have up : ∀ i j, i ≤ j → j ≤ n → s i ≤ s j := fun i j hij => by
    induction j with
    | zero => intro _; obtain rfl : i = 0 := by omega
              exact Nat.le_refl _
    | succ j ih =>
      intro hj
      by_cases e : i = j + 1
      · subst e; exact Nat.le_refl _
      · exact Nat.le_trans (ih (by omega) (by omega)) (mono j (by omega))
  refine ⟨fun i hi => own_base (own i hi) (up 0 (rk i) (by omega) (by have := hrk i hi; omega)), fun i j hi hj hij => ?_⟩
  by_cases e : rk i = rk j
  · exact ap i j hi hj hij e
  · cases eb : (R i).v.ownBlock with
    | none => exact .inl rfl
    | some k =>
      refine .inr (fun e' => ?_)
      have h1 := (World.ownsRow.lt (own i hi) k eb).1
      have h2 := lt i hi k eb
      have h3 := (World.ownsRow.lt (own j hj) k e'.symm).1
      have h4 := lt j hj k e'.symm
      have r1 := hrk i hi
      have r2 := hrk j hj
      rcases Nat.lt_or_ge (rk i) (rk j) with q | q
      · have := up (rk i + 1) (rk j) (by omega) (by omega); omega
      · have := up (rk j + 1) (rk i) (by omega) (by omega); omega
theorem Fam.base_le2 {ι : Type} {w : World} {m m' : Nat} {live : ι → Prop} {R : ι → Rw} (h : Fam w m live R) (hm : m' ≤ m) : Fam w m' live R := ⟨fun i hi => own_base (h.own i hi) hm, h.apart⟩
section
variable {w w' : World} {m : Nat} {v : BV} {nv rv wv : List Value} {dss : List (List Dd)} {b : Bd}
theorem OwnA.keep (h : OwnA w m v nv rv wv dss b) (k : Keep w w') : OwnA w' m v nv rv wv dss b := ⟨h.fam.keep k, h.ln, h.lr, h.lw⟩
theorem OwnA.far (h : OwnA w m v nv rv wv dss b) {g : Nat} (hg : w.grownBy w' (some g)) (hl : g < m) : OwnA w' m v nv rv wv dss b :=
  ⟨h.fam.far hg (fun i hi => by
    cases e : (famA v nv rv wv dss b i).v.ownBlock with
    | none => exact .inl rfl
    | some k => exact .inr (fun e' => by have := (h.fam.lt hi k e).1; have := Option.some.inj e'; omega)), h.ln, h.lr, h.lw⟩
theorem OwnA.rd (h : OwnA w m v nv rv wv dss b) : RdBd w v dss b := by
  have oN : ∀ {c : Nat}, c < b.nts.length → AppT cN 66 3 w m (nv.getD c nilS) (b.nts.getD c []) := fun {c} hc => h.fam.own (.b (.nt c)) ⟨by show c < nv.length; rw [h.ln]; exact hc, by simp⟩
  have oR : ∀ {p : Nat}, p < b.rws.length → Own w m (rv.getD p nilS) (b.rws.getD p []) := fun {p} hp => h.fam.own (.b (.rw p)) ⟨by show p < rv.length; rw [h.lr]; exact hp, by simp⟩
  have oW : ∀ {c : Nat}, c < dss.length → AppD w m (wv.getD c nilS) (dss.getD c []) := fun {c} hc => h.fam.own (.wd c) (by show c < wv.length; rw [h.lw]; exact hc)
  have o1 : Own w m v.P b.plc := h.fam.own (.b .plc) ⟨trivial, by simp⟩
  have o2 : Own w m v.L b.lst := h.fam.own (.b .lst) ⟨trivial, by simp⟩
  have o3 : Own w m v.X b.nxt := h.fam.own (.b .nxt) ⟨trivial, by simp⟩
  have o4 : Own w m v.S b.sn := h.fam.own (.b .sn) ⟨trivial, by simp⟩
  have o5 : Own w m v.F b.fr := h.fam.own (.b .fr) ⟨trivial, by simp⟩
  refine ⟨?_, o1.rd, o2.rd, ?_, o3.rd, o4.rd, o5.rd, ?_⟩
  · obtain ⟨a, cap, e, h1⟩ := own_head (h.fam.own .wk trivial)
    rw [h.lw] at e
    refine ⟨a, cap, e, ?_⟩
    rcases h1 with h1 | ⟨g, e1, e2, e3⟩
    · left
      have := h.lw
      rw [h1] at this
      exact List.eq_nil_of_length_eq_zero this.symm
    · exact .inr ⟨g, 0, e1, e2, fun i hi => ⟨_, by rw [Nat.zero_add]; exact e3 i (by rw [h.lw]; exact hi), (oW hi).ownD.rd⟩⟩
  · obtain ⟨a, cap, e, h1⟩ := own_head (h.fam.own (.b .nts) ⟨trivial, by simp⟩)
    rw [h.ln] at e
    refine ⟨a, cap, e, ?_⟩
    rcases h1 with h1 | ⟨g, e1, e2, e3⟩
    · left
      have := h.ln
      rw [h1] at this
      exact List.eq_nil_of_length_eq_zero this.symm
    · exact .inr ⟨g, 0, e1, e2, fun i hi => ⟨_, by rw [Nat.zero_add]; exact e3 i (by rw [h.ln]; exact hi), AppT.rd cN_len (oN hi)⟩⟩
  · obtain ⟨a, cap, e, h1⟩ := own_head (h.fam.own (.b .rws) ⟨trivial, by simp⟩)
    rw [h.lr] at e
    refine ⟨a, cap, e, ?_⟩
    rcases h1 with h1 | ⟨g, e1, e2, e3⟩
    · left
      have := h.lr
      rw [h1] at this
      exact List.eq_nil_of_length_eq_zero this.symm
    · exact .inr ⟨g, 0, e1, e2, fun i hi => ⟨_, by rw [Nat.zero_add]; exact e3 i (by rw [h.lr]; exact hi), (oR hi).rd⟩⟩
def rkA : BJ → Nat
  | .wk => 0
  | .wd _ => 0
  | .b .plc => 1
  | .b .lst => 2
  | .b .nts => 3
  | .b (.nt _) => 3
  | .b .nxt => 4
  | .b .sn => 5
  | .b .fr => 6
  | .b .rws => 7
  | .b (.rw _) => 7
  | .b .bd => 0
theorem OwnA.mk8 {s : Nat → Nat} (mono : ∀ i, i < 8 → s i ≤ s (i + 1))
    (h0 : OwnLL 72 ddR w (s 0) v.W wv dss) (l0 : ∀ o, llLive wv.length o → ∀ k, (llR 72 ddR v.W wv dss o).v.ownBlock = some k → k < s 1)
    (h1 : Own w (s 1) v.P b.plc) (l1 : ∀ k, v.P.ownBlock = some k → k < s 2) (h2 : Own w (s 2) v.L b.lst) (l2 : ∀ k, v.L.ownBlock = some k → k < s 3)
    (h3 : OwnLL 36 nvR w (s 3) v.N nv b.nts) (l3 : ∀ o, llLive nv.length o → ∀ k, (llR 36 nvR v.N nv b.nts o).v.ownBlock = some k → k < s 4)
    (h4 : Own w (s 4) v.X b.nxt) (l4 : ∀ k, v.X.ownBlock = some k → k < s 5) (h5 : Own w (s 5) v.S b.sn) (l5 : ∀ k, v.S.ownBlock = some k → k < s 6) (h6 : Own w (s 6) v.F b.fr) (l6 : ∀ k, v.F.ownBlock = some k → k < s 7)
    (h7 : OwnLL 25 ivR w (s 7) v.R rv b.rws) (l7 : ∀ o, llLive rv.length o → ∀ k, (llR 25 ivR v.R rv b.rws o).v.ownBlock = some k → k < s 8) : OwnA w (s 0) v nv rv wv dss b := by
  refine ⟨Fam.ranges rkA s 8 mono (fun i hi => ?_) (fun i hi => ?_) (fun i hi => ?_) (fun i j hi hj hij e => ?_), h3.len, h7.len, h0.len⟩
  · cases i with
    | b i => cases i <;> simp [rkA]
    | wk => simp [rkA]
    | wd c => simp [rkA]
  · match i, hi with
    | .wk, _ => exact h0.fam.own none trivial
    | .wd c, hi => exact h0.fam.own (some c) hi
    | .b .plc, _ => exact h1
    | .b .lst, _ => exact h2
    | .b .nts, _ => exact h3.fam.own none trivial
    | .b (.nt c), hi => exact h3.fam.own (some c) hi.1
    | .b .nxt, _ => exact h4
    | .b .sn, _ => exact h5
    | .b .fr, _ => exact h6
    | .b .rws, _ => exact h7.fam.own none trivial
    | .b (.rw p), hi => exact h7.fam.own (some p) hi.1
    | .b .bd, hi => exact absurd rfl hi.2
  · match i, hi with
    | .wk, _ => exact l0 none trivial
    | .wd c, hi => exact l0 (some c) hi
    | .b .plc, _ => exact l1
    | .b .lst, _ => exact l2
    | .b .nts, _ => exact l3 none trivial
    | .b (.nt c), hi => exact l3 (some c) hi.1
    | .b .nxt, _ => exact l4
    | .b .sn, _ => exact l5
    | .b .fr, _ => exact l6
    | .b .rws, _ => exact l7 none trivial
    | .b (.rw p), hi => exact l7 (some p) hi.1
    | .b .bd, hi => exact absurd rfl hi.2
  · rcases i with (_ | _ | _ | _ | _ | _ | _ | _ | c | c) | _ | c <;> rcases j with (_ | _ | _ | _ | _ | _ | _ | _ | d | d) | _ | d <;>
      first
      | exact absurd rfl hij
      | exact absurd rfl hi.2
      | exact absurd rfl hj.2
      | (exfalso; simp [rkA] at e; done)
      | exact h0.fam.apart none (some _) trivial hj (by simp)
      | exact h0.fam.apart (some _) none hi trivial (by simp)
      | exact h0.fam.apart (some _) (some _) hi hj (fun q => hij (by rw [Option.some.inj q]))
      | exact h3.fam.apart none (some _) trivial hj.1 (by simp)
      | exact h3.fam.apart (some _) none hi.1 trivial (by simp)
      | exact h3.fam.apart (some _) (some _) hi.1 hj.1 (fun q => hij (by rw [Option.some.inj q]))
      | exact h7.fam.apart none (some _) trivial hj.1 (by simp)
      | exact h7.fam.apart (some _) none hi.1 trivial (by simp)
      | exact h7.fam.apart (some _) (some _) hi.1 hj.1 (fun q => hij (by rw [Option.some.inj q]))
end
end
section
def rowsV (s : Nat) (V : Nat → Value) (ln : Nat → Nat) : Nat → List (Value × Nat)
  | 0 => []
  | n + 1 => rowsV s V ln n ++ [(V n, s * ln n)]
theorem rowsV_sub (s : Nat) (V : Nat → Value) (ln : Nat → Nat) : ∀ n j, j ≤ n → (rowsV s V ln j).Sublist (rowsV s V ln n)
  | 0, j, h => by obtain rfl : j = 0 := by omega
                  exact List.Sublist.refl _
  | n + 1, j, h => by
    by_cases e : j = n + 1
    · subst e; exact List.Sublist.refl _
    · exact (rowsV_sub s V ln n j (by omega)).trans (List.sublist_append_left _ _)
theorem rowsV_mem (s : Nat) (V : Nat → Value) (ln : Nat → Nat) : ∀ n (r : Value × Nat), r ∈ rowsV s V ln n ↔ ∃ i, i < n ∧ r = (V i, s * ln i)
  | 0, r => by simp [rowsV]
  | n + 1, r => by
    rw [rowsV, List.mem_append, rowsV_mem s V ln n r, List.mem_singleton]
    constructor
    · rintro (⟨i, hi, e⟩ | e)
      · exact ⟨i, by omega, e⟩
      · exact ⟨n, by omega, e⟩
    · rintro ⟨i, hi, e⟩
      by_cases h : i = n
      · subst h; exact .inr e
      · exact .inl ⟨i, by omega, e⟩
theorem rowsV_tot (s : Nat) (V : Nat → Value) (ln : Nat → Nat) (n : Nat) : totR (rowsV s V ln (n + 1)) = totR (rowsV s V ln n) + s * ln n := by
  rw [rowsV, totR_append]; simp [totR]
theorem rowsV_mono (s : Nat) (V : Nat → Value) (ln : Nat → Nat) : ∀ n j, j ≤ n → totR (rowsV s V ln j) ≤ totR (rowsV s V ln n)
  | 0, j, h => by obtain rfl : j = 0 := by omega
                  exact Nat.le_refl _
  | n + 1, j, h => by
    by_cases e : j = n + 1
    · subst e; exact Nat.le_refl _
    · have := rowsV_mono s V ln n j (by omega)
      rw [rowsV_tot]
      omega
def SlV (v : Value) (n : Nat) : Prop := ∃ a c, v = .slice a n c ∧ (n = 0 ∨ ∃ b o, a = some ⟨b, o, none⟩)
theorem rowsV_mk (s : Nat) (V : Nat → Value) (ln : Nat → Nat) {w : World} {k : Int} : ∀ n, mkR w k (rowsV s V ln n) → ∀ j, j < n → Mkd w (V j) (s * ln j) (k + totR (rowsV s V ln j))
  | 0, _, j, hj => absurd hj (Nat.not_lt_zero j)
  | n + 1, h, j, hj => by
    rw [rowsV, mkR_append] at h
    by_cases e : j = n
    · subst e; exact h.2.1
    · exact rowsV_mk s V ln n h.1 j (by omega)
section
variable (v : BV) (Vw Vn Vr : Nat → Value) (dss : List (List Dd)) (b : Bd)
def bdR0 : List (Value × Nat) := rowsV 4 Vw (fun i => (dss.getD i []).length) dss.length
def bdR1 : List (Value × Nat) := bdR0 Vw dss ++ [(v.P, b.plc.length)]
def bdR2 : List (Value × Nat) := bdR1 v Vw dss b ++ [(v.L, b.lst.length)]
def bdR3 : List (Value × Nat) := bdR2 v Vw dss b ++ rowsV 3 Vn (fun i => (b.nts.getD i []).length) b.nts.length
def bdR4 : List (Value × Nat) := bdR3 v Vw Vn dss b ++ [(v.X, b.nxt.length)]
def bdR5 : List (Value × Nat) := bdR4 v Vw Vn dss b ++ [(v.S, b.sn.length)]
def bdR6 : List (Value × Nat) := bdR5 v Vw Vn dss b ++ [(v.F, b.fr.length)]
def bdR7 : List (Value × Nat) := bdR6 v Vw Vn dss b ++ rowsV 1 Vr (fun i => (b.rws.getD i []).length) b.rws.length
end
def HdL (w : World) (v : Value) (V : Nat → Value) (n : Nat) (S : Addr → Prop) : Prop :=
  ∃ a c, v = .slice a n c ∧ (n = 0 ∨ ∃ b o, a = some ⟨b, o, none⟩ ∧ b < w.heap.size ∧ ∀ i, i < n → w.cell? ⟨b, o + i, none⟩ = some (V i) ∧ ¬ S ⟨b, o + i, none⟩)
theorem HdL.keep {w w' : World} {v : Value} {V : Nat → Value} {n : Nat} {S : Addr → Prop} (h : HdL w v V n S) (k : Keep w w') : HdL w' v V n S := by
  obtain ⟨a, c, e, h⟩ := h
  refine ⟨a, c, e, ?_⟩
  rcases h with h | ⟨b, o, ea, hb, hc⟩
  · exact .inl h
  · exact .inr ⟨b, o, ea, Nat.lt_of_lt_of_le hb k.size, fun i hi => ⟨(k.cell hb).trans (hc i hi).1, (hc i hi).2⟩⟩
theorem HdL.kept {w w' : World} {v : Value} {V : Nat → Value} {n : Nat} {S T : Addr → Prop} (h : HdL w v V n S) (k : Wrt T w w') (hs : ∀ x, T x → S x) : HdL w' v V n S := by
  obtain ⟨a, c, e, h⟩ := h
  refine ⟨a, c, e, ?_⟩
  rcases h with h | ⟨b, o, ea, hb, hc⟩
  · exact .inl h
  · exact .inr ⟨b, o, ea, Nat.lt_of_lt_of_le hb k.size, fun i hi => ⟨(k.cell _ hb (fun h => (hc i hi).2 (hs _ h))).trans (hc i hi).1, (hc i hi).2⟩⟩
theorem HdL.less {w : World} {v : Value} {V : Nat → Value} {n : Nat} {S T : Addr → Prop} (h : HdL w v V n S) (hs : ∀ x, T x → S x) : HdL w v V n T := by
  obtain ⟨a, c, e, h⟩ := h
  refine ⟨a, c, e, ?_⟩
  rcases h with h | ⟨b, o, ea, hb, hc⟩
  · exact .inl h
  · exact .inr ⟨b, o, ea, hb, fun i hi => ⟨(hc i hi).1, fun h => (hc i hi).2 (hs _ h)⟩⟩
theorem HdL.plain {w : World} {v : Value} {V : Nat → Value} {n : Nat} {S : Addr → Prop} (h : HdL w v V n S) : ∃ a c, v = .slice a n c ∧ (n = 0 ∨ ∃ b o, a = some ⟨b, o, none⟩ ∧ b < w.heap.size ∧ ∀ i, i < n → w.cell? ⟨b, o + i, none⟩ = some (V i)) := by
  obtain ⟨a, c, e, h⟩ := h
  refine ⟨a, c, e, ?_⟩
  rcases h with h | ⟨b, o, ea, hb, hc⟩
  · exact .inl h
  · exact .inr ⟨b, o, ea, hb, fun i hi => (hc i hi).1⟩
structure HdBd (w : World) (v : BV) (Vw Vn Vr : Nat → Value) (dss : List (List Dd)) (b : Bd) : Prop where
  hW : HdL w v.W Vw dss.length (rowsS (bdR7 v Vw Vn Vr dss b))
  sW : ∀ i, i < dss.length → SlV (Vw i) (dss.getD i []).length
  sP : SlV v.P b.plc.length
  sL : SlV v.L b.lst.length
  hN : HdL w v.N Vn b.nts.length (rowsS (bdR7 v Vw Vn Vr dss b))
  sN : ∀ i, i < b.nts.length → SlV (Vn i) (b.nts.getD i []).length
  sX : SlV v.X b.nxt.length
  sS : SlV v.S b.sn.length
  sF : SlV v.F b.fr.length
  hR : HdL w v.R Vr b.rws.length (rowsS (bdR7 v Vw Vn Vr dss b))
  sR : ∀ i, i < b.rws.length → SlV (Vr i) (b.rws.getD i []).length
theorem totR_sub {a b : List (Value × Nat)} (h : a.Sublist b) : totR a ≤ totR b := by
  induction h with
  | slnil => exact Nat.le_refl _
  | cons r _ ih => simp only [totR]; omega
  | cons_cons r _ ih => simp only [totR]; omega
theorem rowsS_sub {a b : List (Value × Nat)} (h : a.Sublist b) {x : Addr} (hx : rowsS a x) : rowsS b x := by
  obtain ⟨r, hr, hx⟩ := hx
  exact ⟨r, h.subset hr, hx⟩
section
variable {w w' : World} {v : BV} {Vw Vn Vr : Nat → Value} {dss : List (List Dd)} {b : Bd}
theorem HdBd.keep (h : HdBd w v Vw Vn Vr dss b) (k : Keep w w') : HdBd w' v Vw Vn Vr dss b :=
  ⟨h.hW.keep k, h.sW, h.sP, h.sL, h.hN.keep k, h.sN, h.sX, h.sS, h.sF, h.hR.keep k, h.sR⟩
theorem HdBd.kept (h : HdBd w v Vw Vn Vr dss b) {T : Addr → Prop} (k : Wrt T w w') (hs : ∀ x, T x → rowsS (bdR7 v Vw Vn Vr dss b) x) : HdBd w' v Vw Vn Vr dss b :=
  ⟨h.hW.kept k hs, h.sW, h.sP, h.sL, h.hN.kept k hs, h.sN, h.sX, h.sS, h.sF, h.hR.kept k hs, h.sR⟩
theorem bd_sub7 : (bdR7 v Vw Vn Vr dss b).Sublist (bdR7 v Vw Vn Vr dss b) := List.Sublist.refl _
theorem bd_sub6 : (bdR6 v Vw Vn dss b).Sublist (bdR7 v Vw Vn Vr dss b) := (List.sublist_append_left _ _).trans (bd_sub7 (v := v) (Vw := Vw) (Vn := Vn) (Vr := Vr) (dss := dss) (b := b))
theorem bd_sub5 : (bdR5 v Vw Vn dss b).Sublist (bdR7 v Vw Vn Vr dss b) := (List.sublist_append_left _ _).trans (bd_sub6 (v := v) (Vw := Vw) (Vn := Vn) (Vr := Vr) (dss := dss) (b := b))
theorem bd_sub4 : (bdR4 v Vw Vn dss b).Sublist (bdR7 v Vw Vn Vr dss b) := (List.sublist_append_left _ _).trans (bd_sub5 (v := v) (Vw := Vw) (Vn := Vn) (Vr := Vr) (dss := dss) (b := b))
theorem bd_sub3 : (bdR3 v Vw Vn dss b).Sublist (bdR7 v Vw Vn Vr dss b) := (List.sublist_append_left _ _).trans (bd_sub4 (v := v) (Vw := Vw) (Vn := Vn) (Vr := Vr) (dss := dss) (b := b))
theorem bd_sub2 : (bdR2 v Vw dss b).Sublist (bdR7 v Vw Vn Vr dss b) := (List.sublist_append_left _ _).trans (bd_sub3 (v := v) (Vw := Vw) (Vn := Vn) (Vr := Vr) (dss := dss) (b := b))
theorem bd_sub1 : (bdR1 v Vw dss b).Sublist (bdR7 v Vw Vn Vr dss b) := (List.sublist_append_left _ _).trans (bd_sub2 (v := v) (Vw := Vw) (Vn := Vn) (Vr := Vr) (dss := dss) (b := b))
theorem bd_sub0 : (bdR0 Vw dss).Sublist (bdR7 v Vw Vn Vr dss b) := (List.sublist_append_left _ _).trans (bd_sub1 (v := v) (Vw := Vw) (Vn := Vn) (Vr := Vr) (dss := dss) (b := b))
end
end
end Go.Proofs.Ytgakfkjjkobpiaa
