/- Whatever bytes two lists are drawn from, the program's Joined, Common, Less, Then and WebOk answer as the specification does; what is less and what is common join to the web, joined is the same either way, and a line of Then is two lines with one between: the law FnWebs answers true and its argument stays; no condition. -/
import Derived.Test.YtmigdnceidbppaaRows
import Derived.WalkKit
import Derived.ProofKit
import Derived.OpenShut
import Derived.ShutString
import Derived.ChangeOld
import Derived.Below
import Derived.Test.YtmigdnceidbppaaJoinedI
import Derived.Test.YtmigdnceidbppaaCommonI
import Derived.Test.YtmigdnceidbppaaLessI
import Derived.Test.YtmigdnceidbppaaThenI
import Derived.Test.YtmigdnceidbppaaJoinS
import Derived.Test.YtmigdnceidbppaaCommonS
import Derived.Test.YtmigdnceidbppaaLessS
import Derived.Test.YtmigdnceidbppaaThenS
import Derived.Test.YtmigdnceidbppaaBackI
import Derived.Test.YtmigdnceidbppaaWebDraw
import Derived.Test.YtmigdnceidbppaaWithin
import Derived.Test.YtmigdnceidbppaaExactAid
import Derived.Test.YtmigdnceidbppaaWebMath
namespace Go.Proofs.Ytmigdnceidbppaa.fnWebs
open Go.ChangeShapes Go.WideShapes Go.ChangeAt Go.RowKit
open Go.ChangeMaps (open_string shut_string)
set_option linter.unusedVariables false

theorem own : ownKnob Try.prog.godebug = none := by kernel_rfl
theorem laidOut : laidOutB Try.prog = true := by kernel_rfl

/-- WHAT THE WALK IS TOLD OF A SLICE OF INTEGERS THAT CAME IN: it is nil; or it leads to a row of 'cap' cells, the numbers 'zs' (the first 'len' are its elements, the rest its spare room), each fitting its kind. -/
def IsRow (k : IntKind) (w : World) (a : Option Addr) (len cap : Nat) (zs : List Int) : Prop :=
  (a = none ∧ len = 0 ∧ cap = 0 ∧ zs = []) ∨
  ∃ x, a = some x ∧ len ≤ cap ∧ cap ≤ maxLen ∧ zs.length = cap ∧ (∀ i, i < zs.length → w.cell? (x.add i) = some (.int k (zs.getD i 0))) ∧ ∀ n ∈ zs, (Lit.int k n).wf = true

set_option maxRecDepth 100000 in
set_option maxHeartbeats 8000000 in
theorem walk (a0 : Option Addr) (len0 cap0 : Nat) (z0 : List Int) (w : World) (w0 : IsRow .u8 w a0 len0 cap0 z0) :
    Calls Try.prog 4 #[.slice a0 len0 cap0] w fun e w' => e = .returned (.bool true) ∧ Below w.heap.size w w' := by
  by_cases hbig : 4096 < len0
  · have hb : decide (4096 < len0) = true := by simpa using hbig
    go_enter Try.func4, Try.ntmps4
    go_wp2_with (go_at_call 7; refine (big_any _ _ _ _).mono ?_; rintro e w' ⟨rfl, rfl⟩)
    go_ret
    exact ⟨rfl, Below.refl _ _⟩
  · obtain ⟨zs, hzl, hrb⟩ := rdb_of_row (by omega) w0
    subst hzl
    have hb : decide (4096 < zs.length) = false := by simpa using hbig
    clear w0 hbig
    go_enter Try.func4, Try.ntmps4
    go_wp2_with fail
    refine (big_any _ _ _ _).mono ?_
    rintro e w1 ⟨rfl, rfl⟩
    go_wp2_with fail
    refine (drawJoined_any _ _ _ _ hrb).mono ?_
    rintro e w2 ⟨va, vb, la, lb, rfl, ra, rb, hla, hlb, k2⟩
    clear hrb
    have ha := ra.rd
    have hbb := rb.rd
    clear ra rb
    have s0 := ha
    obtain ⟨aa, ca, rfl, _⟩ := s0
    have s1 := hbb
    obtain ⟨ab, cb, rfl, _⟩ := s1
    have hj12 := mixL_len orI la lb
    have hc12 := mixL_len andI la lb
    have hl12 := mixL_len notI la lb
    have ht12 := thenL_len la lb
    go_wp2_with fail
    refine (implJoined_any _ _ _ _ _ ha hbb (by omega) (by omega)).mono ?_
    rintro e u4 ⟨v1, rfl, r2, k3⟩
    have ha5 := ha.keep k3
    have hb6 := hbb.keep k3
    have K7 := k2.trans k3
    clear ha hbb k2 k3
    have hj8 := r2.rd
    clear r2
    have s9 := hj8
    obtain ⟨aj, cj, rfl, _⟩ := s9
    go_wp2_with fail
    refine (implCommon_any _ _ _ _ _ ha5 hb6 (by omega) (by omega)).mono ?_
    rintro e u13 ⟨v10, rfl, r11, k12⟩
    have ha14 := ha5.keep k12
    have hb15 := hb6.keep k12
    have hj16 := hj8.keep k12
    have K17 := K7.trans k12
    clear ha5 hb6 hj8 K7 k12
    have hc18 := r11.rd
    clear r11
    have s19 := hc18
    obtain ⟨ac, cc, rfl, _⟩ := s19
    go_wp2_with fail
    refine (implLess_any _ _ _ _ _ ha14 hb15 (by omega) (by omega)).mono ?_
    rintro e u23 ⟨v20, rfl, r21, k22⟩
    have ha24 := ha14.keep k22
    have hb25 := hb15.keep k22
    have hj26 := hj16.keep k22
    have hc27 := hc18.keep k22
    have K28 := K17.trans k22
    clear ha14 hb15 hj16 hc18 K17 k22
    have hl29 := r21.rd
    clear r21
    have s30 := hl29
    obtain ⟨al, cl, rfl, _⟩ := s30
    go_wp2_with fail
    refine (implThen_any _ _ _ _ _ ha24 hb25 (by omega) (by omega)).mono ?_
    rintro e u34 ⟨v31, rfl, r32, k33⟩
    have ha35 := ha24.keep k33
    have hb36 := hb25.keep k33
    have hj37 := hj26.keep k33
    have hc38 := hc27.keep k33
    have hl39 := hl29.keep k33
    have K40 := K28.trans k33
    clear ha24 hb25 hj26 hc27 hl29 K28 k33
    have ht41 := r32.rd
    clear r32
    have s42 := ht41
    obtain ⟨at0, ct, rfl, _⟩ := s42
    go_wp2_with fail
    refine (specJoined_any _ _ _ _ _ ha35 hb36 (by omega) (by omega)).mono ?_
    rintro e u46 ⟨v43, rfl, r44, k45⟩
    have ha47 := ha35.keep k45
    have hb48 := hb36.keep k45
    have hj49 := hj37.keep k45
    have hc50 := hc38.keep k45
    have hl51 := hl39.keep k45
    have ht52 := ht41.keep k45
    have K53 := K40.trans k45
    clear ha35 hb36 hj37 hc38 hl39 ht41 K40 k45
    have hq54 := r44.rd
    clear r44
    have eq1 : decide (mixL orI la lb = mixL orI la lb) = true := by simp
    go_wp2_with fail
    refine (like_any _ _ _ _ _ hj49 hq54 (by omega)).mono ?_
    rintro e u56 ⟨rfl, k55⟩
    have ha57 := ha47.keep k55
    have hb58 := hb48.keep k55
    have hj59 := hj49.keep k55
    have hc60 := hc50.keep k55
    have hl61 := hl51.keep k55
    have ht62 := ht52.keep k55
    have hq63 := hq54.keep k55
    have K64 := K53.trans k55
    clear ha47 hb48 hj49 hc50 hl51 ht52 hq54 K53 k55
    clear hq63
    go_wp2_with fail
    refine (specCommon_any _ _ _ _ _ ha57 hb58 (by omega) (by omega)).mono ?_
    rintro e u68 ⟨v65, rfl, r66, k67⟩
    have ha69 := ha57.keep k67
    have hb70 := hb58.keep k67
    have hj71 := hj59.keep k67
    have hc72 := hc60.keep k67
    have hl73 := hl61.keep k67
    have ht74 := ht62.keep k67
    have K75 := K64.trans k67
    clear ha57 hb58 hj59 hc60 hl61 ht62 K64 k67
    have hq76 := r66.rd
    clear r66
    have eq2 : decide (mixL andI la lb = mixL andI la lb) = true := by simp
    go_wp2_with fail
    refine (like_any _ _ _ _ _ hc72 hq76 (by omega)).mono ?_
    rintro e u78 ⟨rfl, k77⟩
    have ha79 := ha69.keep k77
    have hb80 := hb70.keep k77
    have hj81 := hj71.keep k77
    have hc82 := hc72.keep k77
    have hl83 := hl73.keep k77
    have ht84 := ht74.keep k77
    have hq85 := hq76.keep k77
    have K86 := K75.trans k77
    clear ha69 hb70 hj71 hc72 hl73 ht74 hq76 K75 k77
    clear hq85
    go_wp2_with fail
    refine (specLess_any _ _ _ _ _ ha79 hb80 (by omega) (by omega)).mono ?_
    rintro e u90 ⟨v87, rfl, r88, k89⟩
    have ha91 := ha79.keep k89
    have hb92 := hb80.keep k89
    have hj93 := hj81.keep k89
    have hc94 := hc82.keep k89
    have hl95 := hl83.keep k89
    have ht96 := ht84.keep k89
    have K97 := K86.trans k89
    clear ha79 hb80 hj81 hc82 hl83 ht84 K86 k89
    have hq98 := r88.rd
    clear r88
    have eq3 : decide (mixL notI la lb = mixL notI la lb) = true := by simp
    go_wp2_with fail
    refine (like_any _ _ _ _ _ hl95 hq98 (by omega)).mono ?_
    rintro e u100 ⟨rfl, k99⟩
    have ha101 := ha91.keep k99
    have hb102 := hb92.keep k99
    have hj103 := hj93.keep k99
    have hc104 := hc94.keep k99
    have hl105 := hl95.keep k99
    have ht106 := ht96.keep k99
    have hq107 := hq98.keep k99
    have K108 := K97.trans k99
    clear ha91 hb92 hj93 hc94 hl95 ht96 hq98 K97 k99
    clear hq107
    go_wp2_with fail
    refine (specThen_any _ _ _ _ _ ha101 hb102 (by omega) (by omega)).mono ?_
    rintro e u112 ⟨v109, rfl, r110, k111⟩
    have ha113 := ha101.keep k111
    have hb114 := hb102.keep k111
    have hj115 := hj103.keep k111
    have hc116 := hc104.keep k111
    have hl117 := hl105.keep k111
    have ht118 := ht106.keep k111
    have K119 := K108.trans k111
    clear ha101 hb102 hj103 hc104 hl105 ht106 K108 k111
    have hq120 := r110.rd
    clear r110
    have eq4 : decide (thenL la lb = thenL la lb) = true := by simp
    go_wp2_with fail
    refine (like_any _ _ _ _ _ ht118 hq120 (by omega)).mono ?_
    rintro e u122 ⟨rfl, k121⟩
    have ha123 := ha113.keep k121
    have hb124 := hb114.keep k121
    have hj125 := hj115.keep k121
    have hc126 := hc116.keep k121
    have hl127 := hl117.keep k121
    have ht128 := ht118.keep k121
    have hq129 := hq120.keep k121
    have K130 := K119.trans k121
    clear ha113 hb114 hj115 hc116 hl117 ht118 hq120 K119 k121
    clear hq129
    clear eq1 eq2 eq3 eq4
    cases hwa : webB la
    · skip
      have htw : twoB la lb = false := by simp [twoB, hwa]
      have hj0 : (((mixL orI la lb).length : Int) == 0) = true := by unfold mixL; rw [htw]; rfl
      have hc0 : (((mixL andI la lb).length : Int) == 0) = true := by unfold mixL; rw [htw]; rfl
      have hl0 : (((mixL notI la lb).length : Int) == 0) = true := by unfold mixL; rw [htw]; rfl
      have ht0 : (((thenL la lb).length : Int) == 0) = true := by unfold thenL; rw [htw]; rfl
      go_wp2_with fail
      refine (implWebOk_any _ _ _ ha123 (by omega)).mono ?_
      rintro e u131 ⟨rfl, rfl⟩
      go_wp2_with fail
      refine (specWebOk_any _ _ _ ha123 (by omega)).mono ?_
      rintro e u132 ⟨rfl, rfl⟩
      go_wp2_with fail
      refine (specWebOk_any _ _ _ ha123 (by omega)).mono ?_
      rintro e u133 ⟨rfl, rfl⟩
      go_wp2
      go_ret
      exact ⟨rfl, K130⟩
    · cases hwb : webB lb
      · skip
        have htw : twoB la lb = false := by simp [twoB, hwb]
        have hj0 : (((mixL orI la lb).length : Int) == 0) = true := by unfold mixL; rw [htw]; rfl
        have hc0 : (((mixL andI la lb).length : Int) == 0) = true := by unfold mixL; rw [htw]; rfl
        have hl0 : (((mixL notI la lb).length : Int) == 0) = true := by unfold mixL; rw [htw]; rfl
        have ht0 : (((thenL la lb).length : Int) == 0) = true := by unfold thenL; rw [htw]; rfl
        go_wp2_with fail
        refine (implWebOk_any _ _ _ ha123 (by omega)).mono ?_
        rintro e u134 ⟨rfl, rfl⟩
        go_wp2_with fail
        refine (specWebOk_any _ _ _ ha123 (by omega)).mono ?_
        rintro e u135 ⟨rfl, rfl⟩
        go_wp2_with fail
        refine (specWebOk_any _ _ _ ha123 (by omega)).mono ?_
        rintro e u136 ⟨rfl, rfl⟩
        go_wp2_with fail
        refine (specWebOk_any _ _ _ hb124 (by omega)).mono ?_
        rintro e u137 ⟨rfl, rfl⟩
        go_wp2
        go_ret
        exact ⟨rfl, K130⟩
      · by_cases hlen : la.length = lb.length
        · have za : Web la.length la := web_iff.1 hwa
          have zb : Web la.length lb := by rw [hlen]; exact web_iff.1 hwb
          have HA : Hid (Web la.length la) := za
          have HB : Hid (Web la.length lb) := zb
          have hne : ((la.length : Int) != (lb.length : Int)) = false := by simp [hlen]
          have hn1 : la.length ≤ lb.length := by omega
          have hn2 : lb.length ≤ la.length := by omega
          have htl : la.length ≤ (thenL la lb).length := by rw [(web_then za zb).1.2.1]; exact Nat.le_refl _
          clear za zb hlen
          go_wp2_with fail
          refine (implWebOk_any _ _ _ ha123 (by omega)).mono ?_
          rintro e u138 ⟨rfl, rfl⟩
          go_wp2_with fail
          refine (specWebOk_any _ _ _ ha123 (by omega)).mono ?_
          rintro e u139 ⟨rfl, rfl⟩
          go_wp2_with fail
          refine (specWebOk_any _ _ _ ha123 (by omega)).mono ?_
          rintro e u140 ⟨rfl, rfl⟩
          go_wp2_with fail
          refine (specWebOk_any _ _ _ hb124 (by omega)).mono ?_
          rintro e u141 ⟨rfl, rfl⟩
          go_wp2_with fail
          refine (implJoined_any _ _ _ _ _ hl127 hc126 (by omega) (by omega)).mono ?_
          rintro e u145 ⟨v142, rfl, r143, k144⟩
          have ha146 := ha123.keep k144
          have hb147 := hb124.keep k144
          have hj148 := hj125.keep k144
          have hc149 := hc126.keep k144
          have hl150 := hl127.keep k144
          have ht151 := ht128.keep k144
          have K152 := K130.trans k144
          clear ha123 hb124 hj125 hc126 hl127 ht128 K130 k144
          have hq153 := r143.rd
          clear r143
          have hq12 := mixL_len orI (mixL notI la lb) (mixL andI la lb)
          have eq1 : decide (mixL orI (mixL notI la lb) (mixL andI la lb) = la) = true := by rw [decide_eq_true_eq]; exact join_parts HA.out HB.out
          go_wp2_with fail
          refine (like_any _ _ _ _ _ hq153 ha146 (by omega)).mono ?_
          rintro e u155 ⟨rfl, k154⟩
          have ha156 := ha146.keep k154
          have hb157 := hb147.keep k154
          have hj158 := hj148.keep k154
          have hc159 := hc149.keep k154
          have hl160 := hl150.keep k154
          have ht161 := ht151.keep k154
          have hq162 := hq153.keep k154
          have K163 := K152.trans k154
          clear ha146 hb147 hj148 hc149 hl150 ht151 hq153 K152 k154
          clear hq162 hq12
          go_wp2_with fail
          refine (implJoined_any _ _ _ _ _ hb157 ha156 (by omega) (by omega)).mono ?_
          rintro e u167 ⟨v164, rfl, r165, k166⟩
          have ha168 := ha156.keep k166
          have hb169 := hb157.keep k166
          have hj170 := hj158.keep k166
          have hc171 := hc159.keep k166
          have hl172 := hl160.keep k166
          have ht173 := ht161.keep k166
          have K174 := K163.trans k166
          clear ha156 hb157 hj158 hc159 hl160 ht161 K163 k166
          have hq175 := r165.rd
          clear r165
          have hq12 := mixL_len orI lb la
          have eq5 : decide (mixL orI lb la = mixL orI la lb) = true := by rw [decide_eq_true_eq]; exact join_comm HA.out HB.out
          go_wp2_with fail
          refine (like_any _ _ _ _ _ hq175 hj170 (by omega)).mono ?_
          rintro e u177 ⟨rfl, k176⟩
          have ha178 := ha168.keep k176
          have hb179 := hb169.keep k176
          have hj180 := hj170.keep k176
          have hc181 := hc171.keep k176
          have hl182 := hl172.keep k176
          have ht183 := ht173.keep k176
          have hq184 := hq175.keep k176
          have K185 := K174.trans k176
          clear ha168 hb169 hj170 hc171 hl172 ht173 hq175 K174 k176
          clear hq184 hq12
          have hin : inL (mixL andI la lb) lb = true := inL_web (web_common HA.out HB.out).1 HB.out (fun i j hi _ h => by rw [(web_common HA.out HB.out).2 i j hi, Bool.and_eq_true] at h; exact h.2)
          have HI : Hid (inL (mixL andI la lb) lb = true) := hin
          clear hin
          go_wp2_with fail
          refine (within_yes _ _ _ _ _ hc181 hb179 (by omega) HI.out).mono ?_
          rintro e u187 ⟨rfl, k186⟩
          have ha188 := ha178.keep k186
          have hb189 := hb179.keep k186
          have hj190 := hj180.keep k186
          have hc191 := hc181.keep k186
          have hl192 := hl182.keep k186
          have ht193 := ht183.keep k186
          have K194 := K185.trans k186
          clear ha178 hb179 hj180 hc181 hl182 ht183 K185 k186
          clear hj190
          clear hc191
          clear hl192
          clear HI hj12 hc12 hl12
          by_cases hpos : 0 < la.length
          · have hb1 := backL_len (thenL la lb)
            have hb2 := backL_len lb
            have hb3 := backL_len la
            have hb4 := thenL_len (backL lb) (backL la)
            go_wp2_with fail
            refine (implBack_any _ _ _ ht193 (by omega)).mono ?_
            rintro e u198 ⟨v195, rfl, r196, k197⟩
            have ha199 := ha188.keep k197
            have hb200 := hb189.keep k197
            have ht201 := ht193.keep k197
            have K202 := K194.trans k197
            clear ha188 hb189 ht193 K194 k197
            have hx203 := r196.rd
            clear r196
            go_wp2_with fail
            refine (implBack_any _ _ _ hb200 (by omega)).mono ?_
            rintro e u207 ⟨v204, rfl, r205, k206⟩
            have ha208 := ha199.keep k206
            have hb209 := hb200.keep k206
            have ht210 := ht201.keep k206
            have hx211 := hx203.keep k206
            have K212 := K202.trans k206
            clear ha199 hb200 ht201 hx203 K202 k206
            have hy213 := r205.rd
            clear r205
            go_wp2_with fail
            refine (implBack_any _ _ _ ha208 (by omega)).mono ?_
            rintro e u217 ⟨v214, rfl, r215, k216⟩
            have ha218 := ha208.keep k216
            have hb219 := hb209.keep k216
            have ht220 := ht210.keep k216
            have hx221 := hx211.keep k216
            have hy222 := hy213.keep k216
            have K223 := K212.trans k216
            clear ha208 hb209 ht210 hx211 hy213 K212 k216
            have hz224 := r215.rd
            clear r215
            go_wp2_with fail
            refine (implThen_any _ _ _ _ _ hy222 hz224 (by omega) (by omega)).mono ?_
            rintro e u228 ⟨v225, rfl, r226, k227⟩
            have ha229 := ha218.keep k227
            have hb230 := hb219.keep k227
            have ht231 := ht220.keep k227
            have hx232 := hx221.keep k227
            have hy233 := hy222.keep k227
            have hz234 := hz224.keep k227
            have K235 := K223.trans k227
            clear ha218 hb219 ht220 hx221 hy222 hz224 K223 k227
            have hq236 := r226.rd
            clear r226
            have eq6 : decide (backL (thenL la lb) = thenL (backL lb) (backL la)) = true := by rw [decide_eq_true_eq]; exact back_then HA.out HB.out
            go_wp2_with fail
            refine (like_any _ _ _ _ _ hx232 hq236 (by omega)).mono ?_
            rintro e u238 ⟨rfl, k237⟩
            have ha239 := ha229.keep k237
            have hb240 := hb230.keep k237
            have ht241 := ht231.keep k237
            have hx242 := hx232.keep k237
            have hy243 := hy233.keep k237
            have hz244 := hz234.keep k237
            have hq245 := hq236.keep k237
            have K246 := K235.trans k237
            clear ha229 hb230 ht231 hx232 hy233 hz234 hq236 K235 k237
            clear hx242
            clear hy243
            clear hz244
            clear hq245
            clear hb1 hb2 hb3 hb4
            go_wp2_with fail
            go_loop [9] (fun i => ∃ k : Nat, k ≤ la.length ∧ i = .int .i64 k) (fun i => la.length - (intOf i).toNat)
            case atStart => exact ⟨0, Nat.zero_le _, rfl⟩
            case round =>
              obtain ⟨i, hi, rfl⟩ := hrel
              by_cases hil : i < la.length
              · go_wp2_with fail
                go_loop [10] (fun j => ∃ k : Nat, k ≤ la.length ∧ j = .int .i64 k) (fun j => la.length - (intOf j).toNat)
                case atStart => exact ⟨0, Nat.zero_le _, rfl⟩
                case round =>
                  obtain ⟨k, hk, rfl⟩ := hrel
                  by_cases hkl : k < la.length
                  · go_wp2_with fail
                    go_loop [11, 12] (fun b j => ∃ m : Nat, m ≤ la.length ∧ j = .int .i64 m ∧ b = .bool (byB la lb i k m)) (fun _ j => la.length - (intOf j).toNat)
                    case atStart => exact ⟨0, Nat.zero_le _, rfl, rfl⟩
                    case round =>
                      obtain ⟨m, hm, rfl, rfl⟩ := hrel
                      by_cases hml : m < la.length
                      · have r1 := ha239
                        have r2 := hb240
                        obtain ⟨a1, c1, hv1, h1⟩ := r1
                        obtain ⟨a2, c2, hv2, h2⟩ := r2
                        cases hv1
                        cases hv2
                        rcases h1 with h | ⟨b1, o1, rfl, hb1, hc1⟩
                        · exfalso; rw [h] at hil; simp at hil
                        rcases h2 with h | ⟨b2, o2, rfl, hb2, hc2⟩
                        · exfalso; rw [h] at hn1; simp only [List.length_nil] at hn1; omega
                        have d1 := hc1 i hil
                        have d2 := hc2 m (by omega)
                        have HS : Hid (byB la lb i k (m + 1) = (byB la lb i k m || (inSetB (la.getD i 0) m && inSetB (lb.getD m 0) k))) := rfl
                        clear hc1 hc2
                        generalize la.getD i 0 = x at d1 HS
                        generalize lb.getD m 0 = y at d2 HS
                        have i1 : (0 : Int) ≤ (i : Int) := Int.natCast_nonneg _
                        have i2 : (i : Int) < (la.length : Int) := by omega
                        have i3 : (0 : Int) ≤ (m : Int) := Int.natCast_nonneg _
                        have i4 : (m : Int) < (lb.length : Int) := by omega
                        cases hby : byB la lb i k m
                        · cases hx : inSetB x m
                          · skip
                            go_wp2_with fail
                            refine (implInSet_any _ _ _).mono ?_
                            rintro e u247 ⟨rfl, rfl⟩
                            go_wp2
                            go_round
                            case rel => exact ⟨m + 1, by omega, by go_num, by rw [HS.out]; simp [*]⟩
                            case measure => simp [intOf]; omega
                          · cases hy : inSetB y k
                            all_goals
                              go_wp2_with fail
                              refine (implInSet_any _ _ _).mono ?_
                              rintro e u248 ⟨rfl, rfl⟩
                              go_wp2_with fail
                              refine (implInSet_any _ _ _).mono ?_
                              rintro e u249 ⟨rfl, rfl⟩
                              go_wp2
                              go_round
                              case rel => exact ⟨m + 1, by omega, by go_num, by rw [HS.out]; simp [*]⟩
                              case measure => simp [intOf]; omega
                        · skip
                          go_wp2
                          go_round
                          case rel => exact ⟨m + 1, by omega, by go_num, by rw [HS.out]; simp [*]⟩
                          case measure => simp [intOf]; omega
                      · obtain rfl : m = la.length := by omega
                        have r1 := ht241
                        obtain ⟨a1, c1, hv1, h1⟩ := r1
                        cases hv1
                        rcases h1 with h | ⟨b1, o1, rfl, hb1, hc1⟩
                        · exfalso; rw [h] at htl; simp only [List.length_nil] at htl; omega
                        have d1 := hc1 i (by omega)
                        have hq := by_then HA.out HB.out hil k
                        clear hc1
                        generalize (thenL la lb).getD i 0 = x at d1 hq
                        have i1 : (0 : Int) ≤ (i : Int) := Int.natCast_nonneg _
                        have i2 : (i : Int) < ((thenL la lb).length : Int) := by omega
                        cases hby : byB la lb i k la.length
                        all_goals
                          rw [hby] at hq
                          go_wp2_with fail
                          refine (implInSet_any _ _ _).mono ?_
                          rintro e u250 ⟨rfl, rfl⟩
                          go_wp2
                          go_round
                          case rel => exact ⟨k + 1, by omega, by go_num⟩
                          case measure => simp [intOf]; omega
                  · go_wp2
                    go_round
                    case rel => exact ⟨i + 1, by omega, by go_num⟩
                    case measure => simp [intOf]; omega
              · go_wp2
                go_ret
                exact ⟨rfl, K246⟩
          · skip
            go_wp2_with fail
            go_loop [9] (fun i => ∃ k : Nat, k ≤ la.length ∧ i = .int .i64 k) (fun i => la.length - (intOf i).toNat)
            case atStart => exact ⟨0, Nat.zero_le _, rfl⟩
            case round =>
              obtain ⟨i, hi, rfl⟩ := hrel
              by_cases hil : i < la.length
              · go_wp2_with fail
                go_loop [10] (fun j => ∃ k : Nat, k ≤ la.length ∧ j = .int .i64 k) (fun j => la.length - (intOf j).toNat)
                case atStart => exact ⟨0, Nat.zero_le _, rfl⟩
                case round =>
                  obtain ⟨k, hk, rfl⟩ := hrel
                  by_cases hkl : k < la.length
                  · go_wp2_with fail
                    go_loop [11, 12] (fun b j => ∃ m : Nat, m ≤ la.length ∧ j = .int .i64 m ∧ b = .bool (byB la lb i k m)) (fun _ j => la.length - (intOf j).toNat)
                    case atStart => exact ⟨0, Nat.zero_le _, rfl, rfl⟩
                    case round =>
                      obtain ⟨m, hm, rfl, rfl⟩ := hrel
                      by_cases hml : m < la.length
                      · have r1 := ha188
                        have r2 := hb189
                        obtain ⟨a1, c1, hv1, h1⟩ := r1
                        obtain ⟨a2, c2, hv2, h2⟩ := r2
                        cases hv1
                        cases hv2
                        rcases h1 with h | ⟨b1, o1, rfl, hb1, hc1⟩
                        · exfalso; rw [h] at hil; simp at hil
                        rcases h2 with h | ⟨b2, o2, rfl, hb2, hc2⟩
                        · exfalso; rw [h] at hn1; simp only [List.length_nil] at hn1; omega
                        have d1 := hc1 i hil
                        have d2 := hc2 m (by omega)
                        have HS : Hid (byB la lb i k (m + 1) = (byB la lb i k m || (inSetB (la.getD i 0) m && inSetB (lb.getD m 0) k))) := rfl
                        clear hc1 hc2
                        generalize la.getD i 0 = x at d1 HS
                        generalize lb.getD m 0 = y at d2 HS
                        have i1 : (0 : Int) ≤ (i : Int) := Int.natCast_nonneg _
                        have i2 : (i : Int) < (la.length : Int) := by omega
                        have i3 : (0 : Int) ≤ (m : Int) := Int.natCast_nonneg _
                        have i4 : (m : Int) < (lb.length : Int) := by omega
                        cases hby : byB la lb i k m
                        · cases hx : inSetB x m
                          · skip
                            go_wp2_with fail
                            refine (implInSet_any _ _ _).mono ?_
                            rintro e u251 ⟨rfl, rfl⟩
                            go_wp2
                            go_round
                            case rel => exact ⟨m + 1, by omega, by go_num, by rw [HS.out]; simp [*]⟩
                            case measure => simp [intOf]; omega
                          · cases hy : inSetB y k
                            all_goals
                              go_wp2_with fail
                              refine (implInSet_any _ _ _).mono ?_
                              rintro e u252 ⟨rfl, rfl⟩
                              go_wp2_with fail
                              refine (implInSet_any _ _ _).mono ?_
                              rintro e u253 ⟨rfl, rfl⟩
                              go_wp2
                              go_round
                              case rel => exact ⟨m + 1, by omega, by go_num, by rw [HS.out]; simp [*]⟩
                              case measure => simp [intOf]; omega
                        · skip
                          go_wp2
                          go_round
                          case rel => exact ⟨m + 1, by omega, by go_num, by rw [HS.out]; simp [*]⟩
                          case measure => simp [intOf]; omega
                      · obtain rfl : m = la.length := by omega
                        have r1 := ht193
                        obtain ⟨a1, c1, hv1, h1⟩ := r1
                        cases hv1
                        rcases h1 with h | ⟨b1, o1, rfl, hb1, hc1⟩
                        · exfalso; rw [h] at htl; simp only [List.length_nil] at htl; omega
                        have d1 := hc1 i (by omega)
                        have hq := by_then HA.out HB.out hil k
                        clear hc1
                        generalize (thenL la lb).getD i 0 = x at d1 hq
                        have i1 : (0 : Int) ≤ (i : Int) := Int.natCast_nonneg _
                        have i2 : (i : Int) < ((thenL la lb).length : Int) := by omega
                        cases hby : byB la lb i k la.length
                        all_goals
                          rw [hby] at hq
                          go_wp2_with fail
                          refine (implInSet_any _ _ _).mono ?_
                          rintro e u254 ⟨rfl, rfl⟩
                          go_wp2
                          go_round
                          case rel => exact ⟨k + 1, by omega, by go_num⟩
                          case measure => simp [intOf]; omega
                  · go_wp2
                    go_round
                    case rel => exact ⟨i + 1, by omega, by go_num⟩
                    case measure => simp [intOf]; omega
              · go_wp2
                go_ret
                exact ⟨rfl, K194⟩
        · have htw : twoB la lb = false := by simp [twoB, hlen]
          have hne : ((la.length : Int) != (lb.length : Int)) = true := by simp; omega
          have hj0 : (((mixL orI la lb).length : Int) == 0) = true := by unfold mixL; rw [htw]; rfl
          have hc0 : (((mixL andI la lb).length : Int) == 0) = true := by unfold mixL; rw [htw]; rfl
          have hl0 : (((mixL notI la lb).length : Int) == 0) = true := by unfold mixL; rw [htw]; rfl
          have ht0 : (((thenL la lb).length : Int) == 0) = true := by unfold thenL; rw [htw]; rfl
          clear hlen
          go_wp2_with fail
          refine (implWebOk_any _ _ _ ha123 (by omega)).mono ?_
          rintro e u255 ⟨rfl, rfl⟩
          go_wp2_with fail
          refine (specWebOk_any _ _ _ ha123 (by omega)).mono ?_
          rintro e u256 ⟨rfl, rfl⟩
          go_wp2_with fail
          refine (specWebOk_any _ _ _ ha123 (by omega)).mono ?_
          rintro e u257 ⟨rfl, rfl⟩
          go_wp2_with fail
          refine (specWebOk_any _ _ _ hb124 (by omega)).mono ?_
          rintro e u258 ⟨rfl, rfl⟩
          go_wp2
          go_ret
          exact ⟨rfl, K130⟩

set_option maxRecDepth 100000 in
theorem lifted (os : Os) (started : os.Started) (H : Type) (enc : TypeId × Value → H) :
    ReturnsInHanded {} Try.checked os 4 .any (Rows.fnWebsSpec.pre6 enc Try.prog Try.f4 Rows.fnWebsRow.domain false) (Rows.fnWebsSpec.post enc Try.prog Try.f4 false true false false) := by
  refine returnsInHanded_of_change (C := Try.checked) own started (by kernel_rfl) Try.func4
    (ChangeSpec.witness6 (enc := enc) (C := Try.checked) false ⟨#[], #[.slice none 0 0], []⟩ 8 (by kernel_rfl) (by kernel_rfl) (by kernel_rfl) (by kernel_rfl)) ?_
  intro W base args ds gs before hval0 hW hcnd _
  have hval : ∀ (j : Nat) t v, Try.f4.params[j]? = some t → args[j]? = some v → Value.okWide Try.prog W .any base t v := hval0
  have hW' := hW
  obtain ⟨p, q, hA0, hV, rfl, hfz, hnd⟩ := hW
  have hA : DataW.TrodAll enc Try.prog W 0 (fun _ => true) true Try.f4.params.toList args.toList ds p := hA0
  rw [Try.params4] at hA hval
  obtain ⟨v0, vs0, d0, ds0, p0, q0, hargs, rfl, rfl, h0, r0⟩ := trodAll_cons hA
  obtain ⟨rfl, rfl, rfl⟩ := trodAll_nil r0
  obtain rfl : args = #[v0] := by cases args; simp_all
  obtain ⟨rfl, rfl⟩ := trodVars_none hV
  obtain ⟨a0, len0, cap0, rfl⟩ := okWide_slice Try.underlying22 (hval 0 22 v0 rfl rfl)
  have k0 := h0
  have lt0 : ∀ x ∈ p0, x.block < W.heap.size := by obtain ⟨m, hm⟩ := k0; exact DataW.trod_lt m _ _ _ hm
  obtain ⟨z0, w0⟩ : ∃ zs, IsRow .u8 W a0 len0 cap0 zs := by
    obtain ⟨fuel, hf⟩ := h0
    rcases open_ints Try.underlying22 Try.underlying5 (by kernel_rfl) hf with ⟨hcs, _⟩ | ⟨x, l, c, zs, hcs, _, hl, hm, hz, _, hcell, hwz⟩
    · simp [Value.cells] at hcs
      obtain ⟨rfl, rfl, rfl⟩ := hcs
      exact ⟨[], .inl ⟨rfl, rfl, rfl, rfl⟩⟩
    · simp [Value.cells] at hcs
      obtain ⟨rfl, rfl, rfl⟩ := hcs
      exact ⟨zs, .inr ⟨_, rfl, hl, hm, by simpa using hz, hcell, hwz⟩⟩
  clear hA0 hval0
  refine (walk a0 len0 cap0 z0 W w0).mono fun e W' ⟨he, bel⟩ => ?_
  subst he
  exact ⟨_, rfl, _, _, _, [], _, [], hW', trodAll_mk1 (shut_bool Try.underlying4 _), (trodAll_cons_mk (Below.trod laidOut (by kernel_rfl) (of_decide_eq_true (by kernel_rfl)) k0 bel lt0) trodAll_mk0), rfl, bel.frame _, fun h => by cases h⟩

theorem over : Rows.fnWebsRow.holds Try.pinned (OpenSpec.ofChange Rows.fnWebsSpec) :=
  OpenClaim.holds_of_wide 4 Try.f4 rfl rfl rfl rfl rfl rfl rfl ⟨rfl, rfl, rfl, rfl, rfl⟩ rfl rfl rfl rfl rfl (by kernel_rfl) Try.func4 (by kernel_rfl)
    (of_decide_eq_true (by kernel_rfl)) (by unfold Func.isWrapper; first | (rw [if_pos (by decide +kernel)]; kernel_rfl) | (rw [if_neg (by decide +kernel)]; exact ⟨rfl, rfl⟩))
    (fun os started H enc _ => lifted os started H enc)

theorem proved : Rows.FnWebsSaid := over
#print axioms proved
end Go.Proofs.Ytmigdnceidbppaa.fnWebs
namespace Go.Proofs.Ytmigdnceidbppaa
theorem fnWebs_holds : Rows.FnWebsSaid := fnWebs.proved
end Go.Proofs.Ytmigdnceidbppaa
