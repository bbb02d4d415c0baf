/- Gathered texts. -/
import Derived.Outline
import Derived.Laws.AppendOwnNone
import Derived.Lib.SliceRun
import Derived.RangeFuncBound
import Derived.RangeFuncLeaves
import Derived.Shelf.Abstract
import Derived.Shelf.RegionOpen
import Derived.WalkKit
import Derived.OwnWalkIn
import Derived.TacticsInMore
import Derived.LoopNIn
import Derived.LoopIn
import Derived.Lib.Hide
import Derived.Sort.CutIn
import Derived.BigRegion
import Derived.RegionTactic
import Derived.Deep.RegionHeld3
import Derived.Deep.QuietTactic
import Derived.BigQuiet
import Derived.Test.YtkmjmnljkidobaaGreatRows
import Derived.OpenShut
import Derived.Maps.AppendAt
import Derived.RangeFuncBox
import Derived.Test.YtkmjmnljkidobaaGreatMC
set_option maxRecDepth 100000
set_option maxHeartbeats 8000000
namespace Go.Proofs.YtkmjmnljkidobaaGreat
open Go.ChangeShapes Go.WideShapes Go.ChangeAt Go.RowKit
open Go.ChangeShapes Go.WideShapes Go.ChangeAt Go.RowKit Go.Shelf
theorem clone_any (w:World)(v:Value)(zs:List Int)(h:Rd w v zs)(hn:zs.length≤1048576):
  Calls Tryz.prog 204 #[v] w fun e w'=>∃v',e = .returned v'∧Own w' w.heap.size v' zs∧Keep w w':=by
 have ho:Own (w.alloc (.cells #[] 2)) w.heap.size (.slice (some ⟨w.heap.size,0,none⟩) 0 0) []:=World.ownsRow_lit w #[] 0 (Nat.le_refl _) (by decide) rfl;have hK:Keep w (w.alloc (.cells #[] 2)):=(Keep.refl w).alloc _;obtain⟨i0,hi,hz0,hz1,hz2⟩:=info_parts Tryz.infoI;have hq:∀(w:World) (a:Option Addr) (n c n' c':Nat),(binOp .eql 50 (.slice a n c) (.slice none n' c')).run Tryz.prog w = .ok (.bool a.isNone) w:=fun w a n c n' c'=>Lib.run_eql_slice_nil w _ _ a n c n' c' Tryz.underlying50
 obtain⟨a,cap,rfl,h⟩:=h;rcases h with rfl|⟨g,off,rfl,hg,hc⟩
 ·
  cases a with
  |none=>
   go_enter Tryz.func204,Tryz.ntmps204
   go_wp2;go_ret;exact⟨_,rfl,World.ownsRow_nil _ _ _ _,Keep.refl w⟩
  |some x=>
   go_enter Tryz.func204,Tryz.ntmps204
   go_wp2_with (at_builtin;refine wpList_append_own _ rfl _ _ 50 rfl w.heap.size 2 i0 (.int .i64 0) 1 8 Tryz.underlying50 hi hz0 hz1 hz2 rfl (by decide) _ _ _ rfl ho x 0 cap [] rfl rfl ?c1 ?c2 ?c3 ?c4 ?c5 ?_)
   case c1=>intro j u hj;simp at hj
   case c2=>intro u hu;simp at hu
   case c3=>simp
   case c4=>simp
   case c5=>simp
   intro v' w1 hown' hgrow _;have k1:Keep w w1:=hK.grown hgrow ho.ge;have o1:Own w1 w.heap.size v' []:=by unfold Own;simpa using hown'
   clear hgrow hown';go_wp2;go_ret;exact⟨_,rfl,o1,k1⟩
 ·
  have C:=rd_cells (w:=w.alloc (.cells #[] 2)) (b:=g) (off:=off) (zs:=zs) (fun i hi=>(hK.cell hg).trans (hc i hi));go_enter Tryz.func204,Tryz.ntmps204
  go_wp2_with (at_builtin;refine wpList_append_own _ rfl _ _ 50 rfl w.heap.size 2 i0 (.int .i64 0) 1 8 Tryz.underlying50 hi hz0 hz1 hz2 rfl (by decide) _ _ _ rfl ho ⟨g,off,none⟩ zs.length cap (zs.map (Value.int .i64)) rfl (by simp) ?c1 ?c2 ?c3 ?c4 ?c5 ?_)
  case c1=>exact C
  case c2=>exact ints_one zs
  case c3=>simp;unfold maxLen;omega
  case c4=>simp;omega
  case c5=>simp
  intro v' w1 hown' hgrow _;have k1:Keep w w1:=hK.grown hgrow ho.ge;have o1:Own w1 w.heap.size v' zs:=by unfold Own;simpa using hown'
  clear hgrow hown';go_wp2;go_ret;exact⟨_,rfl,o1,k1⟩
abbrev PrS (s1 s2 Bc:Nat)(b:Nat):Prop:=(s1≤b∧b<s2)∨b=Bc
abbrev LieS (css:List (List Int))(n:Nat)(s k:Nat)(v:Value)(W:World):Prop:=Own W s v (atP css n k)
theorem lieS_but (css:List (List Int))(n:Nat):∀s k v A B,LieS css n s k v A→But (fun b=>b<s) A B→LieS css n s k v B:=
 fun _ _ _ _ _ h k=>Own.but h k (fun b h1 _=>by omega)
theorem own_emptyI (w:World):Own (w.alloc (.cells #[] 2)) w.heap.size (.slice (some ⟨w.heap.size,0,none⟩) 0 0) []:=World.ownsRow_lit w #[] 0 (Nat.le_refl _) (by decide) rfl
theorem sources0_seq (css:List (List Int))(s1 s2:Nat)(w0:World)(Bc:Nat)(v:Value)(hP:RdP s1 s2 w0 v 0 css)(hc:w0.cell? ⟨Bc,0,none⟩=some v)(hBl:Bc<w0.heap.size):
  SeqM Tryz.prog 203 #[.pointer (some ⟨Bc,0,none⟩)] (PrS s1 s2 Bc) (srcN css 0) (LieS css 0) w0:=by
 intro C l J Jx W hW hC hJ hJx hY h0;have hWs:=hW.size;have hcW:W.cell? ⟨Bc,0,none⟩=some v:=(hW.cell hBl (fun h=>h (.inr rfl))).trans hc;have hBW:Bc<W.heap.size:=by omega
 obtain⟨_,a,cap,rfl,-,-⟩:=hP;have K1:But (NC W.heap.size W) W ((W.alloc (.cells #[.func (.yield l) #[] #[]] 110)).alloc (.cells #[] 2)):=((But.refl _ W).alloc _).alloc _
 have o1:Own ((W.alloc (.cells #[.func (.yield l) #[] #[]] 110)).alloc (.cells #[] 2)) W.heap.size (.slice (some ⟨W.heap.size+1,0,none⟩) 0 0) (atP css 0 0):=by
  have:=own_emptyI (W.alloc (.cells #[.func (.yield l) #[] #[]] 110));rw[World.size_alloc] at this;rw[atP_zero];exact this.base_le (by omega)
 obtain⟨fn,tmps,assign,body,hy,hR⟩:=hY 0 0 _ _ (by rw[srcN_zero];omega) (hJ 0 _ _ h0 K1) o1;clear o1;refine (callsIn_wide (n:=0)).1 (callsIn_of_wp Tryz.func203 rfl trivial ?_ rfl);simp only[Tryz.ntmps203,List.size_toArray,List.length_cons,List.length_nil,Nat.reduceAdd,Nat.reduceSub,Array.replicate_succ,Array.replicate_zero,List.push_toArray,List.append_toArray,List.nil_append,List.cons_append]
 gi_wp2
 refine⟨rfl,hR.mono ?_⟩;rintro e W3 ⟨b,rfl,hB,h1,h2⟩
 gi_wp2
 refine bodyPost_ret (results_none rfl _ _ _) rfl ?_;refine⟨⟨_,rfl⟩,?_⟩;cases b
 · exact .inr ⟨0,by rw[srcN_zero];omega,h2 rfl⟩
 · exact .inl (by rw[srcN_zero];exact h1 rfl)
theorem sources_any (w:World)(a:Option Addr)(n c:Nat):
  Calls Tryz.prog 139 #[.slice a n c] w fun e w'=>e = .returned (.func (.func 203) #[] #[.pointer (some ⟨w.heap.size,0,none⟩)])∧w'=w.alloc (.cells #[.slice a n c] 26):=by
 go_enter Tryz.func139,Tryz.ntmps139
 go_wp2;go_ret;exact⟨rfl,rfl⟩
theorem one_new {w:World}{b:Nat}{v:Value}(h:w.cell? ⟨b,0,none⟩=some v):∀j u,([v]:List Value)[j]? = some u→w.cell? ((⟨b,0,none⟩:Addr).add j)=some u:=by
 intro j u hj
 match j,hj with
 | 0,hj=>
  simp at hj;subst hj;exact h
 |k+1,hj=>simp at hj
theorem sourcesS_seq (css:List (List Int))(s1 s2:Nat)(hcl:∀i,(css.getD i []).length≤12)(n:Nat)(hn:n+1≤12)
  (ih:∀(w0:World) (Bc:Nat) (v:Value),RdP s1 s2 w0 v n css→w0.cell? ⟨Bc,0,none⟩=some v→Bc<w0.heap.size→s2≤w0.heap.size →
   SeqM Tryz.prog 203 #[.pointer (some ⟨Bc,0,none⟩)] (PrS s1 s2 Bc) (srcN css n) (LieS css n) w0)
  (w0:World) (Bc:Nat) (v:Value) (hP:RdP s1 s2 w0 v (n+1) css) (hc:w0.cell? ⟨Bc,0,none⟩=some v) (hBl:Bc<w0.heap.size) (hs:s2≤w0.heap.size):
  SeqM Tryz.prog 203 #[.pointer (some ⟨Bc,0,none⟩)] (PrS s1 s2 Bc) (srcN css (n+1)) (LieS css (n+1)) w0:=by
 intro C l J Jx W hW hC hJ hJx hY h0;have hWs:=hW.size;have hcW:W.cell? ⟨Bc,0,none⟩=some v:=(hW.cell hBl (fun h=>h (.inr rfl))).trans hc;have hBW:Bc<W.heap.size:=by omega
 have hPW:=hP.but hs hW (fun b h1 h2 h3=>h3 (.inl ⟨h1,h2⟩));have hsW:s2≤W.heap.size:=by omega
 clear hP hc hBl hs hW hWs;obtain⟨hnl,a,cap,rfl,hcap,hPc⟩:=hPW;rcases hPc with h|⟨b,off,rfl,hb1,hb2,hPc⟩
 · exact absurd h (by omega)
 have hdw:Fence.wide.depth=none:=rfl;have hsem:=@Oper.semAt_some;have i1:(0:Int)≤(n:Int):=Int.natCast_nonneg _;have i2:(n:Int)≤(cap:Int):=by omega
 have i4:((n:Int)+1==0)=false:=by simp;omega
 refine (callsIn_wide (n:=0)).1 (callsIn_of_wp_marks Tryz.func203 rfl trivial ?_ rfl);simp only[Tryz.ntmps203,List.size_toArray,List.length_cons,List.length_nil,Nat.reduceAdd,Nat.reduceSub,Array.replicate_succ,Array.replicate_zero,List.push_toArray,List.append_toArray,List.nil_append,List.cons_append]
 gi_wp2_with (refine⟨trivial,?_⟩;gi_at_call 139;refine (callsIn_wide.2 (sources_any _ _ _ _)).mono ?_;rintro e w' ⟨rfl,rfl⟩)
 have c0:=(((But.refl (NC W.heap.size W) W).alloc (.cells #[.func (.yield l) #[] #[]] 110)).alloc (.cells #[.int .i64 n] 3)).alloc (.cells #[.slice (some ⟨b,off,none⟩) n cap] 26);obtain⟨W3,hW3⟩:∃W3,W3=((W.alloc (.cells #[.func (.yield l) #[] #[]] 110)).alloc (.cells #[.int .i64 n] 3)).alloc (.cells #[.slice (some ⟨b,off,none⟩) n cap] 26):=⟨_,rfl⟩;have hz:W3.heap.size=W.heap.size+3:=by rw[hW3];simp
 have cy:W3.cell? ⟨W.heap.size,0,none⟩=some (.func (.yield l) #[] #[]):=by
  have h1:=(Boxed.new W 110 (.func (.yield l) #[] #[])).alloc (.cells #[.int .i64 n] 3);rw[hW3];exact (h1.alloc _).cell
 have cn:W3.cell? ⟨W.heap.size+1,0,none⟩=some (.int .i64 n):=by
  have h1:=Boxed.new (W.alloc (.cells #[.func (.yield l) #[] #[]] 110)) 3 (.int .i64 n);rw[World.size_alloc] at h1;rw[hW3];exact (h1.alloc _).cell
 have cc:W3.cell? ⟨W.heap.size+2,0,none⟩=some (.slice (some ⟨b,off,none⟩) n cap):=by
  have h1:=Boxed.new ((W.alloc (.cells #[.func (.yield l) #[] #[]] 110)).alloc (.cells #[.int .i64 n] 3)) 26 (.slice (some ⟨b,off,none⟩) n cap);simp only[World.size_alloc] at h1;rw[hW3];exact h1.cell
 rw[←hW3] at c0 ⊢;clear hW3;have nW:∀b',b'<W.heap.size→¬NC W.heap.size W b':=fun b' h1 h2=>by have:=h2.1;omega
 have hP3:RdP s1 s2 W3 (.slice (some ⟨b,off,none⟩) n cap) n css:=by
  refine⟨by omega,_,_,rfl,by omega,?_⟩;by_cases h:n=0
  · exact .inl h
  ·
   refine .inr ⟨b,off,rfl,hb1,hb2,fun i hi=>?_⟩;obtain⟨vi,e1,e2⟩:=hPc i (by omega);exact⟨vi,(c0.cell (by omega) (nW _ (by omega))).trans e1,e2.but hsW c0 (fun b' _ _=>nW b' (by omega))⟩
 have hseq:=ih W3 (W.heap.size+2) _ hP3 cc (by omega) (by omega);have hmul:∀k,(k+1)*(css.getD n []).length=k*(css.getD n []).length+(css.getD n []).length:=fun k=>by rw[Nat.add_mul,Nat.one_mul]
 refine wp_rangeM (gf:=203) (lb:=#[.pointer (some ⟨W.heap.size+2,0,none⟩)]) rfl (enters_of Tryz.func203 (by kernel_rfl) rfl) rfl hseq (But.refl _ _) ?pr C ?hC
  (fun k A=>J (k*(css.getD n []).length) A∧But (fun b=>C b∨W3.heap.size≤b) W3 A)
  (fun c _ A=>c = .ret∧∃j,j<srcN css (n+1)∧Jx j A) ?hI ?hIx (lieS_but css n) ?h0
  (fun v=>{ tmps:=#[.func (.yield l) #[] #[],.pointer (some ⟨Bc,0,none⟩),.pointer (some ⟨W.heap.size,0,none⟩),.pointer (some ⟨W.heap.size+1,0,none⟩),v,undef,undef,.slice (some ⟨b,off,none⟩) (n+1) cap,.int .i64 ((n:Int)+1),.bool false,undef,undef,undef,.slice (some ⟨b,off,none⟩) (n+1) cap,.int .i64 ((n:Int)+1),.int .i64 n,.slice (some ⟨b,off,none⟩) (n+1) cap,.int .i64 n,.slice (some ⟨b,off,none⟩) n cap,.func (.func 203) #[] #[.pointer (some ⟨W.heap.size+2,0,none⟩)],v,undef,undef,undef,undef,undef,undef,undef,undef,undef,undef,undef,undef,undef,undef,undef,undef,undef,undef],defers:=[] }) ?assign ?body ?done ?stop
 case pr=>
  rintro b' (⟨_,h⟩|rfl)<;>omega
 case hC=>
  intro b' h;have:=hC b' h;refine⟨by omega,?_⟩;rintro (h2|rfl)
  · exact this.2 (.inl h2)
  · omega
 case hI=>
  rintro k A B ⟨h1,h2⟩ hB;exact⟨hJ _ _ _ h1 (hB.mono (fun b' _ h=>h.le (by omega))),h2.trans (hB.mono (fun b' _ h => .inr h.1))⟩
 case hIx=>
  rintro c k A B ⟨h1,j,h2,h3⟩ hB;exact⟨h1,j,h2,hJx _ _ _ h3 (hB.mono (fun b' _ h=>h.le (by omega)))⟩
 case h0=>exact⟨by rw[Nat.zero_mul];exact hJ 0 _ _ h0 c0,But.refl _ _⟩
 case assign=>
  intro m v W K hK
  gi_wp2
  exact hK
 case body=>
  rintro m k v W4 hk ⟨hJk,hBk⟩ hv;have nB:∀b',b'<W.heap.size→PrS s1 s2 Bc b'→¬(C b'∨W3.heap.size≤b'):=fun b' h1 h2 h3=>h3.elim (fun h=>(hC b' h).2 h2) (fun h=>by omega)
  have dc:W4.cell? ⟨Bc,0,none⟩=some (.slice (some ⟨b,off,none⟩) (n+1) cap):=((hBk.cell (by omega) (nB Bc hBW (.inr rfl))).trans (c0.cell hBW (nW _ hBW))).trans hcW;have nN:∀b',W.heap.size≤b'→b'<W3.heap.size→¬(C b'∨W3.heap.size≤b'):=fun b' h1 h2 h3=>h3.elim (fun h=>by have:=(hC b' h).1;omega) (fun h=>by omega)
  have dy:W4.cell? ⟨W.heap.size,0,none⟩=some (.func (.yield l) #[] #[]):=(hBk.cell (by omega) (nN _ (by omega) (by omega))).trans cy;have dn:W4.cell? ⟨W.heap.size+1,0,none⟩=some (.int .i64 n):=(hBk.cell (by omega) (nN _ (by omega) (by omega))).trans cn;obtain⟨vi,e1,e2⟩:=hPc n (by omega);have dv:W4.cell? ⟨b,off+n,none⟩=some vi:=((hBk.cell (by omega) (nB b (by omega) (.inl ⟨hb1,hb2⟩))).trans (c0.cell (by omega) (nW _ (by omega)))).trans e1;have hR4:RdR s1 s2 W4 vi (css.getD n []):=(e2.but hsW c0 (fun b' _ _=>nW b' (by omega))).but (by omega) hBk (fun b' h1 h2=>nB b' (by omega) (.inl ⟨h1,h2⟩));have hs4:W3.heap.size≤W4.heap.size:=hBk.size;have hat:=fun i (hi:i<(css.getD n []).length)=>atP_succ css n k i (by omega) hi
  have hlt:=fun i (hi:i<(css.getD n []).length)=>src_lt hk hi
  rw[←srcN_succ] at hlt;have hm1:=hmul k;have h12:=hcl n;have hal:(atP css n k).length≤12:=by rw[atP_len css n k (by omega)];omega
  clear e1 e2 hPc hmul hP3 hseq ih nN hnl hcap h0 hcW;have hv':Own W4 (W3.heap.size+2) v (atP css n k):=hv;clear hv;generalize css.getD n []=zs at *;generalize atP css n k=ah at *;obtain⟨av,cv,rfl,-⟩:=hv'.rd;obtain⟨az,cz,rfl,hzs⟩:=hR4;have j1:(0:Int)≤(n:Int):=i1;have j2:(n:Int)<(n:Int)+1:=by omega
  gi_wp2
  gi_loopw [26] (fun i wr=>∃j:Nat,j≤zs.length∧i = .int .i64 j∧J (k*zs.length+j) wr∧But C W4 wr) (fun i _=>zs.length-(intOf i).toNat)
  case atStart=>exact⟨0,Nat.zero_le _,rfl,hJk,But.refl _ _⟩
  case round=>
   obtain⟨j,hj,rfl,hJr,hBr⟩:=hrel;by_cases hjl:j<zs.length
   ·
    rcases hzs with h|⟨bz,oz,rfl,hz1,hz2,hzc⟩
    · exfalso;rw[h] at hjl;simp at hjl
    have nC:∀b',W.heap.size≤b'→¬C b':=fun b' h1 h2=>by have:=(hC b' h2).1;omega
    have d8:wr.cell? ⟨bz,oz+j,none⟩=some (.int .i64 (zs.getD j 0)):=(hBr.cell (by omega) (fun h=>(hC _ h).2 (.inl ⟨hz1,hz2⟩))).trans (hzc j hjl);have dyr:wr.cell? ⟨W.heap.size,0,none⟩=some (.func (.yield l) #[] #[]):=(hBr.cell (by omega) (nC _ (Nat.le_refl _))).trans dy;have hvr:Own wr (W3.heap.size+2) _ ah:=hv'.but hBr (fun b' h1 _=>nC b' (by omega));have hsr:=hBr.size;have hatj:=hat j hjl;have hltj:=hlt j hjl;generalize zs.getD j 0=x at d8 hatj;clear hzc hat hlt dc dn dv;have k1:(0:Int)≤(j:Int):=Int.natCast_nonneg _;have k2:(j:Int)<(zs.length:Int):=by omega
    gi_wp2
    gi_cut [37] from 30 (fun s wx=>∃bb:Bool,s = .bool (!bb)∧But C W4 wx∧(bb=true→J (k*zs.length+j+1) wx)∧(bb=false→Jx (k*zs.length+j) wx))
    case first=>
     have hmix:Tryz.prog.follows .mixedOrders=true:=by kernel_rfl
     obtain⟨t0,t1,t2,t3,t4⟩:=info_parts Tryz.infoI;have hdz:wr.drew.heap.size=wr.heap.size:=rfl;have dyd:wr.drew.cell? ⟨W.heap.size,0,none⟩=some (.func (.yield l) #[] #[]):=dyr;have hRd:Rd wr.drew (.slice av ah.length cv) ah:=hvr.rd.keep ((Keep.refl wr).drew);have K0:Keep wr.drew wr.drew:=Keep.refl _;refine region_round hmix ?nd ?_
     case nd=>
      intro i o ho c
      have hi8:i<8:=by
       have:=(Array.getElem?_eq_some_iff.1 ho).1
       simpa using this
      rcases (by omega:i=0∨i=1∨i=2∨i=3∨i=4∨i=5∨i=6∨i=7) with rfl|rfl|rfl|rfl|rfl|rfl|rfl|rfl<;>(simp at ho;subst ho;intro h;cases h)
     refine takeIn 1 31 (.slice av ah.length cv) rfl rfl rfl (by kernel_rfl) (by kernel_rfl) (by kernel_rfl) (fun _ _ _ h=>h) ⟨Or.inl ⟨by rfl,by intro w;go_simp⟩,fun _=>rfl⟩ ?_;simp only[Act.put,List.setIfInBounds_toArray,List.set_cons_zero,List.set_cons_succ];refine takeIn 3 33 (.int .i64 x) rfl rfl rfl (by kernel_rfl) (by kernel_rfl) (by kernel_rfl) (fun _ _ _ h=>h) ⟨Or.inl ⟨by rfl,by intro w;go_simp⟩,fun _=>rfl⟩ ?_;simp only[Act.put,List.setIfInBounds_toArray,List.set_cons_zero,List.set_cons_succ];refine wpAnyIn_ready (rs:=[0,2,4]) (by kernel_rfl) (by simp) ?_;refine AllReadyIn.cons rfl (fun K hK=>?_) ?_
     ·
      have dy1:=(K0.cell (b:=W.heap.size) (o:=0) (by rw[hdz];omega)).trans dyd;go_simp;refine hK _ _ ?_;clear hK K dy1;refine wpAnyIn_ready (rs:=[2,4]) (by kernel_rfl) (by simp) ?_;refine AllReadyIn.cons rfl (fun K hK=>?_) ?_
      ·
       go_simp;refine⟨trivial,(callsIn_wide.2 (clone_any _ _ ah (hRd.keep K0) (by omega))).mono ?_⟩;rintro e w2 ⟨v2,rfl,o2,k2⟩;have hk2:=K0.size;have O2:=o2.base_le (base':=wr.heap.size) (by rw[hdz] at hk2;omega);have K2:=K0.trans k2;clear o2 k2 hk2;obtain⟨a2,c2,rfl,-⟩:=O2.rd;dsimp only;refine hK _ _ ?_;clear hK K;refine wpAnyIn_ready (rs:=[4]) (by kernel_rfl) (by simp) ?_;refine AllReadyIn.cons rfl (fun K hK=>?_) ?_
       ·
        go_simp;have T3:=(Boxed.new (w2) 2 (.int .i64 x)).cell;have tl3:(w2).heap.size<((w2).alloc (.cells #[.int .i64 x] 2)).heap.size:=by simp
        have K3:=K2.alloc (.cells #[.int .i64 x] 2);have O3:=O2.keep ((Keep.refl (w2)).alloc (.cells #[.int .i64 x] 2));refine hK _ _ ?_;clear hK K;refine wpAnyIn_ready (rs:=[5]) (by kernel_rfl) (by simp) ?_;refine AllReadyIn.cons rfl (fun K hK=>?_) ?_
        ·
         refine stepIn_append_own rfl (.tmp 32) (.tmp 34) 50 rfl wr.heap.size 2 t0 (.int .i64 0) 1 8 Tryz.underlying50 t1 t2 t3 t4 rfl (by decide) _ _ _ rfl O3 ⟨_,0,none⟩ 1 1 [.int .i64 x] rfl rfl (one_new T3) (by simp[Value.oneCell']) (by unfold maxLen;omega) (by omega) (by have:=K3.size;rw[hdz] at this;omega) ?_;intro v4 w4 ho4 hg4;have O4:Own w4 wr.heap.size v4 (ah++[x]):=own_hit ho4;have K4:Keep wr.drew w4:=K3.grown hg4 (fun k hk=>by rw[hdz];exact O3.ge k hk);obtain⟨g4,c4,rfl⟩:=ownsRow_succ ho4;clear ho4 hg4;refine hK _ _ ?_;clear hK K;refine wpAnyIn_ready (rs:=[6]) (by kernel_rfl) (by simp) ?_;refine AllReadyIn.cons rfl (fun K hK=>?_) ?_
         ·
          obtain⟨fn,tmps,assign,body,hy,hR⟩:=hY (m-1) (k*zs.length+j) (.slice (some ⟨g4,0,none⟩) (ah.length+1) c4) w4 hltj (hJ _ _ _ hJr (((But.refl _ wr).drew).keep K4)) (by show Own _ _ _ (atP css (n+1) (k*zs.length+j));rw[hatj];exact O4.base_le (by omega));go_simp;refine hR.mono ?_;rintro e w3 ⟨bb,rfl,hB3,hT3,hF3⟩;dsimp only;refine hK _ _ ?_;clear hK K hy hR;refine wpAnyIn_ready (rs:=[7]) (by kernel_rfl) (by simp) ?_;refine AllReadyIn.cons rfl (fun K hK=>?_) ?_
          ·
           go_simp;refine hK _ _ ?_;clear hK K;refine wpAnyIn_done (by kernel_rfl) ?_ _
           gi_wp2
           gi_meet
           case rel=>exact⟨bb,rfl,((hBr.drew).keep K4).trans hB3,hT3,hF3⟩
          exact AllReadyIn.nil
         exact AllReadyIn.nil
        exact AllReadyIn.nil
       exact AllReadyIn.nil
      refine AllReadyIn.cons rfl (fun K hK=>?_) ?_
      ·
       go_simp;have T7:=(Boxed.new (wr.drew) 2 (.int .i64 x)).cell;have tl7:(wr.drew).heap.size<((wr.drew).alloc (.cells #[.int .i64 x] 2)).heap.size:=by simp
       have K7:=K0.alloc (.cells #[.int .i64 x] 2);refine hK _ _ ?_;clear hK K;refine wpAnyIn_ready (rs:=[2]) (by kernel_rfl) (by simp) ?_;refine AllReadyIn.cons rfl (fun K hK=>?_) ?_
       ·
        go_simp;refine⟨trivial,(callsIn_wide.2 (clone_any _ _ ah (hRd.keep K7) (by omega))).mono ?_⟩;rintro e w8 ⟨v8,rfl,o8,k8⟩;have hk8:=K7.size;have O8:=o8.base_le (base':=wr.heap.size) (by rw[hdz] at hk8;omega);have K8:=K7.trans k8;have T8:=(k8.cell tl7).trans T7;have tl8:=Nat.lt_of_lt_of_le tl7 k8.size;clear o8 k8 hk8;obtain⟨a8,c8,rfl,-⟩:=O8.rd;dsimp only;refine hK _ _ ?_;clear hK K;refine wpAnyIn_ready (rs:=[5]) (by kernel_rfl) (by simp) ?_;refine AllReadyIn.cons rfl (fun K hK=>?_) ?_
        ·
         refine stepIn_append_own rfl (.tmp 32) (.tmp 34) 50 rfl wr.heap.size 2 t0 (.int .i64 0) 1 8 Tryz.underlying50 t1 t2 t3 t4 rfl (by decide) _ _ _ rfl O8 ⟨_,0,none⟩ 1 1 [.int .i64 x] rfl rfl (one_new T8) (by simp[Value.oneCell']) (by unfold maxLen;omega) (by omega) (by have:=K8.size;rw[hdz] at this;omega) ?_;intro v9 w9 ho9 hg9;have O9:Own w9 wr.heap.size v9 (ah++[x]):=own_hit ho9;have K9:Keep wr.drew w9:=K8.grown hg9 (fun k hk=>by rw[hdz];exact O8.ge k hk);obtain⟨g9,c9,rfl⟩:=ownsRow_succ ho9;clear ho9 hg9;refine hK _ _ ?_;clear hK K;refine wpAnyIn_ready (rs:=[6]) (by kernel_rfl) (by simp) ?_;refine AllReadyIn.cons rfl (fun K hK=>?_) ?_
         ·
          obtain⟨fn,tmps,assign,body,hy,hR⟩:=hY (m-1) (k*zs.length+j) (.slice (some ⟨g9,0,none⟩) (ah.length+1) c9) w9 hltj (hJ _ _ _ hJr (((But.refl _ wr).drew).keep K9)) (by show Own _ _ _ (atP css (n+1) (k*zs.length+j));rw[hatj];exact O9.base_le (by omega));go_simp;refine hR.mono ?_;rintro e w3 ⟨bb,rfl,hB3,hT3,hF3⟩;dsimp only;refine hK _ _ ?_;clear hK K hy hR;refine wpAnyIn_ready (rs:=[7]) (by kernel_rfl) (by simp) ?_;refine AllReadyIn.cons rfl (fun K hK=>?_) ?_
          ·
           go_simp;refine hK _ _ ?_;clear hK K;refine wpAnyIn_done (by kernel_rfl) ?_ _
           gi_wp2
           gi_meet
           case rel=>exact⟨bb,rfl,((hBr.drew).keep K9).trans hB3,hT3,hF3⟩
          exact AllReadyIn.nil
         exact AllReadyIn.nil
        exact AllReadyIn.nil
       exact AllReadyIn.nil
      exact AllReadyIn.nil
     refine AllReadyIn.cons rfl (fun K hK=>?_) ?_
     ·
      go_simp;refine⟨trivial,(callsIn_wide.2 (clone_any _ _ ah (hRd.keep K0) (by omega))).mono ?_⟩;rintro e w12 ⟨v12,rfl,o12,k12⟩;have hk12:=K0.size;have O12:=o12.base_le (base':=wr.heap.size) (by rw[hdz] at hk12;omega);have K12:=K0.trans k12;clear o12 k12 hk12;obtain⟨a12,c12,rfl,-⟩:=O12.rd;dsimp only;refine hK _ _ ?_;clear hK K;refine wpAnyIn_ready (rs:=[0,4]) (by kernel_rfl) (by simp) ?_;refine AllReadyIn.cons rfl (fun K hK=>?_) ?_
      ·
       have dy13:=(K12.cell (b:=W.heap.size) (o:=0) (by rw[hdz];omega)).trans dyd;go_simp;refine hK _ _ ?_;clear hK K dy13;refine wpAnyIn_ready (rs:=[4]) (by kernel_rfl) (by simp) ?_;refine AllReadyIn.cons rfl (fun K hK=>?_) ?_
       ·
        go_simp;have T14:=(Boxed.new (w12) 2 (.int .i64 x)).cell;have tl14:(w12).heap.size<((w12).alloc (.cells #[.int .i64 x] 2)).heap.size:=by simp
        have K14:=K12.alloc (.cells #[.int .i64 x] 2);have O14:=O12.keep ((Keep.refl (w12)).alloc (.cells #[.int .i64 x] 2));refine hK _ _ ?_;clear hK K;refine wpAnyIn_ready (rs:=[5]) (by kernel_rfl) (by simp) ?_;refine AllReadyIn.cons rfl (fun K hK=>?_) ?_
        ·
         refine stepIn_append_own rfl (.tmp 32) (.tmp 34) 50 rfl wr.heap.size 2 t0 (.int .i64 0) 1 8 Tryz.underlying50 t1 t2 t3 t4 rfl (by decide) _ _ _ rfl O14 ⟨_,0,none⟩ 1 1 [.int .i64 x] rfl rfl (one_new T14) (by simp[Value.oneCell']) (by unfold maxLen;omega) (by omega) (by have:=K14.size;rw[hdz] at this;omega) ?_;intro v15 w15 ho15 hg15;have O15:Own w15 wr.heap.size v15 (ah++[x]):=own_hit ho15;have K15:Keep wr.drew w15:=K14.grown hg15 (fun k hk=>by rw[hdz];exact O14.ge k hk);obtain⟨g15,c15,rfl⟩:=ownsRow_succ ho15;clear ho15 hg15;refine hK _ _ ?_;clear hK K;refine wpAnyIn_ready (rs:=[6]) (by kernel_rfl) (by simp) ?_;refine AllReadyIn.cons rfl (fun K hK=>?_) ?_
         ·
          obtain⟨fn,tmps,assign,body,hy,hR⟩:=hY (m-1) (k*zs.length+j) (.slice (some ⟨g15,0,none⟩) (ah.length+1) c15) w15 hltj (hJ _ _ _ hJr (((But.refl _ wr).drew).keep K15)) (by show Own _ _ _ (atP css (n+1) (k*zs.length+j));rw[hatj];exact O15.base_le (by omega));go_simp;refine hR.mono ?_;rintro e w3 ⟨bb,rfl,hB3,hT3,hF3⟩;dsimp only;refine hK _ _ ?_;clear hK K hy hR;refine wpAnyIn_ready (rs:=[7]) (by kernel_rfl) (by simp) ?_;refine AllReadyIn.cons rfl (fun K hK=>?_) ?_
          ·
           go_simp;refine hK _ _ ?_;clear hK K;refine wpAnyIn_done (by kernel_rfl) ?_ _
           gi_wp2
           gi_meet
           case rel=>exact⟨bb,rfl,((hBr.drew).keep K15).trans hB3,hT3,hF3⟩
          exact AllReadyIn.nil
         exact AllReadyIn.nil
        exact AllReadyIn.nil
       exact AllReadyIn.nil
      refine AllReadyIn.cons rfl (fun K hK=>?_) ?_
      ·
       go_simp;have T18:=(Boxed.new (w12) 2 (.int .i64 x)).cell;have tl18:(w12).heap.size<((w12).alloc (.cells #[.int .i64 x] 2)).heap.size:=by simp
       have K18:=K12.alloc (.cells #[.int .i64 x] 2);have O18:=O12.keep ((Keep.refl (w12)).alloc (.cells #[.int .i64 x] 2));refine hK _ _ ?_;clear hK K;refine wpAnyIn_ready (rs:=[0,5]) (by kernel_rfl) (by simp) ?_;refine AllReadyIn.cons rfl (fun K hK=>?_) ?_
       ·
        have dy19:=(K18.cell (b:=W.heap.size) (o:=0) (by rw[hdz];omega)).trans dyd;go_simp;refine hK _ _ ?_;clear hK K dy19;refine wpAnyIn_ready (rs:=[5]) (by kernel_rfl) (by simp) ?_;refine AllReadyIn.cons rfl (fun K hK=>?_) ?_
        ·
         refine stepIn_append_own rfl (.tmp 32) (.tmp 34) 50 rfl wr.heap.size 2 t0 (.int .i64 0) 1 8 Tryz.underlying50 t1 t2 t3 t4 rfl (by decide) _ _ _ rfl O18 ⟨_,0,none⟩ 1 1 [.int .i64 x] rfl rfl (one_new T18) (by simp[Value.oneCell']) (by unfold maxLen;omega) (by omega) (by have:=K18.size;rw[hdz] at this;omega) ?_;intro v20 w20 ho20 hg20;have O20:Own w20 wr.heap.size v20 (ah++[x]):=own_hit ho20;have K20:Keep wr.drew w20:=K18.grown hg20 (fun k hk=>by rw[hdz];exact O18.ge k hk);obtain⟨g20,c20,rfl⟩:=ownsRow_succ ho20;clear ho20 hg20;refine hK _ _ ?_;clear hK K;refine wpAnyIn_ready (rs:=[6]) (by kernel_rfl) (by simp) ?_;refine AllReadyIn.cons rfl (fun K hK=>?_) ?_
         ·
          obtain⟨fn,tmps,assign,body,hy,hR⟩:=hY (m-1) (k*zs.length+j) (.slice (some ⟨g20,0,none⟩) (ah.length+1) c20) w20 hltj (hJ _ _ _ hJr (((But.refl _ wr).drew).keep K20)) (by show Own _ _ _ (atP css (n+1) (k*zs.length+j));rw[hatj];exact O20.base_le (by omega));go_simp;refine hR.mono ?_;rintro e w3 ⟨bb,rfl,hB3,hT3,hF3⟩;dsimp only;refine hK _ _ ?_;clear hK K hy hR;refine wpAnyIn_ready (rs:=[7]) (by kernel_rfl) (by simp) ?_;refine AllReadyIn.cons rfl (fun K hK=>?_) ?_
          ·
           go_simp;refine hK _ _ ?_;clear hK K;refine wpAnyIn_done (by kernel_rfl) ?_ _
           gi_wp2
           gi_meet
           case rel=>exact⟨bb,rfl,((hBr.drew).keep K20).trans hB3,hT3,hF3⟩
          exact AllReadyIn.nil
         exact AllReadyIn.nil
        exact AllReadyIn.nil
       refine AllReadyIn.cons rfl (fun K hK=>?_) ?_
       ·
        refine stepIn_append_own rfl (.tmp 32) (.tmp 34) 50 rfl wr.heap.size 2 t0 (.int .i64 0) 1 8 Tryz.underlying50 t1 t2 t3 t4 rfl (by decide) _ _ _ rfl O18 ⟨_,0,none⟩ 1 1 [.int .i64 x] rfl rfl (one_new T18) (by simp[Value.oneCell']) (by unfold maxLen;omega) (by omega) (by have:=K18.size;rw[hdz] at this;omega) ?_;intro v23 w23 ho23 hg23;have O23:Own w23 wr.heap.size v23 (ah++[x]):=own_hit ho23;have K23:Keep wr.drew w23:=K18.grown hg23 (fun k hk=>by rw[hdz];exact O18.ge k hk);obtain⟨g23,c23,rfl⟩:=ownsRow_succ ho23;clear ho23 hg23;refine hK _ _ ?_;clear hK K;refine wpAnyIn_ready (rs:=[0]) (by kernel_rfl) (by simp) ?_;refine AllReadyIn.cons rfl (fun K hK=>?_) ?_
        ·
         have dy24:=(K23.cell (b:=W.heap.size) (o:=0) (by rw[hdz];omega)).trans dyd;go_simp;refine hK _ _ ?_;clear hK K dy24;refine wpAnyIn_ready (rs:=[6]) (by kernel_rfl) (by simp) ?_;refine AllReadyIn.cons rfl (fun K hK=>?_) ?_
         ·
          obtain⟨fn,tmps,assign,body,hy,hR⟩:=hY (m-1) (k*zs.length+j) (.slice (some ⟨g23,0,none⟩) (ah.length+1) c23) w23 hltj (hJ _ _ _ hJr (((But.refl _ wr).drew).keep K23)) (by show Own _ _ _ (atP css (n+1) (k*zs.length+j));rw[hatj];exact O23.base_le (by omega));go_simp;refine hR.mono ?_;rintro e w3 ⟨bb,rfl,hB3,hT3,hF3⟩;dsimp only;refine hK _ _ ?_;clear hK K hy hR;refine wpAnyIn_ready (rs:=[7]) (by kernel_rfl) (by simp) ?_;refine AllReadyIn.cons rfl (fun K hK=>?_) ?_
          ·
           go_simp;refine hK _ _ ?_;clear hK K;refine wpAnyIn_done (by kernel_rfl) ?_ _
           gi_wp2
           gi_meet
           case rel=>exact⟨bb,rfl,((hBr.drew).keep K23).trans hB3,hT3,hF3⟩
          exact AllReadyIn.nil
         exact AllReadyIn.nil
        exact AllReadyIn.nil
       exact AllReadyIn.nil
      exact AllReadyIn.nil
     refine AllReadyIn.cons rfl (fun K hK=>?_) ?_
     ·
      go_simp;have T27:=(Boxed.new (wr.drew) 2 (.int .i64 x)).cell;have tl27:(wr.drew).heap.size<((wr.drew).alloc (.cells #[.int .i64 x] 2)).heap.size:=by simp
      have K27:=K0.alloc (.cells #[.int .i64 x] 2);refine hK _ _ ?_;clear hK K;refine wpAnyIn_ready (rs:=[0,2]) (by kernel_rfl) (by simp) ?_;refine AllReadyIn.cons rfl (fun K hK=>?_) ?_
      ·
       have dy28:=(K27.cell (b:=W.heap.size) (o:=0) (by rw[hdz];omega)).trans dyd;have dx28:((wr).alloc (.cells #[.int .i64 x] 2)).cell? ⟨W.heap.size,0,none⟩=some (.func (.yield l) #[] #[]):=dy28;go_simp;refine hK _ _ ?_;clear hK K dy28;refine wpAnyIn_ready (rs:=[2]) (by kernel_rfl) (by simp) ?_;refine AllReadyIn.cons rfl (fun K hK=>?_) ?_
       ·
        go_simp;refine⟨trivial,(callsIn_wide.2 (clone_any _ _ ah (hRd.keep K27) (by omega))).mono ?_⟩;rintro e w29 ⟨v29,rfl,o29,k29⟩;have hk29:=K27.size;have O29:=o29.base_le (base':=wr.heap.size) (by rw[hdz] at hk29;omega);have K29:=K27.trans k29;have T29:=(k29.cell tl27).trans T27;have tl29:=Nat.lt_of_lt_of_le tl27 k29.size;clear o29 k29 hk29;obtain⟨a29,c29,rfl,-⟩:=O29.rd;dsimp only;refine hK _ _ ?_;clear hK K;refine wpAnyIn_ready (rs:=[5]) (by kernel_rfl) (by simp) ?_;refine AllReadyIn.cons rfl (fun K hK=>?_) ?_
        ·
         refine stepIn_append_own rfl (.tmp 32) (.tmp 34) 50 rfl wr.heap.size 2 t0 (.int .i64 0) 1 8 Tryz.underlying50 t1 t2 t3 t4 rfl (by decide) _ _ _ rfl O29 ⟨_,0,none⟩ 1 1 [.int .i64 x] rfl rfl (one_new T29) (by simp[Value.oneCell']) (by unfold maxLen;omega) (by omega) (by have:=K29.size;rw[hdz] at this;omega) ?_;intro v30 w30 ho30 hg30;have O30:Own w30 wr.heap.size v30 (ah++[x]):=own_hit ho30;have K30:Keep wr.drew w30:=K29.grown hg30 (fun k hk=>by rw[hdz];exact O29.ge k hk);obtain⟨g30,c30,rfl⟩:=ownsRow_succ ho30;clear ho30 hg30;refine hK _ _ ?_;clear hK K;refine wpAnyIn_ready (rs:=[6]) (by kernel_rfl) (by simp) ?_;refine AllReadyIn.cons rfl (fun K hK=>?_) ?_
         ·
          obtain⟨fn,tmps,assign,body,hy,hR⟩:=hY (m-1) (k*zs.length+j) (.slice (some ⟨g30,0,none⟩) (ah.length+1) c30) w30 hltj (hJ _ _ _ hJr (((But.refl _ wr).drew).keep K30)) (by show Own _ _ _ (atP css (n+1) (k*zs.length+j));rw[hatj];exact O30.base_le (by omega));go_simp;refine hR.mono ?_;rintro e w3 ⟨bb,rfl,hB3,hT3,hF3⟩;dsimp only;refine hK _ _ ?_;clear hK K hy hR;refine wpAnyIn_ready (rs:=[7]) (by kernel_rfl) (by simp) ?_;refine AllReadyIn.cons rfl (fun K hK=>?_) ?_
          ·
           go_simp;refine hK _ _ ?_;clear hK K;refine wpAnyIn_done (by kernel_rfl) ?_ _
           gi_wp2
           gi_meet
           case rel=>exact⟨bb,rfl,((hBr.drew).keep K30).trans hB3,hT3,hF3⟩
          exact AllReadyIn.nil
         exact AllReadyIn.nil
        exact AllReadyIn.nil
       exact AllReadyIn.nil
      refine AllReadyIn.cons rfl (fun K hK=>?_) ?_
      ·
       go_simp;refine⟨trivial,(callsIn_wide.2 (clone_any _ _ ah (hRd.keep K27) (by omega))).mono ?_⟩;rintro e w33 ⟨v33,rfl,o33,k33⟩;have hk33:=K27.size;have O33:=o33.base_le (base':=wr.heap.size) (by rw[hdz] at hk33;omega);have K33:=K27.trans k33;have T33:=(k33.cell tl27).trans T27;have tl33:=Nat.lt_of_lt_of_le tl27 k33.size;clear o33 k33 hk33;obtain⟨a33,c33,rfl,-⟩:=O33.rd;dsimp only;refine hK _ _ ?_;clear hK K;refine wpAnyIn_ready (rs:=[0,5]) (by kernel_rfl) (by simp) ?_;refine AllReadyIn.cons rfl (fun K hK=>?_) ?_
       ·
        have dy34:=(K33.cell (b:=W.heap.size) (o:=0) (by rw[hdz];omega)).trans dyd;go_simp;refine hK _ _ ?_;clear hK K dy34;refine wpAnyIn_ready (rs:=[5]) (by kernel_rfl) (by simp) ?_;refine AllReadyIn.cons rfl (fun K hK=>?_) ?_
        ·
         refine stepIn_append_own rfl (.tmp 32) (.tmp 34) 50 rfl wr.heap.size 2 t0 (.int .i64 0) 1 8 Tryz.underlying50 t1 t2 t3 t4 rfl (by decide) _ _ _ rfl O33 ⟨_,0,none⟩ 1 1 [.int .i64 x] rfl rfl (one_new T33) (by simp[Value.oneCell']) (by unfold maxLen;omega) (by omega) (by have:=K33.size;rw[hdz] at this;omega) ?_;intro v35 w35 ho35 hg35;have O35:Own w35 wr.heap.size v35 (ah++[x]):=own_hit ho35;have K35:Keep wr.drew w35:=K33.grown hg35 (fun k hk=>by rw[hdz];exact O33.ge k hk);obtain⟨g35,c35,rfl⟩:=ownsRow_succ ho35;clear ho35 hg35;refine hK _ _ ?_;clear hK K;refine wpAnyIn_ready (rs:=[6]) (by kernel_rfl) (by simp) ?_;refine AllReadyIn.cons rfl (fun K hK=>?_) ?_
         ·
          obtain⟨fn,tmps,assign,body,hy,hR⟩:=hY (m-1) (k*zs.length+j) (.slice (some ⟨g35,0,none⟩) (ah.length+1) c35) w35 hltj (hJ _ _ _ hJr (((But.refl _ wr).drew).keep K35)) (by show Own _ _ _ (atP css (n+1) (k*zs.length+j));rw[hatj];exact O35.base_le (by omega));go_simp;refine hR.mono ?_;rintro e w3 ⟨bb,rfl,hB3,hT3,hF3⟩;dsimp only;refine hK _ _ ?_;clear hK K hy hR;refine wpAnyIn_ready (rs:=[7]) (by kernel_rfl) (by simp) ?_;refine AllReadyIn.cons rfl (fun K hK=>?_) ?_
          ·
           go_simp;refine hK _ _ ?_;clear hK K;refine wpAnyIn_done (by kernel_rfl) ?_ _
           gi_wp2
           gi_meet
           case rel=>exact⟨bb,rfl,((hBr.drew).keep K35).trans hB3,hT3,hF3⟩
          exact AllReadyIn.nil
         exact AllReadyIn.nil
        exact AllReadyIn.nil
       refine AllReadyIn.cons rfl (fun K hK=>?_) ?_
       ·
        refine stepIn_append_own rfl (.tmp 32) (.tmp 34) 50 rfl wr.heap.size 2 t0 (.int .i64 0) 1 8 Tryz.underlying50 t1 t2 t3 t4 rfl (by decide) _ _ _ rfl O33 ⟨_,0,none⟩ 1 1 [.int .i64 x] rfl rfl (one_new T33) (by simp[Value.oneCell']) (by unfold maxLen;omega) (by omega) (by have:=K33.size;rw[hdz] at this;omega) ?_;intro v38 w38 ho38 hg38;have O38:Own w38 wr.heap.size v38 (ah++[x]):=own_hit ho38;have K38:Keep wr.drew w38:=K33.grown hg38 (fun k hk=>by rw[hdz];exact O33.ge k hk);obtain⟨g38,c38,rfl⟩:=ownsRow_succ ho38;clear ho38 hg38;refine hK _ _ ?_;clear hK K;refine wpAnyIn_ready (rs:=[0]) (by kernel_rfl) (by simp) ?_;refine AllReadyIn.cons rfl (fun K hK=>?_) ?_
        ·
         have dy39:=(K38.cell (b:=W.heap.size) (o:=0) (by rw[hdz];omega)).trans dyd;go_simp;refine hK _ _ ?_;clear hK K dy39;refine wpAnyIn_ready (rs:=[6]) (by kernel_rfl) (by simp) ?_;refine AllReadyIn.cons rfl (fun K hK=>?_) ?_
         ·
          obtain⟨fn,tmps,assign,body,hy,hR⟩:=hY (m-1) (k*zs.length+j) (.slice (some ⟨g38,0,none⟩) (ah.length+1) c38) w38 hltj (hJ _ _ _ hJr (((But.refl _ wr).drew).keep K38)) (by show Own _ _ _ (atP css (n+1) (k*zs.length+j));rw[hatj];exact O38.base_le (by omega));go_simp;refine hR.mono ?_;rintro e w3 ⟨bb,rfl,hB3,hT3,hF3⟩;dsimp only;refine hK _ _ ?_;clear hK K hy hR;refine wpAnyIn_ready (rs:=[7]) (by kernel_rfl) (by simp) ?_;refine AllReadyIn.cons rfl (fun K hK=>?_) ?_
          ·
           go_simp;refine hK _ _ ?_;clear hK K;refine wpAnyIn_done (by kernel_rfl) ?_ _
           gi_wp2
           gi_meet
           case rel=>exact⟨bb,rfl,((hBr.drew).keep K38).trans hB3,hT3,hF3⟩
          exact AllReadyIn.nil
         exact AllReadyIn.nil
        exact AllReadyIn.nil
       exact AllReadyIn.nil
      exact AllReadyIn.nil
     exact AllReadyIn.nil
    case rest=>
     obtain⟨bb,rfl,hB5,hT5,hF5⟩:=hcut;cases bb
     ·
      have hF6:=hF5 rfl;clear hF5 hT5
      gi_wp2
      exact⟨hB5,rfl,_,hltj,hF6⟩
     ·
      have hT6:=hT5 rfl;clear hF5 hT5
      gi_wp2
      go_roundw;case rel=>exact⟨j+1,by omega,by go_num,hT6,hB5⟩
      case measure=>simp[intOf];omega
   ·
    obtain rfl:j=zs.length:=by omega
    gi_wp2
    exact⟨hBr,by rw[hm1];exact hJr,hBk.trans (hBr.mono (fun _ _ h => .inl h))⟩
 case done=>
  rintro W4 ⟨h1,h2⟩ hD
  gi_wp2
  refine⟨by simp,.inl ⟨_,_,rfl,run_takeDeferred hD,?_⟩⟩;exact⟨_,results_none rfl _ _ _,⟨_,rfl⟩,.inl (by rw[srcN_succ];exact hJ _ _ _ h1 ((But.refl (NC W.heap.size W4) W4).put ⟨by omega,_,hD,rfl⟩ _))⟩
 case stop=>
  rintro c k W4 hk ⟨rfl,j,hj,h2⟩ hD
  gi_wp2
  refine⟨by simp,.inl ⟨_,_,rfl,run_takeDeferred hD,?_⟩⟩;exact⟨_,results_none rfl _ _ _,⟨_,rfl⟩,.inr ⟨j,hj,hJx _ _ _ h2 ((But.refl (NC W.heap.size W4) W4).put ⟨by omega,_,hD,rfl⟩ _)⟩⟩
theorem sources_seq (css:List (List Int))(s1 s2:Nat)(hcl:∀i,(css.getD i []).length≤12):∀n:Nat,n≤12→∀(w0:World) (Bc:Nat) (v:Value),RdP s1 s2 w0 v n css→w0.cell? ⟨Bc,0,none⟩=some v→Bc<w0.heap.size→s2≤w0.heap.size →
  SeqM Tryz.prog 203 #[.pointer (some ⟨Bc,0,none⟩)] (PrS s1 s2 Bc) (srcN css n) (LieS css n) w0
 | 0,_,w0,Bc,v,h1,h2,h3,_=>sources0_seq css s1 s2 w0 Bc v h1 h2 h3
 |n+1,hn,w0,Bc,v,h1,h2,h3,h4=>sourcesS_seq css s1 s2 hcl n hn (sources_seq css s1 s2 hcl n (by omega)) w0 Bc v h1 h2 h3 h4
theorem boxed_but {C:Nat→Prop}{A B:World}{g:Nat}{t:TypeId}{v:Value}(h:Boxed A g t v)(k:But C A B)(hn:¬C g):Boxed B g t v:=(k.block g h.lt hn).trans h
theorem keep_but {C:Nat→Prop}{w A B:World}(h:Keep w A)(k:But C A B)(hc:∀b,C b→w.heap.size≤b):Keep w B:=
 ⟨k.os.trans h.os,k.tape.trans h.tape,k.output.trans h.output,Nat.le_trans h.size k.size,fun b hb=>(k.block b (by have:=h.size;omega) (fun e=>by have:=hc b e;omega)).trans (h.block b hb)⟩
theorem boxed_keep {A B:World}{g:Nat}{t:TypeId}{v:Value}(h:Boxed A g t v)(k:Keep A B):Boxed B g t v:=(k.block g h.lt).trans h
theorem rClo_any (x0 x1:Int)(x2:Bool)(x3 x4 x5:Int)(w:World):
  Calls Tryz.prog 255 #[.agg #[.int .i64 x0,.int .i64 x1,.bool x2,.int .i64 x3,.int .i64 x4,.int .i64 x5]] w fun e w'=>e = .returned (.bool (rdE (x0,x1,x2,x3,x4,x5)))∧Keep w w':=by
 go_enter Tryz.func255,Tryz.ntmps255
 go_wp2;go_ret;exact⟨rfl,(Keep.refl w).alloc _⟩
theorem rNum_any (w:World)(v:Value)(es:List Ev)(h:RdE w v es)(k:Nat)(A B:Nat)(hA:w.cell? ⟨A,0,none⟩=some v)(hAl:A<w.heap.size)(hB:w.cell? ⟨B,0,none⟩=some (.func (Fn.func 255) #[] #[]))(hBl:B<w.heap.size):
  Calls Tryz.prog 284 #[.int .i64 k,.pointer (some ⟨A,0,none⟩),.pointer (some ⟨B,0,none⟩)] w fun e w'=>e = .returned (.bool (tstE rdE es k))∧Keep w w':=by
 obtain⟨a,c,rfl,h⟩:=h;by_cases hlt:k<es.length
 ·
  rcases h with h|⟨b,o,rfl,hb,hc⟩
  · exfalso;rw[h] at hlt;simp at hlt
  have AT:=hc k _ (evs_get hlt);have HE:Hid (tstE rdE es k=rdE (es.getD k zE)):=Lib.hid (by unfold tstE;simp[hlt]);clear hc;obtain⟨e,he⟩:∃e,e=es.getD k zE:=⟨_,rfl⟩;rw[←he] at AT HE;clear he;obtain⟨x0,x1,x2,x3,x4,x5⟩:=e;obtain⟨d0,d1,d2,d3,d4,d5⟩:=atE AT;clear AT;have i1:(0:Int)≤(k:Int):=Int.natCast_nonneg _;have i2:(k:Int)<(es.length:Int):=by omega
  have z1:b<w.drew.heap.size:=hb;have z2:A<w.drew.heap.size:=hAl;have z3:B<w.drew.heap.size:=hBl;go_enter Tryz.func284,Tryz.ntmps284
  go_wp2_with fail
  go_region_held3 (fun w'=>w'.cell? ⟨A,0,none⟩=some (.slice (some ⟨b,o,none⟩) es.length (es.length+c))∧w'.cell? ⟨B,0,none⟩=some (.func (Fn.func 255) #[] #[])∧w'.cell? ⟨b,o+k*6,none⟩=some (.int .i64 x0)∧w'.cell? ⟨b,o+k*6+1,none⟩=some (.int .i64 x1)∧w'.cell? ⟨b,o+k*6+2,none⟩=some (.bool x2)∧w'.cell? ⟨b,o+k*6+3,none⟩=some (.int .i64 x3)∧w'.cell? ⟨b,o+k*6+4,none⟩=some (.int .i64 x4)∧w'.cell? ⟨b,o+k*6+5,none⟩=some (.int .i64 x5))
   (first|go_keep|(go_split_ands;refine⟨?_,?_,?_,?_,?_,?_,?_,?_⟩<;>(rw[kk.cell (by assumption)];assumption)))
   ((go_at_call 255;refine (rClo_any x0 x1 x2 x3 x4 x5 _).mono ?_;rintro e wz ⟨rfl,kk⟩))
  all_goals
   go_wp2;go_ret;exact⟨by rw[HE.out];rfl,((Keep.refl w).drew).trans kk⟩
 ·
  have HE:Hid (tstE rdE es k=false):=Lib.hid (by unfold tstE;simp[hlt]);have i2:¬((k:Int)<(es.length:Int)):=by omega
  go_enter Tryz.func284,Tryz.ntmps284
  go_wp2_with fail
  go_quiet (fail)
  go_wp2;go_ret;exact⟨by rw[HE.out];rfl,(Keep.refl w).drewN _⟩
theorem rChosen_any (w:World)(v:Value)(es:List Ev)(h:RdE w v es)(hx:es.length≤12)(A B:Nat)(hA:w.cell? ⟨A,0,none⟩=some v)(hAl:A<w.heap.size)(hB:w.cell? ⟨B,0,none⟩=some (.func (Fn.func 255) #[] #[]))(hBl:B<w.heap.size):
  Calls Tryz.prog 283 #[.func (Fn.func 284) #[] #[.pointer (some ⟨A,0,none⟩),.pointer (some ⟨B,0,none⟩)]] w fun e w'=>∃v',e = .returned v'∧Own w' w.heap.size v' (idxK rdE es es.length)∧Keep w w':=by
 have hown0:Own (w.alloc (.cells #[] 2)) w.heap.size (.slice (some ⟨w.heap.size,0,none⟩) 0 0) []:=World.ownsRow_lit w #[] 0 (Nat.le_refl _) (by decide) rfl;obtain⟨i0,hi,hz0,hz1,hz2⟩:=info_parts Tryz.infoI;go_enter Tryz.func283,Tryz.ntmps283
 go_wp2;go_loopw [3,6] (fun v i wr=>∃k:Nat,k≤12∧i = .int .i64 k∧Own wr w.heap.size v (chK rdE es k)∧Keep w wr) (fun _ i _=>12-(intOf i).toNat)
 case atStart=>exact⟨0,Nat.zero_le _,rfl,hown0,(Keep.refl _).alloc _⟩
 case round=>
  obtain⟨k,hk,rfl,ho,hK⟩:=hrel;clear hown0;by_cases hlt:k<12
  ·
   have hml:=chK_len rdE es k;have hsz:=hK.size;have C:=rNum_any wr v es (h.keep hK) k A B (by rw[hK.cell hAl];exact hA) (Nat.lt_of_lt_of_le hAl hK.size) (by rw[hK.cell hBl];exact hB) (Nat.lt_of_lt_of_le hBl hK.size);clear h hA hB;cases hb:tstE rdE es k
   ·
    have HM:Hid (chK rdE es (k+1)=chK rdE es k):=Lib.hid (by rw[chK,hb];rfl);rw[hb] at C;go_wp2_with fail
    refine C.mono ?_;rintro e w1 ⟨rfl,k1⟩;go_wp2;go_roundw;case rel=>exact⟨k+1,by omega,by go_num,by rw[HM.out];exact ho.keep k1,hK.trans k1⟩
    case measure=>simp[intOf];omega
   ·
    have HM:Hid (chK rdE es (k+1)=chK rdE es k++[(k:Int)]):=Lib.hid (by rw[chK,hb];rfl);rw[hb] at C;go_wp2_with fail
    refine C.mono ?_;rintro e w1 ⟨rfl,k1⟩;have ho1:=ho.keep k1;have hK1:=hK.trans k1;have hsz1:=hK1.size;clear ho hK C;go_wp2_with (at_builtin;refine wpList_append_own _ rfl _ _ 50 rfl w.heap.size 2 i0 (.int .i64 0) 1 8 Tryz.underlying50 hi hz0 hz1 hz2 rfl (by decide) _ _ _ rfl (World.ownsRow.alloc ho1 _) ⟨_,0,none⟩ 1 1 [.int .i64 k] rfl rfl ?c1 ?c2 ?c3 ?c4 ?c5 ?_)
    case c1=>
     intro j u hj
     match j,hj with
     | 0,hj=>simp at hj;subst hj;simp[Addr.add]
    case c2=>intro u hu;simp at hu;subst hu;rfl
    case c3=>unfold maxLen;omega
    case c4=>omega
    case c5=>simp;omega
    intro v' w2 hown' hgrow _;have hK2:Keep w w2:=(hK1.alloc _).grown hgrow ho1.ge;clear hgrow;go_wp2;go_roundw;case rel=>exact⟨k+1,by omega,by go_num,by rw[HM.out];exact own_hit hown',hK2⟩
    case measure=>simp[intOf];omega
  ·
   obtain rfl:k=12:=by omega
   rw[chK_all rdE es 12 hx] at ho;go_wp2;go_ret;exact⟨_,rfl,ho,hK⟩
theorem rNumbers_any (w:World)(v:Value)(es:List Ev)(h:RdE w v es)(hx:es.length≤1048576):
  Calls Tryz.prog 254 #[v,(.func (Fn.func 255) #[] #[])] w fun e w'=>∃v',e = .returned v'∧Own w' w.heap.size v' (idxB rdE es)∧Keep w w':=by
 by_cases hl:12<es.length
 ·
  have HE:Hid (idxB rdE es=[]):=Lib.hid (by unfold idxB;rw[if_neg (by omega)]);have l1:(12:Int)<(es.length:Int):=by omega
  have O:∀o1 o2:Obj,Own (((w.alloc o1).alloc o2).alloc (.cells #[] 2)) w.heap.size (.slice (some ⟨w.heap.size+1+1,0,none⟩) 0 0) []:=fun o1 o2=>by
   have q:Own (((w.alloc o1).alloc o2).alloc (.cells #[] 2)) ((w.alloc o1).alloc o2).heap.size (.slice (some ⟨((w.alloc o1).alloc o2).heap.size,0,none⟩) 0 0) []:=World.ownsRow_lit _ #[] 0 (Nat.le_refl _) (by decide) rfl;have z:((w.alloc o1).alloc o2).heap.size=w.heap.size+1+1:=by rw[heap_size,heap_size]
   rw[z] at q;exact q.base_le (by omega)
  obtain⟨a,c,rfl,h⟩:=h;go_enter Tryz.func254,Tryz.ntmps254
  go_wp2;go_ret;refine⟨_,rfl,?_,(((Keep.refl w).alloc _).alloc _).alloc _⟩;rw[HE.out];exact O _ _
 ·
  have l1:es.length≤12:=by omega
  have HE:Hid (idxB rdE es=idxK rdE es es.length):=Lib.hid (by unfold idxB;rw[if_pos l1]);clear hl;have C:=fun (o1 o2:Obj)=>rChosen_any ((w.alloc o1).alloc o2) v es (h.keep (((Keep.refl w).alloc _).alloc _)) l1 w.heap.size (w.heap.size+1)
  obtain⟨a,c,rfl,h⟩:=h;have l2:(es.length:Int)≤12:=by omega
  go_enter Tryz.func254,Tryz.ntmps254
  go_wp2_with fail
  refine (C _ _ ?g1 ?g2 ?g3 ?g4).mono ?_;case g1=>simp
  case g2=>simp only[heap_size];omega
  case g3=>simp
  case g4=>simp only[heap_size];omega
  rintro e w1 ⟨v1,rfl,ho,hK⟩;go_wp2;go_ret;refine⟨_,rfl,?_,(((Keep.refl w).alloc _).alloc _).trans hK⟩;rw[HE.out];exact ho.base_le (by simp only[heap_size];omega)
theorem implReadsOf_any (w:World)(v:Value)(es:List Ev)(h:RdE w v es)(hx:es.length≤1048576):
  Calls Tryz.prog 205 #[v] w fun e w'=>∃v',e = .returned v'∧Own w' w.heap.size v' (idxB rdE es)∧Keep w w':=by
 go_enter Tryz.func205,Tryz.ntmps205
 go_wp2_with fail
 refine (rNumbers_any _ _ _ h hx).mono ?_;rintro e w1 ⟨v1,rfl,ho,hK⟩;go_wp2;go_ret;exact⟨_,rfl,ho,hK⟩
theorem wClo_any (x0 x1:Int)(x2:Bool)(x3 x4 x5 p:Int)(P:Nat)(w:World)(hP:w.cell? ⟨P,0,none⟩=some (.int .i64 p))(hPl:P<w.heap.size):
  Calls Tryz.prog 256 #[.agg #[.int .i64 x0,.int .i64 x1,.bool x2,.int .i64 x3,.int .i64 x4,.int .i64 x5],.pointer (some ⟨P,0,none⟩)] w fun e w'=>e = .returned (.bool (toE p (x0,x1,x2,x3,x4,x5)))∧Keep w w':=by
 cases x2
 ·
  by_cases hp:x3=p
  ·
   subst hp;go_enter Tryz.func256,Tryz.ntmps256
   go_wp2;go_ret;exact⟨ret_bool (by simp[toE]),(Keep.refl w).alloc _⟩
  ·
   have he:(x3==p)=false:=by simpa using hp
   go_enter Tryz.func256,Tryz.ntmps256
   go_wp2;go_ret;exact⟨ret_bool (by simp[toE,hp]),(Keep.refl w).alloc _⟩
 ·
  go_enter Tryz.func256,Tryz.ntmps256
  go_wp2;go_ret;exact⟨ret_bool (by simp[toE]),(Keep.refl w).alloc _⟩
theorem wNum_any (w:World)(v:Value)(es:List Ev)(h:RdE w v es)(k:Nat)(A B:Nat)(p:Int)(P:Nat)(hP:w.cell? ⟨P,0,none⟩=some (.int .i64 p))(hPl:P<w.heap.size)(hA:w.cell? ⟨A,0,none⟩=some v)(hAl:A<w.heap.size)(hB:w.cell? ⟨B,0,none⟩=some (.func (Fn.func 256) #[] #[.pointer (some ⟨P,0,none⟩)]))(hBl:B<w.heap.size):
  Calls Tryz.prog 284 #[.int .i64 k,.pointer (some ⟨A,0,none⟩),.pointer (some ⟨B,0,none⟩)] w fun e w'=>e = .returned (.bool (tstE (toE p) es k))∧Keep w w':=by
 obtain⟨a,c,rfl,h⟩:=h;by_cases hlt:k<es.length
 ·
  rcases h with h|⟨b,o,rfl,hb,hc⟩
  · exfalso;rw[h] at hlt;simp at hlt
  have AT:=hc k _ (evs_get hlt);have HE:Hid (tstE (toE p) es k=(toE p) (es.getD k zE)):=Lib.hid (by unfold tstE;simp[hlt]);clear hc;obtain⟨e,he⟩:∃e,e=es.getD k zE:=⟨_,rfl⟩;rw[←he] at AT HE;clear he;obtain⟨x0,x1,x2,x3,x4,x5⟩:=e;obtain⟨d0,d1,d2,d3,d4,d5⟩:=atE AT;clear AT;have i1:(0:Int)≤(k:Int):=Int.natCast_nonneg _;have i2:(k:Int)<(es.length:Int):=by omega
  have z1:b<w.drew.heap.size:=hb;have z2:A<w.drew.heap.size:=hAl;have z3:B<w.drew.heap.size:=hBl;have z4:P<w.drew.heap.size:=hPl;go_enter Tryz.func284,Tryz.ntmps284
  go_wp2_with fail
  go_region_held3 (fun w'=>w'.cell? ⟨A,0,none⟩=some (.slice (some ⟨b,o,none⟩) es.length (es.length+c))∧w'.cell? ⟨B,0,none⟩=some (.func (Fn.func 256) #[] #[.pointer (some ⟨P,0,none⟩)])∧w'.cell? ⟨P,0,none⟩=some (.int .i64 p)∧w'.cell? ⟨b,o+k*6,none⟩=some (.int .i64 x0)∧w'.cell? ⟨b,o+k*6+1,none⟩=some (.int .i64 x1)∧w'.cell? ⟨b,o+k*6+2,none⟩=some (.bool x2)∧w'.cell? ⟨b,o+k*6+3,none⟩=some (.int .i64 x3)∧w'.cell? ⟨b,o+k*6+4,none⟩=some (.int .i64 x4)∧w'.cell? ⟨b,o+k*6+5,none⟩=some (.int .i64 x5))
   (first|go_keep|(go_split_ands;refine⟨?_,?_,?_,?_,?_,?_,?_,?_,?_⟩<;>(rw[kk.cell (by assumption)];assumption)))
   ((go_at_call 256;refine (wClo_any x0 x1 x2 x3 x4 x5 p P _ (by assumption) (by assumption)).mono ?_;rintro e wz ⟨rfl,kk⟩))
  all_goals
   go_wp2;go_ret;exact⟨by rw[HE.out];rfl,((Keep.refl w).drew).trans kk⟩
 ·
  have HE:Hid (tstE (toE p) es k=false):=Lib.hid (by unfold tstE;simp[hlt]);have i2:¬((k:Int)<(es.length:Int)):=by omega
  go_enter Tryz.func284,Tryz.ntmps284
  go_wp2_with fail
  go_quiet (fail)
  go_wp2;go_ret;exact⟨by rw[HE.out];rfl,(Keep.refl w).drewN _⟩
theorem wChosen_any (w:World)(v:Value)(es:List Ev)(h:RdE w v es)(hx:es.length≤12)(A B:Nat)(p:Int)(P:Nat)(hP:w.cell? ⟨P,0,none⟩=some (.int .i64 p))(hPl:P<w.heap.size)(hA:w.cell? ⟨A,0,none⟩=some v)(hAl:A<w.heap.size)(hB:w.cell? ⟨B,0,none⟩=some (.func (Fn.func 256) #[] #[.pointer (some ⟨P,0,none⟩)]))(hBl:B<w.heap.size):
  Calls Tryz.prog 283 #[.func (Fn.func 284) #[] #[.pointer (some ⟨A,0,none⟩),.pointer (some ⟨B,0,none⟩)]] w fun e w'=>∃v',e = .returned v'∧Own w' w.heap.size v' (idxK (toE p) es es.length)∧Keep w w':=by
 have hown0:Own (w.alloc (.cells #[] 2)) w.heap.size (.slice (some ⟨w.heap.size,0,none⟩) 0 0) []:=World.ownsRow_lit w #[] 0 (Nat.le_refl _) (by decide) rfl;obtain⟨i0,hi,hz0,hz1,hz2⟩:=info_parts Tryz.infoI;go_enter Tryz.func283,Tryz.ntmps283
 go_wp2;go_loopw [3,6] (fun v i wr=>∃k:Nat,k≤12∧i = .int .i64 k∧Own wr w.heap.size v (chK (toE p) es k)∧Keep w wr) (fun _ i _=>12-(intOf i).toNat)
 case atStart=>exact⟨0,Nat.zero_le _,rfl,hown0,(Keep.refl _).alloc _⟩
 case round=>
  obtain⟨k,hk,rfl,ho,hK⟩:=hrel;clear hown0;by_cases hlt:k<12
  ·
   have hml:=chK_len (toE p) es k;have hsz:=hK.size;have C:=wNum_any wr v es (h.keep hK) k A B p P (by rw[hK.cell hPl];exact hP) (Nat.lt_of_lt_of_le hPl hK.size) (by rw[hK.cell hAl];exact hA) (Nat.lt_of_lt_of_le hAl hK.size) (by rw[hK.cell hBl];exact hB) (Nat.lt_of_lt_of_le hBl hK.size);clear h hA hB;cases hb:tstE (toE p) es k
   ·
    have HM:Hid (chK (toE p) es (k+1)=chK (toE p) es k):=Lib.hid (by rw[chK,hb];rfl);rw[hb] at C;go_wp2_with fail
    refine C.mono ?_;rintro e w1 ⟨rfl,k1⟩;go_wp2;go_roundw;case rel=>exact⟨k+1,by omega,by go_num,by rw[HM.out];exact ho.keep k1,hK.trans k1⟩
    case measure=>simp[intOf];omega
   ·
    have HM:Hid (chK (toE p) es (k+1)=chK (toE p) es k++[(k:Int)]):=Lib.hid (by rw[chK,hb];rfl);rw[hb] at C;go_wp2_with fail
    refine C.mono ?_;rintro e w1 ⟨rfl,k1⟩;have ho1:=ho.keep k1;have hK1:=hK.trans k1;have hsz1:=hK1.size;clear ho hK C;go_wp2_with (at_builtin;refine wpList_append_own _ rfl _ _ 50 rfl w.heap.size 2 i0 (.int .i64 0) 1 8 Tryz.underlying50 hi hz0 hz1 hz2 rfl (by decide) _ _ _ rfl (World.ownsRow.alloc ho1 _) ⟨_,0,none⟩ 1 1 [.int .i64 k] rfl rfl ?c1 ?c2 ?c3 ?c4 ?c5 ?_)
    case c1=>
     intro j u hj
     match j,hj with
     | 0,hj=>simp at hj;subst hj;simp[Addr.add]
    case c2=>intro u hu;simp at hu;subst hu;rfl
    case c3=>unfold maxLen;omega
    case c4=>omega
    case c5=>simp;omega
    intro v' w2 hown' hgrow _;have hK2:Keep w w2:=(hK1.alloc _).grown hgrow ho1.ge;clear hgrow;go_wp2;go_roundw;case rel=>exact⟨k+1,by omega,by go_num,by rw[HM.out];exact own_hit hown',hK2⟩
    case measure=>simp[intOf];omega
  ·
   obtain rfl:k=12:=by omega
   rw[chK_all (toE p) es 12 hx] at ho;go_wp2;go_ret;exact⟨_,rfl,ho,hK⟩
theorem wNumbers_any (w:World)(v:Value)(es:List Ev)(h:RdE w v es)(hx:es.length≤1048576)(p:Int)(P:Nat)(hP:w.cell? ⟨P,0,none⟩=some (.int .i64 p))(hPl:P<w.heap.size):
  Calls Tryz.prog 254 #[v,(.func (Fn.func 256) #[] #[.pointer (some ⟨P,0,none⟩)])] w fun e w'=>∃v',e = .returned v'∧Own w' w.heap.size v' (idxB (toE p) es)∧Keep w w':=by
 by_cases hl:12<es.length
 ·
  have HE:Hid (idxB (toE p) es=[]):=Lib.hid (by unfold idxB;rw[if_neg (by omega)]);have l1:(12:Int)<(es.length:Int):=by omega
  have O:∀o1 o2:Obj,Own (((w.alloc o1).alloc o2).alloc (.cells #[] 2)) w.heap.size (.slice (some ⟨w.heap.size+1+1,0,none⟩) 0 0) []:=fun o1 o2=>by
   have q:Own (((w.alloc o1).alloc o2).alloc (.cells #[] 2)) ((w.alloc o1).alloc o2).heap.size (.slice (some ⟨((w.alloc o1).alloc o2).heap.size,0,none⟩) 0 0) []:=World.ownsRow_lit _ #[] 0 (Nat.le_refl _) (by decide) rfl;have z:((w.alloc o1).alloc o2).heap.size=w.heap.size+1+1:=by rw[heap_size,heap_size]
   rw[z] at q;exact q.base_le (by omega)
  obtain⟨a,c,rfl,h⟩:=h;go_enter Tryz.func254,Tryz.ntmps254
  go_wp2;go_ret;refine⟨_,rfl,?_,(((Keep.refl w).alloc _).alloc _).alloc _⟩;rw[HE.out];exact O _ _
 ·
  have l1:es.length≤12:=by omega
  have HE:Hid (idxB (toE p) es=idxK (toE p) es es.length):=Lib.hid (by unfold idxB;rw[if_pos l1]);clear hl;have C:=fun (o1 o2:Obj)=>wChosen_any ((w.alloc o1).alloc o2) v es (h.keep (((Keep.refl w).alloc _).alloc _)) l1 w.heap.size (w.heap.size+1) p P (by rw[Keep.cell (((Keep.refl w).alloc _).alloc _) hPl];exact hP) (Nat.lt_of_lt_of_le hPl (Keep.size (((Keep.refl w).alloc _).alloc _)))
  obtain⟨a,c,rfl,h⟩:=h;have l2:(es.length:Int)≤12:=by omega
  go_enter Tryz.func254,Tryz.ntmps254
  go_wp2_with fail
  refine (C _ _ ?g1 ?g2 ?g3 ?g4).mono ?_;case g1=>simp
  case g2=>simp only[heap_size];omega
  case g3=>simp
  case g4=>simp only[heap_size];omega
  rintro e w1 ⟨v1,rfl,ho,hK⟩;go_wp2;go_ret;refine⟨_,rfl,?_,(((Keep.refl w).alloc _).alloc _).trans hK⟩;rw[HE.out];exact ho.base_le (by simp only[heap_size];omega)
theorem implWritesTo_any (w:World)(v:Value)(es:List Ev)(h:RdE w v es)(hx:es.length≤1048576)(p:Int):
  Calls Tryz.prog 206 #[v,.int .i64 p] w fun e w'=>∃v',e = .returned v'∧Own w' w.heap.size v' (idxB (toE p) es)∧Keep w w':=by
 have C:=fun (o1:Obj)=>wNumbers_any (w.alloc o1) v es (h.keep ((Keep.refl w).alloc _)) hx p w.heap.size
 go_enter Tryz.func206,Tryz.ntmps206
 go_wp2_with fail
 refine (C _ ?g1 ?g2).mono ?_;case g1=>simp
 case g2=>simp only[heap_size];omega
 rintro e w1 ⟨v1,rfl,ho,hK⟩;go_wp2;go_ret;exact⟨_,rfl,ho.base_le (by simp only[heap_size];omega),((Keep.refl w).alloc _).trans hK⟩
theorem cell_list {w:World}{b:Nat}{v:Value}(h:w.cell? ⟨b,0,none⟩=some v):∀j u,([v]:List Value)[j]? = some u→w.cell? ((⟨b,0,none⟩:Addr).add j)=some u:=by
 intro j u hj
 match j,hj with
 | 0,hj=>
  simp at hj;subst hj;exact h
 |k+1,hj=>simp at hj
def Ge (s:Nat)(vs:List Value):Prop:=∀(i:Nat) u,vs[i]? = some u→∀k,u.ownBlock=some k→s≤k
theorem Ge.push {s:Nat}{vs:List Value}{u:Value}(h:Ge s vs)(hu:∀k,u.ownBlock=some k→s≤k):Ge s (vs++[u]):=by
 intro i y hy;by_cases hi:i<vs.length
 ·
  rw[List.getElem?_append_left hi] at hy;exact h i y hy
 ·
  rw[List.getElem?_append_right (by omega)] at hy
  have:i-vs.length=0:=by
   have:=(List.getElem?_eq_some_iff.1 hy).1;simp at this;omega
  rw[this] at hy;simp only[List.getElem?_cons_zero,Option.some.injEq] at hy;subst hy;exact hu
theorem choicesOf_any (w:World)(v:Value)(es:List Ev)(h:RdE w v es)(hx:es.length≤12):
  Calls Tryz.prog 140 #[v] w fun e w'=>∃v',e = .returned v'∧RdP w.heap.size w'.heap.size w' v' (chcL es).length (chcL es)∧Keep w w':=by
 obtain⟨i0,hi,hz0,hz1,hz2⟩:=info_parts Tryz.infoL;have A0:=appL_empty w
 have rl:(idxB rdE es).length≤12:=by
  unfold idxB;rw[if_pos hx];have:=idxK_len rdE es es.length;omega
 have rin:∀i,i<(idxB rdE es).length→0≤(idxB rdE es).getD i 0∧(idxB rdE es).getD i 0<(es.length:Int):=by
  intro i hi
  have hm:(idxB rdE es).getD i 0∈idxB rdE es:=by
   rw[List.getD_eq_getElem?_getD,List.getElem?_eq_getElem hi];exact List.getElem_mem hi
  refine idxK_lt rdE es _ _ ?_;unfold idxB at hm ⊢;rw[if_pos hx] at hm ⊢;exact hm
 have HL:Hid (chcL es=chcK es (idxB rdE es) (idxB rdE es).length):=Lib.hid rfl;go_enter Tryz.func140,Tryz.ntmps140
 go_wp2_with fail
 refine (implReadsOf_any _ _ _ (h.keep ((Keep.refl w).alloc _)) (by omega)).mono ?_;rintro e w1 ⟨vr,rfl,or1,k1⟩;generalize idxB rdE es=rs at rl rin HL or1;have A1:=A0.keep k1;have K1:Keep w w1:=((Keep.refl w).alloc _).trans k1;have R1:Beside w1 (.slice (some ⟨w.heap.size,0,none⟩) 0 0) vr rs:=or1.beside (fun k hk=>by rw[heap_size];simp[Value.ownBlock] at hk;omega);have RIN:=Lib.hid rin;obtain⟨ar,cr,rfl,-⟩:=R1.rd;clear A0 k1 or1 rin;go_wp2;go_loopw [3,10] (fun x i wr=>∃k:Nat,∃vs:List Value,k≤rs.length∧i = .int .i64 k∧Ge w.heap.size vs∧AppL wr w.heap.size x vs (chcK es rs k)∧Beside wr x (.slice ar rs.length cr) rs∧Keep w wr) (fun _ i _=>rs.length-(intOf i).toNat)
 case atStart=>exact⟨0,[],Nat.zero_le _,rfl,fun i u h=>by simp at h,A1,R1,K1⟩
 case round=>
  obtain⟨k,vs,hk,rfl,hG,hA,hB,hK⟩:=hrel;clear A1 R1 K1;by_cases hlt:k<rs.length
  ·
   have hr:=RIN.out k hlt;obtain⟨r,hr'⟩:=Int.eq_ofNat_of_zero_le hr.1;have hre:r<es.length:=by omega
   have hRd:=hB.rd;obtain⟨a',c',he',hRd⟩:=hRd;simp only[Value.slice.injEq,true_and] at he';obtain⟨rfl,rfl⟩:=he';rcases hRd with h0|⟨br,or',rfl,hbr,hcr⟩
   · exfalso;rw[h0] at hlt;simp at hlt
   have d1:=hcr k hlt;rw[hr'] at d1;have HC:Hid (chcK es rs (k+1)=chcK es rs k++[idxB (toE (plE es (r:Int))) es]):=Lib.hid (by rw[chcK,hr']);have HP:Hid (plE es (r:Int)=(es.getD r zE).2.2.2.1):=Lib.hid (by unfold plE;rw[Int.toNat_natCast]);clear hr hr' hcr;have hE:=h.keep hK;obtain⟨ae,ce,rfl,h2⟩:=id hE;rcases h2 with h0|⟨be,oe,rfl,hbe,hce⟩
   · exfalso;rw[h0] at hre;simp at hre
   have AT:=hce r _ (evs_get hre);clear hce;generalize es.getD r zE=e at AT HP;obtain⟨x0,x1,x2,x3,x4,x5⟩:=e;obtain⟨-,-,-,q3,-,-⟩:=atE AT;clear AT;simp only at HP;rw[HP.out] at HC;clear HP;have i1:(0:Int)≤(k:Int):=Int.natCast_nonneg _;have i2:(k:Int)<(rs.length:Int):=by omega
   have j1:(0:Int)≤(r:Int):=Int.natCast_nonneg _;have j2:(r:Int)<(es.length:Int):=by omega
   have hcl:=chcK_len es rs k;go_wp2_with fail
   refine (implWritesTo_any _ _ _ hE (by omega) _).mono ?_;rintro e w2 ⟨v2,rfl,o2,k2⟩;obtain⟨D,hD⟩:∃D,D=chcK es rs k:=⟨_,rfl⟩;rw[←hD] at hA HC hcl;clear hD;generalize idxB (toE x3) es=zs at o2 HC;have hA2:=(hA.keep k2).keep ((Keep.refl w2).alloc (.cells #[v2] 50));have hB2:=(hB.keep k2).keep ((Keep.refl w2).alloc (.cells #[v2] 50));have hU:Beside (w2.alloc (.cells #[v2] 50)) _ v2 zs:=(o2.beside (x:=u3) (fun k hk=>(hA.lt k hk).2)).keep ((Keep.refl w2).alloc _);have hK2:=hK.trans k2;have hsz:=hK2.size;have hG2:=hG.push (fun k hk=>Nat.le_trans hK.size (o2.ge k hk));obtain⟨a2,c2,hv2,-⟩:=o2.rd;clear hA hB o2;generalize zs.length=nz at hv2;subst hv2;go_wp2_with (at_builtin;refine wpList_append_own_at _ rfl _ _ 26 rfl w.heap.size 50 i0 (.slice none 0 0) 1 24 Tryz.underlying26 hi hz0 hz1 hz2 rfl (by decide) _ _ _ rfl hA2.row ⟨_,0,none⟩ 1 1 [.slice a2 nz c2] rfl rfl ?c1 ?c2 ?c3 ?c4 ?c5 ?_)
   case c1=>exact cell_list (Boxed.new _ _ _).cell
   case c2=>intro u hu;simp at hu;subst hu;rfl
   case c3=>unfold maxLen;omega
   case c4=>omega
   case c5=>first|omega|(simp;omega)
   intro v' w3 hown' hgrow _ hblk;have hblk':v'.ownBlock=u3.ownBlock∨v'.ownBlock=some (w2.alloc (.cells #[.slice a2 nz c2] 50)).heap.size:=by rw[heap_size];exact hblk
   have hA3:=hA2.push hU (by rw[hcl];exact hown') hgrow hblk';have hB3:=hB2.grow hgrow hblk';have hK3:Keep w w3:=(hK2.alloc _).grown hgrow (fun k hk=>(hA2.lt k hk).1);clear hown' hgrow hblk hblk' hA2 hB2 hU;go_wp2;go_roundw;case rel=>exact⟨k+1,_,by omega,by go_num,hG2,by rw[HC.out];exact hA3,hB3,hK3⟩
   case measure=>simp[intOf];omega
  ·
   obtain rfl:k=rs.length:=by omega
   have HR:=Lib.hid (hA.rdp hG);go_wp2;go_ret;exact⟨_,rfl,by rw[HL.out];exact HR.out,hK⟩
theorem inSize_any (x:Int)(w:World):
  Calls Tryz.prog 280 #[.int .i64 x] w fun e w'=>e = .returned (.bool (inB x 0 11))∧w'=w:=by
 go_enter Tryz.func280,Tryz.ntmps280
 go_wp2
 all_goals
  go_ret;exact⟨ret_bool (by rw[Bool.eq_iff_iff];unfold inB;simp;omega),rfl⟩
theorem isOf_any (n s:Int)(w:World):
  Calls Tryz.prog 282 #[.int .i64 s,.int .i64 n] w fun e w'=>e = .returned (.bool (okB n s))∧w'=w:=by
 go_enter Tryz.func282,Tryz.ntmps282
 go_wp2
 ·
  go_ret;exact⟨ret_bool (by rw[wrap64_pow n (by assumption) (by assumption),Bool.eq_iff_iff];unfold okB;simp;omega),rfl⟩
 all_goals
  go_ret;exact⟨ret_bool (by rw[Bool.eq_iff_iff];unfold okB;simp;omega),rfl⟩
theorem has_any (s i:Int)(w:World):
  Calls Tryz.prog 250 #[.int .i64 s,.int .i64 i] w fun e w'=>e = .returned (.bool (inSetB s i))∧w'=w:=by
 have key:okB 12 s=inB s 0 4095:=by rw[Bool.eq_iff_iff];unfold okB inB;simp;omega
 cases hs:inB s 0 4095
 ·
  have hk:okB 12 s=false:=key.trans hs;clear key;go_enter Tryz.func250,Tryz.ntmps250
  go_wp2_with (go_at_call 282;refine (isOf_any _ _ _).mono ?_;rintro e w' ⟨rfl,rfl⟩)
  go_ret;exact⟨ret_bool (by simp[inSetB,hs]),rfl⟩
 ·
  have hk:okB 12 s=true:=key.trans hs;clear key;cases hi:inB i 0 11
  ·
   go_enter Tryz.func250,Tryz.ntmps250
   go_wp2_with (first|(go_at_call 282;refine (isOf_any _ _ _).mono ?_;rintro e w' ⟨rfl,rfl⟩)|(go_at_call 280;refine (inSize_any _ _).mono ?_;rintro e w' ⟨rfl,rfl⟩))
   go_ret;exact⟨ret_bool (by simp[inSetB,hi]),rfl⟩
  ·
   have hi':=hi;simp only[inB,decide_eq_true_eq] at hi';obtain⟨i1,i2⟩:=hi';go_enter Tryz.func250,Tryz.ntmps250
   go_wp2_with (first|(go_at_call 282;refine (isOf_any _ _ _).mono ?_;rintro e w' ⟨rfl,rfl⟩)|(go_at_call 280;refine (inSize_any _ _).mono ?_;rintro e w' ⟨rfl,rfl⟩))
   go_ret;exact⟨ret_bool (by simp[inSetB,hs,hi,bitB]),rfl⟩
theorem with_any (s i:Int)(w:World):
  Calls Tryz.prog 248 #[.int .i64 s,.int .i64 i] w fun e w'=>e = .returned (.int .i64 (gAdd s i))∧w'=w:=by
 by_cases hs:s=-1
 ·
  subst hs;go_enter Tryz.func248,Tryz.ntmps248
  go_wp2;go_ret;exact⟨ret_int (gAdd_none i).symm,rfl⟩
 ·
  have hsb:(s == -1)=false:=by simp[hs]
  have HS:Hid (¬s=-1):=hs;clear hs;cases hi:inB i 0 11
  ·
   go_enter Tryz.func248,Tryz.ntmps248
   go_wp2_with (go_at_call 280;refine (inSize_any _ _).mono ?_;rintro e w' ⟨rfl,rfl⟩)
   go_ret;exact⟨ret_int (gAdd_bad s i hi).symm,rfl⟩
  ·
   have hi':=hi;simp only[inB,decide_eq_true_eq] at hi';obtain⟨i1,i2⟩:=hi';go_enter Tryz.func248,Tryz.ntmps248
   go_wp2_with (go_at_call 280;refine (inSize_any _ _).mono ?_;rintro e w' ⟨rfl,rfl⟩)
   go_ret;exact⟨ret_int (by simp[gAdd,HS.out,hi]),rfl⟩
abbrev rdV (p:Int):Value:= .iface 224 (.agg #[.int .i64 p])
abbrev wrV (p v:Int):Value:= .iface 222 (.agg #[.int .i64 p,.int .i64 v])
abbrev evA (x0 x1:Int)(r:Bool)(x3 x4 x5:Int):Value:= .agg #[.int .i64 x0,.int .i64 x1,.bool r,.int .i64 x3,.int .i64 x4,.int .i64 x5]
theorem at_rd (p : Int) (w : World) : (method 406 224 (.agg #[.int .i64 p]) "loop.example/g00411/impl.at").run Tryz.prog w = .ok (326, .agg #[.int .i64 p]) w := by kernel_rfl
theorem at_wr (p v : Int) (w : World) : (method 406 222 (.agg #[.int .i64 p, .int .i64 v]) "loop.example/g00411/impl.at").run Tryz.prog w = .ok (325, .agg #[.int .i64 p, .int .i64 v]) w := by kernel_rfl
theorem atRd_any (p:Int)(w:World):Calls Tryz.prog 326 #[.agg #[.int .i64 p]] w fun e w'=>e = .returned (.int .i64 p)∧Keep w w':=by
 go_enter Tryz.func326,Tryz.ntmps326
 go_wp2;go_ret;exact⟨rfl,(Keep.refl w).alloc _⟩
theorem atWr_any (p v:Int)(w:World):Calls Tryz.prog 325 #[.agg #[.int .i64 p,.int .i64 v]] w fun e w'=>e = .returned (.int .i64 p)∧Keep w w':=by
 go_enter Tryz.func325,Tryz.ntmps325
 go_wp2;go_ret;exact⟨rfl,(Keep.refl w).alloc _⟩
theorem as_rd (p:Int)(w:World):(Instr.typeAssert (rdV p) 173 224 true).run Tryz.prog w = .ok (.tuple #[.agg #[.int .i64 p],.bool true]) w:=by kernel_rfl
theorem as_wr (p v:Int)(w:World):(Instr.typeAssert (wrV p v) 173 224 true).run Tryz.prog w = .ok (.tuple #[.agg #[.int .i64 0],.bool false]) w:=by kernel_rfl
theorem as_wr2 (p v:Int)(w:World):(Instr.typeAssert (wrV p v) 173 222 true).run Tryz.prog w = .ok (.tuple #[.agg #[.int .i64 p,.int .i64 v],.bool true]) w:=by kernel_rfl
abbrev put6W (w:World)(B:Nat)(a0 a1 a2 a3 a4 a5:Value):World:=
 (((((w.setCell ⟨B,0,none⟩ a0).setCell ⟨B,1,none⟩ a1).setCell ⟨B,2,none⟩ a2).setCell ⟨B,3,none⟩ a3).setCell ⟨B,4,none⟩ a4).setCell ⟨B,5,none⟩ a5
theorem set6 {w:World}{B:Nat}{T:TypeId}{b0 b1 b2 b3 b4 b5:Value}(h:w.heap[B]? = some (.cells #[b0,b1,b2,b3,b4,b5] T))(a0 a1 a2 a3 a4 a5:Value):
  (put6W w B a0 a1 a2 a3 a4 a5).heap[B]? = some (.cells #[a0,a1,a2,a3,a4,a5] T):=by
 have h0:=heap_setCell_same w B 0 _ _ a0 h;have h1:=heap_setCell_same _ B 1 _ _ a1 h0;have h2:=heap_setCell_same _ B 2 _ _ a2 h1;have h3:=heap_setCell_same _ B 3 _ _ a3 h2;have h4:=heap_setCell_same _ B 4 _ _ a4 h3;exact heap_setCell_same _ B 5 _ _ a5 h4
theorem keep1 {w wr:World}(h:Keep w wr){g:Nat}(hg:w.heap.size≤g)(i:Nat)(x:Value):Keep w (wr.setCell ⟨g,i,none⟩ x):=
 h.grown (row:=some g) ⟨rfl,rfl,rfl,by simp,fun k _ hk=>heap_setCell_other wr ⟨g,i,none⟩ k x (fun e=>hk (by simp[e]))⟩ (fun k hk=>by simp at hk;omega)
theorem keep6 {w wr:World}(h:Keep w wr)(a0 a1 a2 a3 a4 a5:Value):Keep w (put6W wr w.heap.size a0 a1 a2 a3 a4 a5):=
 keep1 (keep1 (keep1 (keep1 (keep1 (keep1 h (Nat.le_refl _) 0 a0) (Nat.le_refl _) 1 a1) (Nat.le_refl _) 2 a2) (Nat.le_refl _) 3 a3) (Nat.le_refl _) 4 a4) (Nat.le_refl _) 5 a5
theorem size6 (w:World)(B:Nat)(a0 a1 a2 a3 a4 a5:Value):(put6W w B a0 a1 a2 a3 a4 a5).heap.size=w.heap.size:=by simp
theorem eventOf_rd (p:Int)(w:World):
  Calls Tryz.prog 162 #[rdV p] w fun e w'=>e = .returned (evA 0 0 true p 0 0)∧Keep w w':=by
 have hm:=at_rd p;have ha:=as_rd p;go_enter Tryz.func162,Tryz.ntmps162
 go_wp2_with fail
 refine (atRd_any _ _).mono ?_;rintro e w1 ⟨rfl,k1⟩;have hb:=box_size k1;have hh:=box_heap k1;have b0:=box_cell k1 0;have b1:=box_cell k1 1;have b2:=box_cell k1 2;have b3:=box_cell k1 3;have b4:=box_cell k1 4;have b5:=box_cell k1 5;have hfr:=fun j=>frozen_of_row w1 w.heap.size j _ _ (box_heap k1)
 have S:=set6 hh (.int .i64 0) (.int .i64 0) (.bool true) (.int .i64 p) (.int .i64 0) (.int .i64 0);have K:=keep6 (((Keep.refl w).alloc _).trans k1) (.int .i64 0) (.int .i64 0) (.bool true) (.int .i64 p) (.int .i64 0) (.int .i64 0);have Z:=size6 w1 w.heap.size (.int .i64 0) (.int .i64 0) (.bool true) (.int .i64 p) (.int .i64 0) (.int .i64 0);go_wp2;refine bodyPost_ret (results_row (by rfl) _ _ w.heap.size _ _ _ _ rfl (by rw[heap_at,if_neg (by rw[heap_size,Z];omega),heap_at,if_neg (by rw[Z];omega)];exact S) Tryz.underlying85 rfl (by kernel_rfl)) rfl ?_;exact⟨rfl,(K.alloc _).alloc _⟩
theorem eventOf_wr (p v:Int)(w:World):
  Calls Tryz.prog 162 #[wrV p v] w fun e w'=>e = .returned (evA 0 0 false p v 0)∧Keep w w':=by
 have hm:=at_wr p v;have ha:=as_wr p v;have hc:=as_wr2 p v;go_enter Tryz.func162,Tryz.ntmps162
 go_wp2_with fail
 refine (atWr_any _ _ _).mono ?_;rintro e w1 ⟨rfl,k1⟩;have hb:=box_size k1;have hh:=box_heap k1;have b0:=box_cell k1 0;have b1:=box_cell k1 1;have b2:=box_cell k1 2;have b3:=box_cell k1 3;have b4:=box_cell k1 4;have b5:=box_cell k1 5;have hfr:=fun j=>frozen_of_row w1 w.heap.size j _ _ (box_heap k1)
 have S:=set6 hh (.int .i64 0) (.int .i64 0) (.bool false) (.int .i64 p) (.int .i64 v) (.int .i64 0);have K:=keep6 (((Keep.refl w).alloc _).trans k1) (.int .i64 0) (.int .i64 0) (.bool false) (.int .i64 p) (.int .i64 v) (.int .i64 0);have Z:=size6 w1 w.heap.size (.int .i64 0) (.int .i64 0) (.bool false) (.int .i64 p) (.int .i64 v) (.int .i64 0);go_wp2;refine bodyPost_ret (results_row (by rfl) _ _ w.heap.size _ _ _ _ rfl (by rw[heap_at,if_neg (by rw[heap_size,Z];omega),heap_at,if_neg (by rw[Z];omega)];exact S) Tryz.underlying85 rfl (by kernel_rfl)) rfl ?_;exact⟨rfl,(K.alloc _).alloc _⟩
theorem beginnings_any (w:World):
  Calls Tryz.prog 158 #[] w fun e w'=>∃v',e = .returned v'∧AppE w' w.heap.size v' evBeg∧Keep w w':=by
 obtain⟨j0,hj,hy0,hy1,hy2⟩:=info_parts Tryz.infoE;have A0:AppE (w.alloc (.cells #[] 85)) w.heap.size (.slice (some ⟨w.heap.size,0,none⟩) 0 0) []:=appT_empty w;go_enter Tryz.func158,Tryz.ntmps158
 go_wp2;go_loopw [1,5] (fun v i wr=>∃k:Nat,∃m:Int,∃es:List Ev,k≤3∧i = .int .i64 m∧m=(k:Int)∧Hid (es=evBeg.take k)∧es.length≤k∧LP w wr v es []) (fun _ i _=>3-(intOf i).toNat)
 case atStart=>exact⟨0,0,[],Nat.zero_le _,rfl,rfl,Lib.hid rfl,Nat.le_refl _,A0,(Keep.refl _).alloc _,by simp⟩
 case round=>
  obtain⟨k,m,es,hk,rfl,hm,hE,hel,hL⟩:=hrel;clear A0;by_cases hlt:k<3
  ·
   subst hm
   have HM:Hid (es++[((-1:Int),(-1:Int),false,(k:Int),0,(k:Int))]=evBeg.take (k+1)):=Lib.hid (by
    rw[hE.out];have:k=0∨k=1∨k=2:=by omega
    rcases this with rfl|rfl|rfl<;>rfl)
   clear hE;go_wp2_with fail
   refine (eventOf_wr _ _ _).mono ?_;rintro e w2 ⟨rfl,k2⟩;have L2:=hL.more k2;have hsz:=L2.keep.size;have L3:=(L2.more ((Keep.refl w2).alloc (eO (-1) (-1) false k 0 k))).more ((Keep.refl _).alloc (eO (-1) (-1) false k 0 k));go_wp2_with (at_builtin;refine wpList_append_own_at _ rfl _ _ 82 rfl w.heap.size 85 j0 (.agg #[.int .i64 0,.int .i64 0,.bool false,.int .i64 0,.int .i64 0,.int .i64 0]) 6 48 Tryz.underlying82 hj hy0 hy1 hy2 rfl (by decide) _ _ _ rfl L3.app ⟨_,0,none⟩ 1 1 (cE ((-1:Int),(-1:Int),false,(k:Int),0,(k:Int))) rfl rfl ?c1 ?c2 ?c3 ?c4 ?c5 ?_)
   case c1=>exact cE_newP _ _ (heap_size _ _) _ _ _ _ _ _
   case c2=>exact cE_oneP _
   case c3=>unfold maxLen;omega
   case c4=>omega
   case c5=>simp;omega
   intro v' w1 hown' hgrow _ hblk;have L4:=L3.hit _ hown' hgrow (by rw[heap_size,heap_size];exact hblk);clear hgrow hown' hblk L3 L2 hL;go_wp2;go_roundw;case rel=>exact⟨k+1,_,_,by omega,rfl,by omega,HM,by simp;omega,L4⟩
   case measure=>simp[intOf];omega
  obtain rfl:m=3:=by omega
  have HB:Hid (es=evBeg):=Lib.hid (by rw[hE.out,show k=3 by omega];rfl);clear hE hm;go_wp2;go_ret;exact⟨_,rfl,by rw[←HB.out];exact hL.app,hL.keep⟩
theorem cell_lone {w:World}{b:Nat}{v:Value}(h:w.cell? ⟨b,0,none⟩=some v):∀j u,([v]:List Value)[j]? = some u→w.cell? ((⟨b,0,none⟩:Addr).add j)=some u:=by
 intro j u hj
 match j,hj with
 | 0,hj=>
  simp at hj;subst hj;exact h
 |k+1,hj=>simp at hj
theorem Beside.first {w:World}{x:Value}{b o n c:Nat}{l:List Int}(h:Beside w x (.slice (some ⟨b,o,none⟩) n c) l)(hl:0<l.length):Beside w x (.slice (some ⟨b,o,none⟩) 1 c) (l.take 1):=by
 have hlen:(l.take 1).length=1:=by rw[List.length_take];omega
 have hcap:l.length≤c:=h.cap;refine⟨?_,h.ne,h.lt,by rw[hlen];show 1≤c;omega⟩;obtain⟨a,cap,he,hr⟩:=h.rd;simp only[Value.slice.injEq] at he;obtain⟨rfl,rfl,rfl⟩:=he;refine⟨_,_,by rw[hlen],?_⟩;rcases hr with hr|⟨b',o',he,hb,hc⟩
 · rw[hr] at hl;simp at hl
 ·
  simp only[Option.some.injEq,Addr.mk.injEq,and_true] at he;obtain⟨rfl,rfl⟩:=he;refine .inr ⟨b,o,rfl,hb,fun i hi=>?_⟩;rw[hc i (by omega),List.getD_eq_getElem?_getD,List.getD_eq_getElem?_getD,List.getElem?_take,if_pos (by omega)]
theorem Beside.rest {w:World}{x:Value}{b o n c:Nat}{l:List Int}(h:Beside w x (.slice (some ⟨b,o,none⟩) n c) l)(hl:0<l.length):Beside w x (.slice (some ⟨b,o+1,none⟩) (n-1) (c-1)) (l.drop 1):=by
 have hlen:(l.drop 1).length=l.length-1:=by rw[List.length_drop]
 have hcap:l.length≤c:=h.cap;refine⟨?_,h.ne,h.lt,by rw[hlen];show l.length-1≤c-1;omega⟩;obtain⟨a,cap,he,hr⟩:=h.rd;simp only[Value.slice.injEq] at he;obtain⟨rfl,rfl,rfl⟩:=he;refine⟨_,_,by rw[hlen],?_⟩;rcases hr with hr|⟨b',o',he,hb,hc⟩
 · rw[hr] at hl;simp at hl
 ·
  simp only[Option.some.injEq,Addr.mk.injEq,and_true] at he;obtain⟨rfl,rfl⟩:=he;refine .inr ⟨b,o+1,rfl,hb,fun i hi=>?_⟩;rw[Nat.add_assoc,Nat.add_comm 1 i,hc (i+1) (by omega),List.getD_eq_getElem?_getD,List.getD_eq_getElem?_getD,List.getElem?_drop,Nat.add_comm 1 i]
def seatN (es:List Ev):Nat→List (List Int)
 | 0=>[]
 |p+1=>seatN es p++seatP (plcW es p)
theorem seatN_three (es:List Ev):seatN es 3=seatsL es:=by
 simp only[seatN,seatsL,List.nil_append]
theorem seatK_len (l:List Int)(k:Nat):(seatK l k).length=k:=by simp[seatK]
theorem seatN_len {es:List Ev}(hx:es.length≤12):∀p:Nat,(seatN es p).length≤12*p
 | 0=>by simp[seatN]
 |p+1=>by
  have:=seatN_len hx p;have:=plcW_len hx p;rw[seatN,List.length_append,seatP_len];omega
theorem seatsOf_any (w:World)(v:Value)(es:List Ev)(h:RdE w v es)(hx:es.length≤12):
  Calls Tryz.prog 142 #[v] w fun e w'=>∃v',e = .returned v'∧RdL w' v' (seatsL es)∧Keep w w':=by
 obtain⟨i0,hi,hz0,hz1,hz2⟩:=info_parts Tryz.infoL;have A0:=appL_empty w;have K0:Keep w (w.alloc (.cells #[] 50)):=(Keep.refl w).alloc _;have HS:Hid (seatsL es=seatN es 3):=Lib.hid (seatN_three es).symm;have HL:Hid (∀p,(seatN es p).length≤12*p):=Lib.hid (seatN_len hx);go_enter Tryz.func142,Tryz.ntmps142
 go_wp2;go_loopw [3,8] (fun x i wr=>∃p:Nat,∃vs:List Value,p≤3∧i = .int .i64 p∧AppL wr w.heap.size x vs (seatN es p)∧Keep w wr) (fun _ i _=>3-(intOf i).toNat)
 case atStart=>exact⟨0,[],by omega,rfl,A0,K0⟩
 case round=>
  obtain⟨p,vs,hp,rfl,hA,hK⟩:=hrel;clear A0 K0;by_cases hlt:p<3
  ·
   have hpl:=plcW_len hx p;have HN:Hid (seatN es (p+1)=seatN es p++seatK (plcW es p) (plcW es p).length):=Lib.hid rfl;have hsl:(seatN es p).length≤36:=by have:=HL.out p;omega
   have i2:(p:Int)<3:=by omega
   go_wp2_with fail
   refine (implWritesTo_any _ _ _ (h.keep hK) (by omega) _).mono ?_;rintro e w2 ⟨v2,rfl,o2,k2⟩;have HI:Hid (plcW es p=idxB (toE (p:Int)) es):=Lib.hid rfl;rw[HI.out] at hpl HN;clear HI;generalize idxB (toE (p:Int)) es=l at o2 hpl HN;generalize seatN es p=S at hA HN hsl
   have A1:AppL w2 w.heap.size u3 vs (S++seatK l 0):=by
    have:S++seatK l 0=S:=by simp[seatK]
    rw[this];exact hA.keep k2
   have B1:Beside w2 u3 v2 l:=o2.beside (fun k hk=>(hA.lt k hk).2);have K1:=hK.trans k2;obtain⟨a2,c2,rfl,-⟩:=o2.rd;clear hA hK o2 k2;obtain⟨wo,rfl⟩:∃wo:World,wo=w2:=⟨_,rfl⟩;go_wp2;go_loopw [3,16] (fun x i wr=>∃k:Nat,∃vs:List Value,k≤l.length∧i = .int .i64 k∧AppL wr w.heap.size x vs (S++seatK l k)∧Beside wr x (.slice a2 l.length c2) l∧Keep w wr) (fun _ i _=>l.length-(intOf i).toNat)
   case atStart=>exact⟨0,vs,Nat.zero_le _,rfl,A1,B1,K1⟩
   case round=>
    obtain⟨k,vs,hk,rfl,hA,hB,hK⟩:=hrel;clear A1 B1 K1;by_cases hkl:k<l.length
    ·
     have HC:Hid (S++seatK l (k+1)=S++seatK l k++[seatAt l k]):=Lib.hid (by rw[seatK_more,List.append_assoc]);have hcl:(S++seatK l k).length=S.length+k:=by rw[List.length_append,seatK_len]
     have hcap:l.length≤c2:=hB.cap;have hRd:=hB.rd;obtain⟨a',c',he',hRd⟩:=hRd;simp only[Value.slice.injEq,true_and] at he';obtain⟨rfl,rfl⟩:=he';rcases hRd with h0|⟨br,or',rfl,hbr,-⟩
     · exfalso;rw[h0] at hkl;simp at hkl
     have hF:=hB.first (by omega);have hT:=hB.rest (by omega);have i1:(0:Int)≤(k:Int):=Int.natCast_nonneg _;have i2:(k:Int)<(l.length:Int):=by omega
     have hsz:=hK.size;generalize S++seatK l k=D at hA HC hcl;by_cases hk0:k=0
     ·
      have HZ:Hid (seatAt l k=l.take 1):=Lib.hid (by unfold seatAt;rw[if_pos hk0]);rw[HZ.out] at HC;have hkb:((k:Int)==0)=true:=by simp[hk0]
      have hA2:=hA.keep ((Keep.refl wr).alloc (.cells #[.slice (some ⟨br,or',none⟩) 1 c2] 50));have hB2:=hB.keep ((Keep.refl wr).alloc (.cells #[.slice (some ⟨br,or',none⟩) 1 c2] 50));have hU:=hF.keep ((Keep.refl wr).alloc (.cells #[.slice (some ⟨br,or',none⟩) 1 c2] 50));have c1:(1:Int)≤(c2:Int):=by omega
      clear hF hT hk0 HZ hA hB;go_wp2_with (at_builtin;refine wpList_append_own_at _ rfl _ _ 26 rfl w.heap.size 50 i0 (.slice none 0 0) 1 24 Tryz.underlying26 hi hz0 hz1 hz2 rfl (by decide) _ _ _ rfl hA2.row ⟨_,0,none⟩ 1 1 [.slice (some ⟨br,or',none⟩) 1 c2] rfl rfl ?c1 ?c2 ?c3 ?c4 ?c5 ?_)
      case c1=>exact cell_lone (Boxed.new _ _ _).cell
      case c2=>intro u hu;simp at hu;subst hu;rfl
      case c3=>unfold maxLen;omega
      case c4=>omega
      case c5=>first|omega|(simp;omega)
      intro v' w3 hown' hgrow _ hblk;have hblk':v'.ownBlock=u3.ownBlock∨v'.ownBlock=some (wr.alloc (.cells #[.slice (some ⟨br,or',none⟩) 1 c2] 50)).heap.size:=by rw[heap_size];exact hblk
      have hA3:=hA2.push hU (by rw[hcl];exact hown') hgrow hblk';have hB3:=hB2.grow hgrow hblk';have hK3:Keep w w3:=(hK.alloc _).grown hgrow (fun k hk=>(hA2.lt k hk).1);clear hown' hgrow hblk hblk' hA2 hB2 hU hK;go_wp2;go_roundw;case rel=>exact⟨k+1,_,by omega,by go_num,by rw[HC.out];exact hA3,hB3,hK3⟩
      case measure=>simp[intOf];omega
     ·
      have HZ:Hid (seatAt l k=l.drop 1):=Lib.hid (by unfold seatAt;rw[if_neg hk0]);rw[HZ.out] at HC;have hkb:((k:Int)==0)=false:=by simp;omega
      have hA2:=hA.keep ((Keep.refl wr).alloc (.cells #[.slice (some ⟨br,or'+1,none⟩) (l.length-1) (c2-1)] 50));have hB2:=hB.keep ((Keep.refl wr).alloc (.cells #[.slice (some ⟨br,or'+1,none⟩) (l.length-1) (c2-1)] 50));have hU:=hT.keep ((Keep.refl wr).alloc (.cells #[.slice (some ⟨br,or'+1,none⟩) (l.length-1) (c2-1)] 50));have c1:(1:Int)≤(l.length:Int):=by omega
      have c2':1<c2:=by omega
      have c3:(l.length:Int)≤(c2:Int):=by omega
      clear hF hT hk0 HZ hA hB;go_wp2_with (at_builtin;refine wpList_append_own_at _ rfl _ _ 26 rfl w.heap.size 50 i0 (.slice none 0 0) 1 24 Tryz.underlying26 hi hz0 hz1 hz2 rfl (by decide) _ _ _ rfl hA2.row ⟨_,0,none⟩ 1 1 [.slice (some ⟨br,or'+1,none⟩) (l.length-1) (c2-1)] rfl rfl ?c1 ?c2 ?c3 ?c4 ?c5 ?_)
      case c1=>exact cell_lone (Boxed.new _ _ _).cell
      case c2=>intro u hu;simp at hu;subst hu;rfl
      case c3=>unfold maxLen;omega
      case c4=>omega
      case c5=>first|omega|(simp;omega)
      intro v' w3 hown' hgrow _ hblk;have hblk':v'.ownBlock=u3.ownBlock∨v'.ownBlock=some (wr.alloc (.cells #[.slice (some ⟨br,or'+1,none⟩) (l.length-1) (c2-1)] 50)).heap.size:=by rw[heap_size];exact hblk
      have hA3:=hA2.push hU (by rw[hcl];exact hown') hgrow hblk';have hB3:=hB2.grow hgrow hblk';have hK3:Keep w w3:=(hK.alloc _).grown hgrow (fun k hk=>(hA2.lt k hk).1);clear hown' hgrow hblk hblk' hA2 hB2 hU hK;go_wp2;go_roundw;case rel=>exact⟨k+1,_,by omega,by go_num,by rw[HC.out];exact hA3,hB3,hK3⟩
      case measure=>simp[intOf];omega
    ·
     obtain rfl:k=l.length:=by omega
     have hN:AppL wr w.heap.size u3 vs (seatN es (p+1)):=by rw[HN.out];exact hA
     clear hA hB;go_wp2;go_roundw;case rel=>exact⟨p+1,vs,by omega,by go_num,hN,hK⟩
     case measure=>simp[intOf];omega
  ·
   obtain rfl:p=3:=by omega
   have HR:=Lib.hid hA.rd;go_wp2;go_ret;exact⟨_,rfl,by rw[HS.out];exact HR.out,hK⟩
theorem index_any (w:World)(v:Value)(zs:List Int)(h:Rd w v zs)(hn:zs.length≤1048576)(n:Int):
  Calls Tryz.prog 285 #[v,.int .i64 n] w fun e w'=>∃r:Int,e = .returned (.int .i64 r)∧Hid (decide (0≤r)=isB zs n)∧w'=w:=by
 obtain⟨a,c,rfl,h⟩:=h;go_enter Tryz.func285,Tryz.ntmps285
 go_wp2;go_loop [8] (fun i=>∃k:Nat,k≤zs.length∧i = .int .i64 k∧Hid (∀i,i<k→zs.getD i 0≠n)) (fun i=>zs.length-(intOf i).toNat)
 case atStart=>exact⟨0,Nat.zero_le _,rfl,Lib.hid (fun i hi=>absurd hi (Nat.not_lt_zero _))⟩
 case round=>
  obtain⟨k,hk,rfl,hno⟩:=hrel;by_cases hlt:k<zs.length
  ·
   rcases h with h|⟨b,o,rfl,hb,hc⟩
   · exfalso;rw[h] at hlt;simp at hlt
   have d1:=hc k hlt;obtain⟨p,hp⟩:∃p,p=zs.getD k 0:=⟨_,rfl⟩;have HP:=Lib.hid hp;rw[←hp] at d1;clear hc hp;have i1:(0:Int)≤(k:Int):=Int.natCast_nonneg _;have i2:(k:Int)<(zs.length:Int):=by omega
   by_cases he:p=n
   ·
    have hb:(n==p)=true:=by simp[he]
    have HE:Hid (isB zs n=true):=Lib.hid (isB_at hlt (by rw[←HP.out];exact he));clear he;go_wp2;go_ret;exact⟨k,rfl,Lib.hid (by rw[HE.out];simp),rfl⟩
   ·
    have hb:(n==p)=false:=by simp;exact fun h=>he h.symm
    have HE:Hid (∀i,i<k+1→zs.getD i 0≠n):=Lib.hid (fun i hi=>by
     by_cases e:i=k
     · subst e;rw[←HP.out];exact he
     · exact hno.out i (by omega))
    clear he;go_wp2;go_round
    case rel=>exact⟨k+1,by omega,by go_num,HE⟩
    case measure=>simp[intOf];omega
  ·
   obtain rfl:k=zs.length:=by omega
   have HE:Hid (isB zs n=false):=Lib.hid (isB_take hno.out);go_wp2;go_ret;exact⟨-1,rfl,Lib.hid (by rw[HE.out];rfl),rfl⟩
theorem contains_any (w:World)(v:Value)(zs:List Int)(h:Rd w v zs)(hn:zs.length≤1048576)(n:Int):
  Calls Tryz.prog 257 #[v,.int .i64 n] w fun e w'=>e = .returned (.bool (isB zs n))∧w'=w:=by
 go_enter Tryz.func257,Tryz.ntmps257
 go_wp2_with fail
 refine (index_any _ _ _ h hn _).mono ?_;rintro e w1 ⟨r,rfl,hr,rfl⟩;go_wp2;go_ret;exact⟨by rw[←hr.out];rfl,rfl⟩
theorem take_snocI (s:List Int)(k:Nat)(h:k<s.length):s.take (k+1)=s.take k++[s.getD k 0]:=by
 rw[List.take_add_one,List.getElem?_eq_getElem h,List.getD_eq_getElem?_getD,List.getElem?_eq_getElem h];rfl
theorem next_take_more {s a:List Int}{last p:Int}{k:Nat}(h:nextL (s.take k) a last=[])(hk:k<s.length)(hp:p=s.getD k 0)(ht:(decide (last<p)&&!isB a p)=false):nextL (s.take (k+1)) a last=[]:=by
 unfold nextL at h ⊢;rw[take_snocI s k hk,List.filter_append,h,←hp];simp[ht]
theorem next_take_hit {s a:List Int}{last p:Int}{k:Nat}(h:nextL (s.take k) a last=[])(hk:k<s.length)(hp:p=s.getD k 0)(ht:(decide (last<p)&&!isB a p)=true):nextB s a last=p:=by
 have e:s=s.take k++(p::s.drop (k+1)):=by
  rw[hp,List.getD_eq_getElem?_getD,List.getElem?_eq_getElem hk];show s=s.take k++s[k]::s.drop (k+1);rw[←List.drop_eq_getElem_cons hk,List.take_append_drop]
 unfold nextB;unfold nextL at h ⊢;rw[e,List.filter_append,h,List.filter_cons,if_pos ht];rfl
theorem nextFor_any (w:World)(v va:Value)(s a:List Int)(last:Int)(h:Rd w v s)(ha:Rd w va a)(hn:s.length≤1048576)(han:a.length≤1048576):
  Calls Tryz.prog 207 #[v,va,.int .i64 last] w fun e w'=>e = .returned (.int .i64 (nextB s a last))∧w'=w:=by
 obtain⟨a1,c1,rfl,-⟩:=id ha;obtain⟨a0,c0,rfl,h⟩:=h;go_enter Tryz.func207,Tryz.ntmps207
 go_wp2;go_loop [11] (fun i=>∃k:Nat,k≤s.length∧i = .int .i64 k∧Hid (nextL (s.take k) a last=[])) (fun i=>s.length-(intOf i).toNat)
 case atStart=>exact⟨0,Nat.zero_le _,rfl,Lib.hid rfl⟩
 case round=>
  obtain⟨k,hk,rfl,hno⟩:=hrel;by_cases hlt:k<s.length
  ·
   rcases h with h|⟨b,o,rfl,hb,hc⟩
   · exfalso;rw[h] at hlt;simp at hlt
   have d1:=hc k hlt;obtain⟨p,hp⟩:∃p,p=s.getD k 0:=⟨_,rfl⟩;have HP:=Lib.hid hp;rw[←hp] at d1;clear hc hp;have i1:(0:Int)≤(k:Int):=Int.natCast_nonneg _;have i2:(k:Int)<(s.length:Int):=by omega
   have C:=contains_any w _ a ha han p;by_cases hgt:last<p
   ·
    cases hi:isB a p
    ·
     have HE:Hid (nextB s a last=p):=Lib.hid (next_take_hit hno.out hlt HP.out (by rw[hi];simp[hgt]));rw[hi] at C;go_wp2_with fail
     refine C.mono ?_;rintro e w5 ⟨rfl,rfl⟩;go_wp2;go_ret;exact⟨by rw[HE.out];rfl,rfl⟩
    ·
     have HE:Hid (nextL (s.take (k+1)) a last=[]):=Lib.hid (next_take_more hno.out hlt HP.out (by rw[hi];simp));rw[hi] at C;go_wp2_with fail
     refine C.mono ?_;rintro e w5 ⟨rfl,rfl⟩;go_wp2;go_round
     case rel=>exact⟨k+1,by omega,by go_num,HE⟩
     case measure=>simp[intOf];omega
   ·
    have HE:Hid (nextL (s.take (k+1)) a last=[]):=Lib.hid (next_take_more hno.out hlt HP.out (by simp[hgt]));have hg2:decide (last<p)=false:=by simp[hgt]
    clear C;go_wp2;go_round
    case rel=>exact⟨k+1,by omega,by go_num,HE⟩
    case measure=>simp[intOf];omega
  ·
   obtain rfl:k=s.length:=by omega
   have HE:Hid (nextB s a last=-1):=Lib.hid (by
    have:=hno.out;rw[List.take_length] at this;unfold nextB;rw[this]
    rfl)
   go_wp2;go_ret;exact⟨by rw[HE.out];rfl,rfl⟩
end Go.Proofs.YtkmjmnljkidobaaGreat
