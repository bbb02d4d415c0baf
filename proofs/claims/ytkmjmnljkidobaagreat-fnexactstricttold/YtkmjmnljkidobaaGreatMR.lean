/- Gathered texts. -/
import Derived.Test.YtkmjmnljkidobaaGreatMQ
import Derived.Deep.RegionLaw
import Derived.RegionTactic
import Derived.Outline
import Derived.BigRegion
import Derived.Deep.RegionHeld3
import Derived.Deep.QuietTactic
import Derived.BigQuiet
import Derived.Lib.Hide
import Derived.Laws.StructEq
import Derived.Handy
import Derived.Stop.Asserts
set_option maxRecDepth 100000
set_option maxHeartbeats 8000000
namespace Go.Proofs.YtkmjmnljkidobaaGreat
open Go.ChangeShapes Go.WideShapes Go.ChangeAt Go.RowKit
open Go.ChangeShapes Go.WideShapes Go.ChangeAt Go.RowKit Go.Shelf
theorem results_box {P:Program}{fn:Func}{p:Tmp}{ty e:TypeId}(h:fn.results=#[.cell p ty])(hu:P.underlying ty=some (.slice e))(tmps:Array Value)(w:World)(g:Nat)(v:Value)(hp:tmps.getD p undef = .pointer (some ⟨g,0,none⟩))(hc:w.cell? ⟨g,0,none⟩=some v):
  (results fn tmps).run P w = .ok v w:=by
 have hp':tmps[p]?.getD undef = .pointer (some ⟨g,0,none⟩):=by simpa using hp
 have hagg:(isAgg ty).run P w = .ok false w:=by
  unfold isAgg;rw[Sem.run_bind,run_underlying hu w];rfl
 simp only[results,h];simp[Sem.run_bind,Result.andThen,asAddr,hp',loadVar,load,hagg];simp[Sem.run,hc]
theorem at_hit {dss:List (List Dd)}{n:Int}{k:Nat}(hk:k<srcN (chcL (eventsB dss)) (chcL (eventsB dss)).length)(e:(k:Int)=n):atB dss n=atP (chcL (eventsB dss)) (chcL (eventsB dss)).length k:=by
 rw[atP_all];cases hb:workB dss
 ·
  have e0:eventsB dss=[]:=by rw[eventsB,hb];rfl
  have e1:chcL (eventsB dss)=[]:=by rw[e0];rfl
  have e2:cntB dss=-1:=by rw[cntB,hb];rfl
  rw[e1];unfold atB;rw[if_neg (by omega)];rfl
 ·
  have e2:cntB dss=(srcN (chcL (eventsB dss)) (chcL (eventsB dss)).length:Nat):=by rw[srcN_int,cntB,if_pos hb]
  unfold atB;rw[if_pos (by omega),e]
theorem at_none {dss:List (List Dd)}{n:Int}(h:∀k:Nat,k<srcN (chcL (eventsB dss)) (chcL (eventsB dss)).length→(k:Int)≠n):atB dss n=[]:=by
 unfold atB;rw[if_neg];rintro⟨h1,h2⟩;cases hb:workB dss
 ·
  have e2:cntB dss=-1:=by rw[cntB,hb];rfl
  omega
 ·
  have e2:cntB dss=(srcN (chcL (eventsB dss)) (chcL (eventsB dss)).length:Nat):=by rw[srcN_int,cntB,if_pos hb]
  obtain⟨k,hk⟩:=Int.eq_ofNat_of_zero_le h1;exact h k (by omega) hk.symm
theorem implSourceAt_own (w:World)(v:Value)(dss:List (List Dd))(n:Int)(h:RdW w v dss)(hx:dss.length≤1048576)(hm:∀i,i<dss.length→(dss.getD i []).length≤1048576):
  Calls Tryz.prog 71 #[v,.int .i64 n] w fun e w'=>∃v',e = .returned v'∧Own w' w.heap.size v' (atB dss n)∧Keep w w':=by
 have h12:(eventsB dss).length≤12:=by have:=eventsB_len9 dss;omega
 obtain⟨cl1,cl2⟩:=chc_len h12;have cl3:=chc_twelve h12;have ct:=(cnt_top cl1 cl2 _ (Nat.le_refl _)).2;rw[←srcN_int] at ct;have HH:=fun (k:Nat) hk e=>Lib.hid (at_hit (dss:=dss) (n:=n) (k:=k) hk e)
 have HN:=fun h=>Lib.hid (at_none (dss:=dss) (n:=n) h)
 have hdw:Fence.wide.depth=none:=rfl;have hsem:=@Oper.semAt_some;have bA:=((Boxed.new w 2 (.int .i64 n)).alloc (.cells #[.slice none 0 0] 50)).alloc (.cells #[.int .i64 0] 2);have bB:=(Boxed.new (w.alloc (.cells #[.int .i64 n] 2)) 50 (.slice none 0 0)).alloc (.cells #[.int .i64 0] 2);have bC:=Boxed.new ((w.alloc (.cells #[.int .i64 n] 2)).alloc (.cells #[.slice none 0 0] 50)) 2 (.int .i64 0);have k1:Keep w (((w.alloc (.cells #[.int .i64 n] 2)).alloc (.cells #[.slice none 0 0] 50)).alloc (.cells #[.int .i64 0] 2)):=(((Keep.refl w).alloc _).alloc _).alloc _;have hz1:(((w.alloc (.cells #[.int .i64 n] 2)).alloc (.cells #[.slice none 0 0] 50)).alloc (.cells #[.int .i64 0] 2)).heap.size=w.heap.size+3:=by simp only[heap_size]
 simp only[heap_size] at bB bC;refine (callsIn_wide (n:=0)).1 (callsIn_of_wp_marks Tryz.func71 rfl trivial ?_ rfl);simp only[Tryz.ntmps71,List.size_toArray,List.length_cons,List.length_nil,Nat.reduceAdd,Nat.reduceSub,Array.replicate_succ,Array.replicate_zero,List.push_toArray,List.append_toArray,List.nil_append,List.cons_append]
 gi_wp2_with fail
 generalize ((w.alloc (.cells #[.int .i64 n] 2)).alloc (.cells #[.slice none 0 0] 50)).alloc (.cells #[.int .i64 0] 2)=w1 at *;refine⟨trivial,(callsIn_wide.2 (implEventsOf_any _ _ _ (h.keep k1) hx hm)).mono ?_⟩;rintro e w2 ⟨v2,rfl,a2,k2⟩
 gi_wp2_with fail
 refine⟨trivial,(callsIn_wide.2 (choicesOf_any _ _ _ a2.rd h12)).mono ?_⟩;rintro e w3 ⟨v3,rfl,rp,k3⟩;have cA:=boxed_keep (boxed_keep bA k2) k3;have cB:=boxed_keep (boxed_keep bB k2) k3;have cC:=boxed_keep (boxed_keep bC k2) k3;have K3:=(k1.trans k2).trans k3;have s2:=k2.size;have s3:=k3.size;generalize chcL (eventsB dss)=css at *;obtain⟨ac,cc,hv3,-,-⟩:=rp.2;subst hv3;clear k1 k2 k3 bA bB bC a2 h hx hm h12
 gi_wp2_with fail
 refine⟨trivial,(callsIn_wide.2 (sources_any _ _ _ _)).mono ?_⟩;rintro e w4 ⟨rfl,rfl⟩;have bc:=(Boxed.new w3 26 (.slice ac css.length cc)).cell;have dA:=cA.alloc (.cells #[.slice ac css.length cc] 26);have dB:=cB.alloc (.cells #[.slice ac css.length cc] 26);have dC:=cC.alloc (.cells #[.slice ac css.length cc] 26);have K4:=K3.alloc (.cells #[.slice ac css.length cc] 26);have rp4:=rp.but (Nat.le_refl _) ((But.refl (fun _=>False) w3).alloc (.cells #[.slice ac css.length cc] 26)) (fun _ _ _ h=>h);have hz4:=heap_size w3 (.cells #[.slice ac css.length cc] 26);generalize w3.alloc (.cells #[.slice ac css.length cc] 26)=w4 at *;have hseq:=sources_seq css w2.heap.size w3.heap.size cl3 css.length cl1 w4 w3.heap.size _ rp4 bc (by omega) (by omega);clear cA cB cC K3 bc rp rp4
 gi_wp2
 refine wp_rangeM (gf:=203) (lb:=#[.pointer (some ⟨w3.heap.size,0,none⟩)]) rfl (enters_of Tryz.func203 (by kernel_rfl) rfl) rfl hseq (But.refl _ _) ?pr (fun b=>b=w.heap.size+1∨b=w.heap.size+2) ?hC
  (fun k A=>Boxed A w.heap.size 2 (.int .i64 n)∧Boxed A (w.heap.size+1) 50 (.slice none 0 0)∧Boxed A (w.heap.size+2) 2 (.int .i64 k)∧Keep w A∧∀j:Nat,j<k→(j:Int)≠n)
  (fun c k A=>c = .ret∧(k:Int)=n∧∃v',Boxed A (w.heap.size+1) 50 v'∧Own A (w4.heap.size+2) v' (atP css css.length k)∧Keep w A) ?hI ?hIx (lieS_but css css.length) ⟨dA,dB,dC,K4,fun j hj=>absurd hj (Nat.not_lt_zero _)⟩
  (fun v'=>{ tmps:=#[v,.int .i64 n,undef,.pointer (some ⟨w.heap.size,0,none⟩),.pointer (some ⟨w.heap.size+1,0,none⟩),.pointer (some ⟨w.heap.size+2,0,none⟩),v',v,v2,.slice ac css.length cc,.func (.func 203) #[] #[.pointer (some ⟨w3.heap.size,0,none⟩)],v',undef,undef,undef,undef,undef,undef,undef],defers:=[] }) ?assign ?body ?done ?stop
 case pr=>rintro b' (⟨_,h⟩|rfl)<;>omega
 case hC=>
  intro b' hb;refine⟨by omega,?_⟩;rintro (⟨h1,h2⟩|h)<;>omega
 case hI=>
  rintro k A B ⟨h1,h2,h3,h4,h5⟩ hB;have nl:∀b,b<w4.heap.size→¬NC w4.heap.size A b:=fun b h1 h2=>by have:=h2.1;omega
  exact⟨boxed_but h1 hB (nl _ (by omega)),boxed_but h2 hB (nl _ (by omega)),boxed_but h3 hB (nl _ (by omega)),keep_but h4 hB (fun b hb=>by have:=hb.1;omega),h5⟩
 case hIx=>
  rintro c k A B ⟨h1,h2,v',h3,h4,h5⟩ hB;exact⟨h1,h2,v',boxed_but h3 hB (fun h=>by have:=h.1;omega),h4.turn hB,keep_but h5 hB (fun b hb=>by have:=hb.1;omega)⟩
 case assign=>
  intro m v' W K hK
  gi_wp2
  exact hK
 case body=>
  rintro m k v' W hk ⟨h1,h2,h3,h4,h5⟩ hv;have hv':Own W (w4.heap.size+2) v' (atP css css.length k):=hv;clear hv;obtain⟨av,cv,rfl,-⟩:=hv'.rd;have c1:=h1.cell;have c2:=h2.cell;have f2:=h2.frozen;have c3:=h3.cell;have f3:=h3.frozen;have i1:(0:Int)≤(k:Int):=Int.natCast_nonneg _;have i2:(k:Int)<8916100448256:=by omega
  by_cases he:(k:Int)=n
  ·
   have hbe:((k:Int)==n)=true:=by simp[he]
   have HK:=Lib.hid he;clear he
   gi_wp2
   have bu:=(But.refl (fun b=>b=w.heap.size+1∨b=w.heap.size+2) W).setCell (.inl rfl) 0 (.slice av (atP css css.length k).length cv);exact⟨bu,rfl,HK.out,_,h2.set _,hv'.but bu (fun b h1 _ h2=>by omega),keep_but h4 bu (fun b hb=>by omega)⟩
  ·
   have hbe:((k:Int)==n)=false:=by simp[he]
   have HK:=Lib.hid he;clear he
   gi_wp2
   have bu:=(But.refl (fun b=>b=w.heap.size+1∨b=w.heap.size+2) W).setCell (.inr rfl) 0 (.int .i64 ((k:Int)+1));refine⟨bu,boxed_but h1 bu (by omega),boxed_but h2 ((But.refl (fun b=>b=w.heap.size+2) W).setCell rfl 0 _) (by omega),by have:=h3.set (.int .i64 ((k:Int)+1));simpa using this,keep_but h4 bu (fun b hb=>by omega),fun j hj=>?_⟩;by_cases e:j=k
   · subst e;exact HK.out
   · exact h5 j (by omega)
 case done=>
  rintro W ⟨h1,h2,h3,h4,h5⟩ hD;have HE:=HN h5;have c2:=(h2.alloc (.cells #[] 2)).cell;have f2:=(h2.alloc (.cells #[] 2)).frozen;have HZ:=Lib.hid hz4;clear hz4 HN HH
  gi_wp2
  have hz:=HZ.out;have hlt:=(Array.getElem?_eq_some_iff.1 hD).1
  have hD':((W.alloc (.cells #[] 2)).setCell ⟨w.heap.size+1,0,none⟩ (.slice (some ⟨W.heap.size,0,none⟩) 0 0)).heap[w4.heap.size]? = some (.deferred (some [])):=
   (Below.heap_setCell _ _ _ _ (by simp;omega)).trans ((Below.heap_alloc _ _ _ hlt).trans hD)
  have bu:=((But.refl (fun b=>b=w.heap.size+1∨b=w4.heap.size) (W.alloc (.cells #[] 2))).setCell (.inl rfl) 0 (.slice (some ⟨W.heap.size,0,none⟩) 0 0)).put (.inr rfl) (.deferred none);refine⟨by simp,.inl ⟨_,_,rfl,run_takeDeferred hD',?_⟩⟩
  exact⟨_,results_box rfl Tryz.underlying50 _ _ (w.heap.size+1) _ rfl (boxed_but ((h2.alloc _).set _) ((But.refl (fun b=>b=w4.heap.size) _).put rfl _) (by omega)).cell,_,rfl,
   by rw[HE.out];exact ((own_emptyI W).but bu (fun b h1 _ h2=>by omega)).base_le h4.size,keep_but (h4.alloc _) bu (fun b hb=>by omega)⟩
 case stop=>
  rintro c k W hk ⟨rfl,h2,v',h3,h4,h5⟩ hD;have HE:=HH k hk h2;have HZ:=Lib.hid hz4;clear hz4 HN HH
  gi_wp2
  have hz:=HZ.out;have bu:=(But.refl (fun b=>b=w4.heap.size) W).put rfl (.deferred none);refine⟨by simp,.inl ⟨_,_,rfl,run_takeDeferred hD,?_⟩⟩
  exact⟨_,results_box rfl Tryz.underlying50 _ _ (w.heap.size+1) _ rfl (boxed_but h3 bu (by omega)).cell,_,rfl,
   by rw[HE.out];exact (h4.but bu (fun b h1 _ h2=>by omega)).base_le (by omega),keep_but h5 bu (fun b hb=>by omega)⟩
theorem Own.shpI {w:World}{base:Nat}{v:Value}{zs:List Int}(h:Own w base v zs):∃a cap,v = .slice a zs.length cap:=by
 obtain⟨a,c,e,_⟩:=h.rd;exact⟨a,c,e⟩
theorem own_nilI (w:World)(base:Nat):Own w base nilV []:=World.ownsRow_nil _ _ _ _
theorem implTaleAt_own (w:World)(v:Value)(dss:List (List Dd))(n:Int)(h:RdW w v dss)(hx:dss.length≤1048576)(hm:∀i,i<dss.length→(dss.getD i []).length≤1048576):
  Calls Tryz.prog 36 #[v,.int .i64 n] w fun e w'=>∃vF vR,e = .returned (.tuple #[.agg #[vF,vR],.bool (taB dss n)])∧Own w' w.heap.size vF (tfB dss n)∧Own w' w.heap.size vR (trB dss n)∧(vF.ownBlock=none∨vF.ownBlock≠vR.ownBlock)∧Keep w w':=by
 have CT:=fun (W:World) (kW:Keep w W)=>implTalesCount_any W v dss (h.keep kW) hx hm
 have hcb:=tcB_in dss;have qs:IntKind.i64.wrap (tcB dss-1)=tcB dss-1:=by rw[IntKind.wrap_i64];omega
 have HI:Hid (inB n 0 (tcB dss-1)=taB dss n):=Lib.hid (by
  unfold inB taB;rw[Bool.eq_iff_iff];simp only[decide_eq_true_eq]
  omega)
 have CI:=fun (W:World)=>isFrom_any 0 n (tcB dss-1) W
 rw[HI.out] at CI;cases ht:taB dss n
 ·
  have HA:=Lib.hid ht;have HF:Hid (tfB dss n=[]):=Lib.hid (by rw[tfB,ht];rfl);have HR:Hid (trB dss n=[]):=Lib.hid (by rw[trB,ht];rfl);rw[ht] at CI;clear ht HI;generalize tcB dss=m at CT CI hcb qs;go_enter Tryz.func36,Tryz.ntmps36
  go_wp2_with fail
  refine (CT _ ((Keep.refl w).alloc _)).mono ?_;rintro e w1 ⟨rfl,k1⟩;have hS:StT w w1 w.heap.size nilV nilV:=(StT.start _ _).keep k1;obtain⟨r0,r1⟩:=hS.cells;have g0:=hS.free 0;have g1:=hS.free 1;go_wp2_with fail
  refine (CI _).mono ?_;rintro e w2 ⟨rfl,rfl⟩;go_wp2;have hZ:=(hS.set0 nilV).set1 nilV;refine bodyPost_ret (results_row_tmp (by rfl) _ _ w.heap.size _ _ (0,0) _ (.bool false) rfl hZ.1 rfl Tryz.underlying52 rfl (by kernel_rfl)) rfl ?_;exact⟨nilV,nilV,rfl,by rw[HF.out];exact own_nilI _ _,by rw[HR.out];exact own_nilI _ _,.inl rfl,hZ.keep1⟩
 ·
  have h01:0≤n∧n<tcB dss:=by have:=ht;unfold taB at this;simpa using this
  have h0':=h01.1;have h1':=h01.2;obtain⟨hb,hpos,-⟩:=tale_at ht;have hrb:=(rcnt_six hb).2;have HA:=Lib.hid ht;have HF:Hid (tfB dss n=atB dss (n / rcntB dss)):=Lib.hid (by rw[tfB,ht];rfl);have HR:Hid (trB dss n=ratB dss (n % rcntB dss)):=Lib.hid (by rw[trB,ht];rfl);have CR:=fun (W:World) (kW:Keep w W)=>implRowsCount_any W v dss (h.keep kW) hx hm
  have CA:=fun (W:World) (kW:Keep w W) (q:Int)=>implSourceAt_own W v dss q (h.keep kW) hx hm
  have CB:=fun (W:World) (kW:Keep w W) (q:Int)=>implRowsAt_own W v dss q (h.keep kW) hx hm
  rw[ht] at CI;clear ht HI h01;generalize tcB dss=m at CT CI h1' hcb qs;generalize rcntB dss=k at CR HF HR hpos hrb;have q1:n.tdiv k=n / k:=by rw[Int.tdiv_eq_ediv];simp[h0']
  have q2:n.tmod k=n % k:=by rw[Int.tmod_eq_emod];simp[h0']
  have ne:k≠0:=by omega
  have qb:=Int.ediv_nonneg h0' (by omega:0≤k);have qc:n / k≤n:=Int.ediv_le_self _ h0';have qd:=Int.emod_nonneg n ne;have qe:=Int.emod_lt_of_pos n hpos;have qw:IntKind.i64.wrap (n / k)=n / k:=by rw[IntKind.wrap_i64];omega
  have qx:IntKind.i64.wrap (n % k)=n % k:=by rw[IntKind.wrap_i64];omega
  clear hb;go_enter Tryz.func36,Tryz.ntmps36
  go_wp2_with fail
  refine (CT _ ((Keep.refl w).alloc _)).mono ?_;rintro e w1 ⟨rfl,k1⟩;have K1:=((Keep.refl w).alloc _).trans k1;go_wp2_with fail
  refine (CI _).mono ?_;rintro e w9 ⟨rfl,rfl⟩;go_wp2_with fail
  refine (CR _ K1).mono ?_;rintro e w2 ⟨rfl,k2⟩;have hS:StT w w2 w.heap.size nilV nilV:=(StT.start _ _).keep (k1.trans k2);have K2:=K1.trans k2;clear k1 k2 K1 CT CR CI;have z2:=hS.size;go_wp2_with fail
  go_region_law ((first
   | (go_simp;refine (CA _ K2.drew (n / k)).mono ?_;rintro e w3 ⟨vF,rfl,oF,k3⟩)
   | (go_simp;refine (CB _ (K2.drew.trans k3) (n % k)).mono ?_;rintro e w4 ⟨vR,rfl,oR,k4⟩;obtain⟨aF,cF,hvF⟩:=oF.shpI;subst hvF;obtain⟨aR,cR,hvR⟩:=oR.shpI;subst hvR;have hS4:StT w w4 w.heap.size nilV nilV:=hS.keep (((Keep.refl w2).drew.trans k3).trans k4);obtain⟨r0,r1⟩:=hS4.cells;have g0:=hS4.free 0;have g1:=hS4.free 1)))
  all_goals
   go_wp2;have hZ:=(hS4.set0 (.slice aF (atB dss (n / k)).length cF)).set1 (.slice aR (ratB dss (n % k)).length cR);refine bodyPost_ret (results_row_tmp (by rfl) _ _ w.heap.size _ _ (0,0) _ (.bool true) rfl hZ.1 rfl Tryz.underlying52 rfl (by kernel_rfl)) rfl ?_;have s3:=k3.size;have oF4:=oF.keep k4;have gg:∀x y:Value,w4.grownBy ((w4.setCell ⟨w.heap.size,0,none⟩ x).setCell ⟨w.heap.size,1,none⟩ y) (some w.heap.size):=fun x y=>grown_trans (grown_setT _ _ _ _) (grown_setT _ _ _ _)
   exact⟨_,_,rfl,by rw[HF.out];exact (oF4.other z2 (gg _ _)).base_le (Nat.le_of_lt z2),by rw[HR.out];exact (oR.other (Nat.lt_of_lt_of_le z2 s3) (gg _ _)).base_le (by have:=Nat.lt_of_lt_of_le z2 s3;omega),oF.apart oR,hZ.keep1⟩
theorem implTaleAt_any (w:World)(v:Value)(dss:List (List Dd))(n:Int)(h:RdW w v dss)(hx:dss.length≤1048576)(hm:∀i,i<dss.length→(dss.getD i []).length≤1048576):
  Calls Tryz.prog 36 #[v,.int .i64 n] w fun e w'=>∃vF vR,e = .returned (.tuple #[.agg #[vF,vR],.bool (taB dss n)])∧Row w' w.heap.size vF (tfB dss n)∧Row w' w.heap.size vR (trB dss n)∧(trB dss n).length≤capZ vR∧(vF.ownBlock=none∨vF.ownBlock≠vR.ownBlock)∧Keep w w':=
 (implTaleAt_own w v dss n h hx hm).mono (fun _ _ ⟨vF,vR,he,oF,oR,ap,k⟩=>⟨vF,vR,he,oF.row,oR.row,oR.capz,ap,k⟩)
theorem isBehind_any (w:World)(x0 x1:Int)(x2:Bool)(x3 x4 x5 y0 y1:Int)(y2:Bool)(y3 y4 y5:Int):
  Calls Tryz.prog 291 #[eA x0 x1 x2 x3 x4 x5,eA y0 y1 y2 y3 y4 y5] w fun e w'=>e = .returned (.bool (isbE (x0,x1,x2,x3,x4,x5) (y0,y1,y2,y3,y4,y5)))∧Keep w w':=by
 by_cases hy:y0=-1
 ·
  subst hy;go_enter Tryz.func291,Tryz.ntmps291
  go_wp2;go_ret;exact⟨rfl,((Keep.refl w).alloc _).alloc _⟩
 ·
  have yb:(y0 == -1)=false:=by simp[hy]
  have yn:(y0 != -1)=true:=by simp[hy]
  by_cases hx:x0=-1
  ·
   have HE:Hid (isbE (x0,x1,x2,x3,x4,x5) (y0,y1,y2,y3,y4,y5)=true):=Lib.hid (by unfold isbE;simp[hx,hy]);subst hx;clear hy;go_enter Tryz.func291,Tryz.ntmps291
   go_wp2;go_ret;exact⟨by rw[HE.out];rfl,((Keep.refl w).alloc _).alloc _⟩
  ·
   have xb:(x0 == -1)=false:=by simp[hx]
   have HE:Hid (isbE (x0,x1,x2,x3,x4,x5) (y0,y1,y2,y3,y4,y5)=(x0==y0)):=Lib.hid (by unfold isbE;simp only;rw[yn,xb];rfl);clear hx hy;go_enter Tryz.func291,Tryz.ntmps291
   go_wp2;go_ret;exact⟨by rw[HE.out];rfl,((Keep.refl w).alloc _).alloc _⟩
theorem cell_blk {w w':World}{b:Nat}(h:w'.heap[b]? = w.heap[b]?)(o:Nat):w'.cell? ⟨b,o,none⟩=w.cell? ⟨b,o,none⟩:=by simp only[World.cell?,h]
theorem grown_row {w w':World}(h:w.grownBy w' none)(row:Option Nat):w.grownBy w' row:=⟨h.os,h.tape,h.output,h.size,fun k hk _=>h.block k hk (by simp)⟩
abbrev tQ (T:Ev→Ev→Bool)(es:List Ev)(i j:Nat):Bool:=isbE (es.getD i zE) (es.getD j zE)&&T (es.getD i zE) (es.getD j zE)
theorem linesOf_any (w:World)(v t:Value)(dss:List (List Dd))(T:Ev→Ev→Bool)(h:RdW w v dss)(hx:dss.length≤1048576)(hm:∀i,i<dss.length→(dss.getD i []).length≤1048576)
  (HP:∀i j:Nat,i<j→j<(eventsB dss).length→∀(x0 x1:Int) (x2:Bool) (x3 x4 x5 y0 y1:Int) (y2:Bool) (y3 y4 y5:Int),(eventsB dss).getD i zE=(x0,x1,x2,x3,x4,x5)→(eventsB dss).getD j zE=(y0,y1,y2,y3,y4,y5) →
   isbE (x0,x1,x2,x3,x4,x5) (y0,y1,y2,y3,y4,y5)=true→∀w1:World,Keep w w1→Calls Tryz.prog 292 #[eA x0 x1 x2 x3 x4 x5,eA y0 y1 y2 y3 y4 y5,t] w1 fun e w'=>e = .returned (.bool (T (x0,x1,x2,x3,x4,x5) (y0,y1,y2,y3,y4,y5)))∧Keep w1 w'):
  Calls Tryz.prog 287 #[v,t] w fun e w'=>∃v',e = .returned v'∧Row w' w.heap.size v' (colAll (tQ T (eventsB dss)) (eventsB dss).length (eventsB dss).length)∧Keep w w':=by
 have L9:=eventsB_len9 dss;have CE:=implEventsOf_any w v dss h hx hm;clear h hx hm;generalize eventsB dss=es at L9 HP CE ⊢;go_enter Tryz.func287,Tryz.ntmps287
 go_wp2_with fail
 refine CE.mono ?_;rintro e w1 ⟨v1,rfl,a1,k1⟩;have r1:=a1.rd;clear a1 CE;obtain⟨a,c,rfl,r1⟩:=r1;have s1:=k1.size;go_wp2_with fail
 refine (blank_any _ es.length (by omega)).mono ?_;rintro e w2 ⟨rfl,hR,k2⟩;have K2:=k1.trans k2;go_wp2;go_loopw [18] (fun s wr=>∃j:Nat,j≤es.length∧s = .int .i64 j∧RowAt wr w1.heap.size (colAll (tQ T es) es.length j)∧Keep w1 wr) (fun s _=>es.length-(intOf s).toNat)
 case atStart=>exact⟨0,Nat.zero_le _,rfl,hR,k2⟩
 case round=>
  obtain⟨j,hj,rfl,hr,hK⟩:=hrel;clear hR k2 K2;by_cases hlt:j<es.length
  ·
   rcases r1 with h|⟨b,off,rfl,hb,hc⟩
   · exfalso;rw[h] at hlt;simp at hlt
   have AJ:=(hc j _ (evs_get hlt)).keep hb hK;have hbw:b<wr.heap.size:=Nat.lt_of_lt_of_le hb hK.size;have HW:=Lib.hid (web_colAll (q:=tQ T es) (show es.length≤12 by omega) j (by omega)).1;have HE:Hid (colIn (tQ T es) j (colAll (tQ T es) es.length j) j=colAll (tQ T es) es.length (j+1)):=Lib.hid rfl;generalize colAll (tQ T es) es.length j=S0 at *;obtain⟨y,hy⟩:∃y,y=es.getD j zE:=⟨_,rfl⟩;rw[←hy] at AJ;obtain⟨y0,y1,y2,y3,y4,y5⟩:=y;obtain⟨B0,B1,B2,B3,B4,B5⟩:=atE AJ;clear AJ;have i1:(0:Int)≤(j:Int):=Int.natCast_nonneg _;have i2:(j:Int)<(es.length:Int):=by omega
   have i3:(j:Int)≤(es.length:Int):=by omega
   have i4:(j:Int)≤(es.length:Int)+(c:Int):=by omega
   go_wp2;have i5:(j:Int)≤9:=by omega
   obtain⟨wo,rfl⟩:∃wo:World,wo=wr:=⟨_,rfl⟩;clear B0 B1 B2 B3 B4 B5;have swo:=hK.size;go_loopw [27] (fun s wr=>∃i:Nat,i≤j∧s = .int .i64 i∧RowAt wr w1.heap.size (colIn (tQ T es) j S0 i)∧(wo.alloc (.cells #[.int .i64 y0,.int .i64 y1,.bool y2,.int .i64 y3,.int .i64 y4,.int .i64 y5] 85)).grownBy wr (some w1.heap.size)) (fun s _=>j-(intOf s).toNat)
   case atStart=>exact⟨0,Nat.zero_le _,rfl,hr.keep ((Keep.refl wo).alloc _),grown_row (Keep.refl _).grownBy _⟩
   case round=>
    have hG:=hr.lt;clear hr;obtain⟨i,hi,rfl,hr,hg⟩:=hrel;have hK':Keep w1 wr:=(hK.alloc _).grown hg (fun k hk=>by simp at hk;omega);have sz:=hg.size;rw[heap_size] at sz;by_cases hil:i<j
    ·
     have AI:=(hc i _ (evs_get (show i<es.length by omega))).keep hb hK';have hbr:b<wr.heap.size:=by omega
     have C:=fun m=>(cell_blk (hg.block wo.heap.size (by rw[heap_size];omega) (by simp;omega)) m).trans (box_cell (Keep.refl _) m)
     have c0:=C 0;have c1:=C 1;have c2:=C 2;have c3:=C 3;have c4:=C 4;have c5:=C 5;clear C;simp at c0 c1 c2 c3 c4 c5;obtain⟨x,hx⟩:∃x,x=es.getD i zE:=⟨_,rfl⟩;rw[←hx] at AI;obtain⟨x0,x1,x2,x3,x4,x5⟩:=x;obtain⟨A0,A1,A2,A3,A4,A5⟩:=atE AI;clear AI;have hq:tQ T es i j=(isbE (x0,x1,x2,x3,x4,x5) (y0,y1,y2,y3,y4,y5)&&T (x0,x1,x2,x3,x4,x5) (y0,y1,y2,y3,y4,y5)):=by show (_&&_)=_;rw[←hx,←hy]
     have HM:(isbE (x0,x1,x2,x3,x4,x5) (y0,y1,y2,y3,y4,y5)&&T (x0,x1,x2,x3,x4,x5) (y0,y1,y2,y3,y4,y5))=false→Hid (colIn (tQ T es) j S0 (i+1)=colIn (tQ T es) j S0 i):=fun hf=>Lib.hid (colIn_miss S0 (hq.trans hf))
     have HH:(isbE (x0,x1,x2,x3,x4,x5) (y0,y1,y2,y3,y4,y5)&&T (x0,x1,x2,x3,x4,x5) (y0,y1,y2,y3,y4,y5))=true→Hid (colIn (tQ T es) j S0 (i+1)=(colIn (tQ T es) j S0 i).set i (gAdd ((colIn (tQ T es) j S0 i).getD i 0) j)):=fun hf=>Lib.hid (colIn_hit S0 (hq.trans hf))
     have HLn:=(web_colIn (q:=tQ T es) hlt HW.out i (by omega)).1.2.1;have CP:=HP i j hil hlt x0 x1 x2 x3 x4 x5 y0 y1 y2 y3 y4 y5 hx.symm hy.symm;clear hq hx HP hc;have kw:Keep w wr:=k1.trans hK';have CI:=isBehind_any (wr.alloc (.cells #[.int .i64 x0,.int .i64 x1,.bool x2,.int .i64 x3,.int .i64 x4,.int .i64 x5] 85)) x0 x1 x2 x3 x4 x5 y0 y1 y2 y3 y4 y5;generalize isbE (x0,x1,x2,x3,x4,x5) (y0,y1,y2,y3,y4,y5)=I at CI CP HM HH;generalize T (x0,x1,x2,x3,x4,x5) (y0,y1,y2,y3,y4,y5)=TT at CP HM HH;generalize colIn (tQ T es) j S0 i=S at hr HM HH HLn;have n1:(0:Int)≤(i:Int):=Int.natCast_nonneg _;have n2:(i:Int)<(j:Int):=by omega
     have hwo:wo.heap.size<wr.heap.size:=by omega
     go_wp2_with fail
     refine CI.mono ?_;rintro e w5 ⟨rfl,k5⟩;have R5:=(hr.keep ((Keep.refl wr).alloc _)).keep k5;have g5:=grown_trans hg (grown_row (((Keep.refl wr).alloc _).trans k5).grownBy (some w1.heap.size));cases I
     ·
      have HE1:=HM rfl;clear HM HH;go_wp2;go_roundw;case rel=>exact⟨i+1,by omega,by go_num,by rw[HE1.out];exact R5,g5⟩
      case measure=>simp[intOf];omega
     ·
      have F:=fun m=>box_cell k5 m
      have f0:=F 0;have f1:=F 1;have f2:=F 2;have f3:=F 3;have f4:=F 4;have f5:=F 5;clear F;simp at f0 f1 f2 f3 f4 f5;have kq:Keep wr w5:=((Keep.refl wr).alloc _).trans k5;have t0:=(kq.cell hwo (o:=0)).trans c0;have t1:=(kq.cell hwo (o:=1)).trans c1;have t2:=(kq.cell hwo (o:=2)).trans c2;have t3:=(kq.cell hwo (o:=3)).trans c3;have t4:=(kq.cell hwo (o:=4)).trans c4;have t5:=(kq.cell hwo (o:=5)).trans c5;clear c0 c1 c2 c3 c4 c5 A0 A1 A2 A3 A4 A5;go_wp2_with fail
      refine (CP trivial _ (kw.trans kq)).mono ?_;rintro e w6 ⟨rfl,k6⟩;have R6:=R5.keep k6;have g6:=grown_trans g5 (grown_row k6.grownBy (some w1.heap.size));clear f0 f1 f2 f3 f4 f5 t0 t1 t2 t3 t4 t5 R5 g5;cases TT
      ·
       have HE1:=HM rfl;clear HM HH;go_wp2;go_roundw;case rel=>exact⟨i+1,by omega,by go_num,by rw[HE1.out];exact R6,g6⟩
       case measure=>simp[intOf];omega
      ·
       have HE1:=HH rfl;clear HM HH;go_wp2_with fail
       refine (line_any w6 w1.heap.size es.length es.length S i j R6 HLn (by omega)).mono ?_;rintro e w7 ⟨rfl,R7,g7⟩;go_wp2;go_roundw;case rel=>exact⟨i+1,by omega,by go_num,by rw[HE1.out];exact R7,grown_trans g6 g7⟩
       case measure=>simp[intOf];omega
    ·
     obtain rfl:i=j:=by omega
     go_wp2;go_roundw;case rel=>exact⟨i+1,by omega,by go_num,by rw[←HE.out];exact hr,(hK.alloc _).grown hg (fun k hk=>by simp at hk;omega)⟩
     case measure=>simp[intOf];omega
  ·
   obtain rfl:j=es.length:=by omega
   have HL:=(web_colAll (q:=tQ T es) (show es.length≤12 by omega) es.length (Nat.le_refl _)).1.2.1;go_wp2;go_ret;exact⟨_,rfl,row_new hr (by omega) HL,k1.trans hK⟩
theorem pass_none (w:World)(x0 x1:Int)(x2:Bool)(x3 x4 x5 y0 y1:Int)(y2:Bool)(y3 y4 y5:Int):
  Calls Tryz.prog 292 #[eA x0 x1 x2 x3 x4 x5,eA y0 y1 y2 y3 y4 y5,.slice none 0 0] w fun e w'=>e = .returned (.bool true)∧Keep w w':=by
 go_enter Tryz.func292,Tryz.ntmps292
 go_wp2;refine wp_loop_rounds 1 ?_;rw[rounds_succ];go_wp2;go_ret;exact⟨rfl,((Keep.refl w).alloc _).alloc _⟩
theorem col_beh (dss:List (List Dd)):colAll (tQ (fun _ _=>true) (eventsB dss)) (eventsB dss).length (eventsB dss).length=behL (eventsB dss):=by
 cases hb:workB dss with
 |false=>rw[eventsB,hb];rfl
 |true=>
  rw[eventsB,if_pos hb,←beh_same hb]
  congr 1
  funext i j;exact Bool.and_true _
theorem implBehind_any (w:World)(v:Value)(dss:List (List Dd))(h:RdW w v dss)(hx:dss.length≤1048576)(hm:∀i,i<dss.length→(dss.getD i []).length≤1048576):
  Calls Tryz.prog 323 #[v] w fun e w'=>∃v',e = .returned v'∧Row w' w.heap.size v' (behL (eventsB dss))∧Keep w w':=by
 have C:=linesOf_any w v (.slice none 0 0) dss (fun _ _=>true) h hx hm (fun i j _ _ x0 x1 x2 x3 x4 x5 y0 y1 y2 y3 y4 y5 _ _ _ w1 _=>pass_none w1 x0 x1 x2 x3 x4 x5 y0 y1 y2 y3 y4 y5);rw[col_beh] at C;go_enter Tryz.func323,Tryz.ntmps323
 go_wp2_with fail
 refine C.mono ?_;rintro e w1 ⟨v1,rfl,r1,k1⟩;go_wp2;go_ret;exact⟨_,rfl,r1,k1⟩
theorem implSourceOk_any (w:World)(v vf:Value)(dss:List (List Dd))(f:List Int)(h:RdW w v dss)(hf:Rd w vf f)(hx:dss.length≤1048576)(hm:∀i,i<dss.length→(dss.getD i []).length≤1048576)(hfl:f.length≤1048576):
  Calls Tryz.prog 223 #[v,vf] w fun e w'=>e = .returned (.bool (sourceB dss f))∧Keep w w':=by
 have h12:(eventsB dss).length≤12:=by have:=eventsB_len9 dss;omega
 obtain⟨cl1,cl2⟩:=chc_len h12;go_enter Tryz.func223,Tryz.ntmps223
 go_wp2_with fail
 refine (implEventsOf_any _ _ _ h hx hm).mono ?_;rintro e w2 ⟨v2,rfl,a2,k2⟩;go_wp2_with fail
 refine (choicesOf_any _ _ _ a2.rd h12).mono ?_;rintro e w3 ⟨v3,rfl,rp,k3⟩;have K3:=k2.trans k3;have rc:=rp.rdl (Nat.le_refl _);have hf3:=hf.keep K3;have HE:Hid (sourceB dss f=(workB dss&&srcB (chcL (eventsB dss)) f)):=Lib.hid rfl;generalize chcL (eventsB dss)=c at rc HE cl1 cl2;obtain⟨ac,cc,rfl,-⟩:=id rc;obtain⟨af,cf,rfl,-⟩:=id hf3;go_wp2_with fail
 refine (implWorkOk_any _ _ _ (h.keep K3) hx hm).mono ?_;rintro e w4 ⟨rfl,k4⟩;have K4:=K3.trans k4;have hf4:=hf3.keep k4;have rc4:=rc.keep k4;clear h a2 k2 k3 rp rc hf hf3 K3 k4 hx hm h12;cases hb:workB dss
 ·
  have HN:Hid (sourceB dss f=false):=Lib.hid (by rw[HE.out,hb];rfl);go_wp2;go_ret;exact⟨by rw[HN.out];rfl,K4⟩
 have HE2:Hid (sourceB dss f=srcB c f):=Lib.hid (by rw[HE.out,hb];rfl);clear HE;by_cases hl:c.length=f.length
 ·
  have hlb:((f.length:Int) != (c.length:Int))=false:=by simp[hl]
  have l1:f.length≤c.length:=by omega
  have l2:c.length≤f.length:=by omega
  have HS:Hid (srcB c f=srcK c f f.length):=Lib.hid (by unfold srcB;simp[hl]);clear hl;go_wp2;go_loopw [23] (fun i wr=>∃k:Nat,k≤f.length∧i = .int .i64 k∧Hid (srcK c f k=true)∧Keep w4 wr) (fun i _=>f.length-(intOf i).toNat)
  case atStart=>exact⟨0,Nat.zero_le _,rfl,Lib.hid rfl,Keep.refl _⟩
  case round=>
   obtain⟨k,hk,rfl,hS,hK⟩:=hrel;by_cases hlt:k<f.length
   ·
    have rck:=rc4.keep hK;have hfk:=hf4.keep hK;obtain⟨a',c',he',rck⟩:=rck;simp only[Value.slice.injEq,true_and] at he';obtain⟨rfl,rfl⟩:=he';rcases rck with h|⟨b,o,rfl,hbb,hc⟩
    · exfalso;rw[h] at l1;simp only[List.length_nil] at l1;omega
    obtain⟨a',c',he',hfk⟩:=hfk;simp only[Value.slice.injEq,true_and] at he';obtain⟨rfl,rfl⟩:=he';rcases hfk with h|⟨b2,o2,rfl,hb2,hc2⟩
    · exfalso;rw[h] at hlt;simp at hlt
    obtain⟨vi,d1,r2⟩:=hc k (by omega);have d2:=hc2 k hlt;have ck:=cl2 k (by omega);clear hc hc2;have HB:Hid (srcK c f (k+1)=(srcK c f k&&isB (c.getD k []) (f.getD k 0))):=Lib.hid rfl;generalize f.getD k 0=n at d2 HB;generalize c.getD k []=zs at r2 ck HB;obtain⟨az,cz,rfl,-⟩:=id r2;have i1:(0:Int)≤(k:Int):=Int.natCast_nonneg _;have i2:(k:Int)<(c.length:Int):=by omega
    have i3:(k:Int)<(f.length:Int):=by omega
    cases hi:isB zs n
    ·
     have HN:Hid (srcK c f f.length=false):=Lib.hid (srcK_false (k:=k+1) (by rw[HB.out,hi,Bool.and_false]) _ hlt);have CI:=contains_any wr _ zs r2 (by omega) n;rw[hi] at CI;go_wp2_with fail
     refine CI.mono ?_;rintro e w5 ⟨rfl,rfl⟩;go_wp2;go_ret;exact⟨by rw[HE2.out,HS.out,HN.out];rfl,K4.trans hK⟩
    ·
     have HN:Hid (srcK c f (k+1)=true):=Lib.hid (by rw[HB.out,hi,hS.out];rfl);have CI:=contains_any wr _ zs r2 (by omega) n;rw[hi] at CI;go_wp2_with fail
     refine CI.mono ?_;rintro e w5 ⟨rfl,rfl⟩;go_wp2;go_roundw;case rel=>exact⟨k+1,by omega,by go_num,HN,hK⟩
     case measure=>simp[intOf];omega
   ·
    obtain rfl:k=f.length:=by omega
    go_wp2;go_ret;exact⟨by rw[HE2.out,HS.out,hS.out];rfl,K4.trans hK⟩
 ·
  have hlb:((f.length:Int) != (c.length:Int))=true:=by simp;omega
  have HS:Hid (srcB c f=false):=Lib.hid (by unfold srcB;simp[hl]);clear hl;go_wp2;go_ret;exact⟨by rw[HE2.out,HS.out];rfl,K4⟩
theorem workB_useI {dss:List (List Dd)}{f:List Int}(h:sourceB dss f=true):workB dss=true∧srcB (chcL (eventsB dss)) f=true:=by
 rw[sourceB,Bool.and_eq_true] at h;exact h
theorem implFromWeb_any (w:World)(v vf:Value)(dss:List (List Dd))(f:List Int)(h:RdW w v dss)(hf:Rd w vf f)(hx:dss.length≤1048576)(hm:∀i,i<dss.length→(dss.getD i []).length≤1048576)(hfl:f.length≤1048576):
  Calls Tryz.prog 260 #[v,vf] w fun e w'=>∃v',e = .returned v'∧Row w' w.heap.size v' (fwB dss f)∧Keep w w':=by
 cases hs:sourceB dss f
 ·
  have HE:Hid (fwB dss f=[]):=Lib.hid (by rw[fwB,hs];rfl);have C:=implSourceOk_any w v vf dss f h hf hx hm hfl;rw[hs] at C;go_enter Tryz.func260,Tryz.ntmps260
  go_wp2_with fail
  refine C.mono ?_;rintro e w1 ⟨rfl,k1⟩;have s1:=k1.size;go_wp2;go_ret;exact⟨_,rfl,by rw[HE.out];exact (row_empty w1 _).base_le s1,k1.alloc _⟩
 ·
  obtain⟨hb,hs2⟩:=workB_useI hs;have HE:Hid (fwB dss f=fwL (eventsB dss) f):=Lib.hid (by rw[fwB,if_pos hs]);have h12:(eventsB dss).length≤12:=by have:=eventsB_len9 dss;omega
  obtain⟨sl,su⟩:=src_use h12 hs2;have C:=implSourceOk_any w v vf dss f h hf hx hm hfl;rw[hs] at C
  have rl:(idxB rdE (eventsB dss)).length≤12:=by
   unfold idxB;rw[if_pos h12];have:=idxK_len rdE (eventsB dss) (eventsB dss).length;omega
  have rin:∀i,i<(idxB rdE (eventsB dss)).length→0≤(idxB rdE (eventsB dss)).getD i 0∧(idxB rdE (eventsB dss)).getD i 0<((eventsB dss).length:Int):=by
   intro i hi
   have hm:(idxB rdE (eventsB dss)).getD i 0∈idxB rdE (eventsB dss):=by
    rw[List.getD_eq_getElem?_getD,List.getElem?_eq_getElem hi];exact List.getElem_mem hi
   refine idxK_lt rdE (eventsB dss) _ _ ?_;unfold idxB at hm ⊢;rw[if_pos h12] at hm ⊢;exact hm
  have fin:∀i,i<(idxB rdE (eventsB dss)).length→0≤f.getD i 0∧f.getD i 0<((eventsB dss).length:Int):=fun i hi=>(su i hi).1
  have HL:Hid (fwL (eventsB dss) f=fwK (eventsB dss).length (idxB rdE (eventsB dss)) f (idxB rdE (eventsB dss)).length):=Lib.hid rfl;clear su;go_enter Tryz.func260,Tryz.ntmps260
  go_wp2_with fail
  refine C.mono ?_;rintro e w1 ⟨rfl,k1⟩;have s1:=k1.size;go_wp2_with fail
  refine (implEventsOf_any _ _ _ (h.keep k1) hx hm).mono ?_;rintro e w2 ⟨v2,rfl,a2,k2⟩;have s2:=k2.size;have re:=a2.rd;generalize eventsB dss=es at *;obtain⟨ae,ce,rfl,-⟩:=id re;go_wp2_with fail
  refine (blank_any _ _ h12).mono ?_;rintro e w3 ⟨rfl,rb,k3⟩;have s3:=k3.size;go_wp2_with fail
  refine (implReadsOf_any _ _ _ (re.keep k3) (by omega)).mono ?_;rintro e w4 ⟨vr,rfl,or4,k4⟩;have s4:=k4.size;have hr3:=rb.lt;generalize idxB rdE es=rs at *;have hF4:=hf.keep (((k1.trans k2).trans k3).trans k4);have hK4:Keep w w4:=((k1.trans k2).trans k3).trans k4
  have N2:vr.ownBlock=none∨vr.ownBlock≠some w2.heap.size:=by
   cases hu:vr.ownBlock with
   |none=>exact .inl rfl
   |some k=>exact .inr (fun e=>by have:=or4.ge k hu;have:=Option.some.inj e;omega)
  have hFB:0<f.length→(vf.ownBlock=none∨vf.ownBlock≠some w2.heap.size):=by
   intro hpos;obtain⟨a,c,rfl,hv⟩:=hf;rcases hv with hv|⟨b,o,rfl,hb,_⟩
   · rw[hv] at hpos;simp at hpos
   · exact .inr (by simp[Value.ownBlock];omega)
  have HFB:=Lib.hid hFB;clear hFB;have R4:=or4.rd;have rb4:RowAt w4 w2.heap.size (fwK es.length rs f 0):=rb.keep k4;have hb2:w.heap.size≤w2.heap.size:=by omega
  obtain⟨ar,cr,rfl,-⟩:=id R4;obtain⟨af,cf,rfl,-⟩:=id hf;have RIN:=Lib.hid rin;have FIN:=Lib.hid fin;have l1:rs.length≤f.length:=by omega
  clear rin fin sl a2 re k1 k2 k3 k4 C h hx hm rb or4 hs hs2 hb hr3 s1 s2 s3 s4 hf;go_wp2;go_loopw [22] (fun i wr=>∃k:Nat,k≤rs.length∧i = .int .i64 k∧RowAt wr w2.heap.size (fwK es.length rs f k)∧Rd wr (.slice ar rs.length cr) rs∧Keep w wr∧Rd wr (.slice af f.length cf) f) (fun i _=>rs.length-(intOf i).toNat)
  case atStart=>exact⟨0,Nat.zero_le _,rfl,rb4,R4,hK4,hF4⟩
  case round=>
   obtain⟨k,hk,rfl,hr,hR,hK,hF⟩:=hrel;clear rb4 R4 hK4 hF4;by_cases hlt:k<rs.length
   ·
    obtain⟨r,hr0⟩:=Int.eq_ofNat_of_zero_le (RIN.out k hlt).1;obtain⟨t,ht0⟩:=Int.eq_ofNat_of_zero_le (FIN.out k hlt).1;have hte:t<es.length:=by have:=(FIN.out k hlt).2;omega
    have hW:=(fw_line (n:=es.length) (rs:=rs) (f:=f) h12 k (fun i hi=>RIN.out i (by omega)) (fun i hi=>FIN.out i (by omega))).1;have hBl:(fwK es.length rs f k).length=es.length:=hW.2.1
    have HC:Hid (fwK es.length rs f (k+1)=(fwK es.length rs f k).set t (gAdd ((fwK es.length rs f k).getD t 0) (r:Int))):=Lib.hid (by
     rw[fwK,ht0,hr0,Int.toNat_natCast])
    obtain⟨a',c',he',hR'⟩:=id hR;simp only[Value.slice.injEq,true_and] at he';obtain⟨rfl,rfl⟩:=he';rcases hR' with h0|⟨br,orr,rfl,hbr,hcr⟩
    · exfalso;rw[h0] at hlt;simp at hlt
    have d3:=hcr k hlt;rw[hr0] at d3;obtain⟨a2,c2,he2,hF'⟩:=id hF;simp only[Value.slice.injEq,true_and] at he2;obtain⟨rfl,rfl⟩:=he2;rcases hF' with h0|⟨bf,off,rfl,hbf,hcf⟩
    · exfalso;rw[h0] at l1;simp only[List.length_nil] at l1;omega
    have d4:=hcf k (by omega);rw[ht0] at d4;clear hcr hcf hr0 ht0 hW;have i1:(0:Int)≤(k:Int):=Int.natCast_nonneg _;have i2:(k:Int)<(rs.length:Int):=by omega
    have i3:(k:Int)<(f.length:Int):=by omega
    have CL:=line_any wr w2.heap.size es.length es.length (fwK es.length rs f k) t (r:Int) hr hBl hte;rw[←HC.out] at CL;clear hBl;go_wp2_with fail
    refine CL.mono ?_;rintro e w5 ⟨rfl,hr5,hg5⟩;have hR5:=hR.keptR hg5 N2;have hF5:=hF.keptR hg5 (HFB.out (by omega));have hK5:Keep w w5:=hK.grown hg5 (by simp;omega);clear CL hR hF hK hr;go_wp2;go_roundw;case rel=>exact⟨k+1,by omega,by go_num,hr5,hR5,hK5,hF5⟩
    case measure=>simp[intOf];omega
   ·
    obtain rfl:k=rs.length:=by omega
    go_wp2;go_ret;refine⟨_,rfl,?_,hK⟩;rw[HE.out,HL.out];have hW:=(fw_line (n:=es.length) (rs:=rs) (f:=f) h12 rs.length (fun i hi=>RIN.out i (by omega)) (fun i hi=>FIN.out i (by omega))).1;exact .inr ⟨w2.heap.size,es.length,by rw[hW.2.1];rfl,hb2,hr⟩
theorem Rd.upto {w:World}{a:Option Addr}{n c:Nat}{zs:List Int}(h:Rd w (.slice a n c) zs){k:Nat}(hk:k≤zs.length):Rd w (.slice a k c) (zs.take k):=by
 obtain⟨a',c',he,hr⟩:=h;simp only[Value.slice.injEq] at he;obtain⟨rfl,rfl,rfl⟩:=he;have hl:(zs.take k).length=k:=by rw[List.length_take];omega
 refine⟨_,_,by rw[hl],?_⟩;rcases hr with hr|⟨b,off,rfl,hb,hc⟩
 · exact .inl (by rw[hr];simp)
 ·
  refine .inr ⟨b,off,rfl,hb,fun i hi=>?_⟩;rw[hc i (by omega),List.getD_eq_getElem?_getD,List.getD_eq_getElem?_getD,List.getElem?_take,if_pos (by omega)]
theorem implRowsOk_any (w:World)(v vf:Value)(dss:List (List Dd))(f:List Int)(h:RdW w v dss)(hf:Rd w vf f)(hcap:f.length≤capZ vf)(hx:dss.length≤1048576)(hm:∀i,i<dss.length→(dss.getD i []).length≤1048576)(hfl:f.length≤1048576):
  Calls Tryz.prog 224 #[v,vf] w fun e w'=>e = .returned (.bool (rowsB dss f))∧Keep w w':=by
 have h12:(eventsB dss).length≤12:=by have:=eventsB_len9 dss;omega
 have sl:=seats_36 h12;have HS:=Lib.hid (fun i hi=>(seat_rises h12 (i:=i) hi).2);go_enter Tryz.func224,Tryz.ntmps224
 go_wp2_with fail
 refine (implEventsOf_any _ _ _ h hx hm).mono ?_;rintro e w2 ⟨v2,rfl,a2,k2⟩;go_wp2_with fail
 refine (seatsOf_any _ _ _ a2.rd h12).mono ?_;rintro e w3 ⟨v3,rfl,rc,k3⟩;have K3:=k2.trans k3;have hf3:=hf.keep K3;have HE:Hid (workB dss=true→rowsB dss f=(decide (f.length=(seatsL (eventsB dss)).length)&&sitK (seatsL (eventsB dss)) f f.length)):=Lib.hid (fun hb=>by rw[sit_same hb,rowsB,hb];rfl);generalize seatsL (eventsB dss)=c at rc HE HS sl;obtain⟨ac,cc,rfl,-⟩:=id rc;obtain⟨af,cf,rfl,-⟩:=id hf3;have hcf:f.length≤cf:=hcap;go_wp2_with fail
 refine (implWorkOk_any _ _ _ (h.keep K3) hx hm).mono ?_;rintro e w4 ⟨rfl,k4⟩;have K4:=K3.trans k4;have hf4:=hf3.keep k4;have rc4:=rc.keep k4;clear h a2 k2 k3 rc hf hf3 K3 k4 hx hm h12 hcap;cases hb:workB dss
 ·
  have HN:Hid (rowsB dss f=false):=Lib.hid (by rw[rowsB,hb];rfl);go_wp2;go_ret;exact⟨by rw[HN.out];rfl,K4⟩
 have HE2:Hid (rowsB dss f=(decide (f.length=c.length)&&sitK c f f.length)):=Lib.hid (HE.out hb);clear HE;by_cases hl:f.length=c.length
 ·
  have hlb:((f.length:Int) != (c.length:Int))=false:=by simp[hl]
  have l1:f.length≤c.length:=by omega
  have HR:Hid (rowsB dss f=sitK c f f.length):=Lib.hid (by rw[HE2.out,decide_eq_true hl];rfl);clear hl HE2;go_wp2;go_loopw [23] (fun i wr=>∃k:Nat,k≤f.length∧i = .int .i64 k∧Hid (sitK c f k=true)∧Keep w4 wr) (fun i _=>f.length-(intOf i).toNat)
  case atStart=>exact⟨0,Nat.zero_le _,rfl,Lib.hid rfl,Keep.refl _⟩
  case round=>
   obtain⟨k,hk,rfl,hS,hK⟩:=hrel;by_cases hlt:k<f.length
   ·
    have rck:=rc4.keep hK;have hfk:=hf4.keep hK;have hft:=hfk.upto (k:=k) hk;obtain⟨a',c',he',rck⟩:=rck;simp only[Value.slice.injEq,true_and] at he';obtain⟨rfl,rfl⟩:=he';rcases rck with h|⟨b,o,rfl,hbb,hc⟩
    · exfalso;rw[h] at l1;simp only[List.length_nil] at l1;omega
    obtain⟨a',c',he',hfk⟩:=hfk;simp only[Value.slice.injEq,true_and] at he';obtain⟨rfl,rfl⟩:=he';rcases hfk with h|⟨b2,o2,rfl,hb2,hc2⟩
    · exfalso;rw[h] at hlt;simp at hlt
    obtain⟨vi,d1,r2⟩:=hc k (by omega);have d2:=hc2 k hlt;have ck:=HS.out k (by omega);have tk:(f.take k).length≤1048576:=by rw[List.length_take];omega
    clear hc hc2;have HB:Hid (sitK c f (k+1)=(sitK c f k&&(isB (c.getD k []) (f.getD k 0)&&!isB (f.take k) (f.getD k 0)))):=Lib.hid rfl;generalize f.getD k 0=n at d2 HB;generalize c.getD k []=zs at r2 ck HB;generalize f.take k=ft at hft tk HB;obtain⟨az,cz,rfl,-⟩:=id r2;have i1:(0:Int)≤(k:Int):=Int.natCast_nonneg _;have i2:(k:Int)<(c.length:Int):=by omega
    have i3:(k:Int)<(f.length:Int):=by omega
    have i4:(k:Int)≤(cf:Int):=by omega
    have CI:=contains_any wr _ zs r2 (by omega) n;have CJ:=contains_any wr _ ft hft (by omega) n;cases hi:isB zs n
    ·
     have HN:Hid (sitK c f f.length=false):=Lib.hid (sitK_false (k:=k+1) (by rw[HB.out,hi];simp) _ hlt);rw[hi] at CI;clear CJ;go_wp2_with fail
     refine CI.mono ?_;rintro e w5 ⟨rfl,rfl⟩;go_wp2;go_ret;exact⟨by rw[HR.out,HN.out];rfl,K4.trans hK⟩
    ·
     rw[hi] at CI;cases hj:isB ft n
     ·
      have HN:Hid (sitK c f (k+1)=true):=Lib.hid (by rw[HB.out,hi,hj,hS.out];rfl);rw[hj] at CJ;go_wp2_with fail
      refine CI.mono ?_;rintro e w5 ⟨rfl,rfl⟩;go_wp2_with fail
      refine CJ.mono ?_;rintro e w6 ⟨rfl,rfl⟩;go_wp2;go_roundw;case rel=>exact⟨k+1,by omega,by go_num,HN,hK⟩
      case measure=>simp[intOf];omega
     ·
      have HN:Hid (sitK c f f.length=false):=Lib.hid (sitK_false (k:=k+1) (by rw[HB.out,hi,hj];simp) _ hlt);rw[hj] at CJ;go_wp2_with fail
      refine CI.mono ?_;rintro e w5 ⟨rfl,rfl⟩;go_wp2_with fail
      refine CJ.mono ?_;rintro e w6 ⟨rfl,rfl⟩;go_wp2;go_ret;exact⟨by rw[HR.out,HN.out];rfl,K4.trans hK⟩
   ·
    obtain rfl:k=f.length:=by omega
    go_wp2;go_ret;exact⟨by rw[HR.out,hS.out];rfl,K4.trans hK⟩
 ·
  have hlb:((f.length:Int) != (c.length:Int))=true:=by simp;omega
  have HR:Hid (rowsB dss f=false):=Lib.hid (by rw[HE2.out,decide_eq_false hl];rfl);clear hl HE2;go_wp2;go_ret;exact⟨by rw[HR.out];rfl,K4⟩
theorem implRowWeb_any (w:World)(v vf:Value)(dss:List (List Dd))(f:List Int)(h:RdW w v dss)(hf:Rd w vf f)(hcap:f.length≤capZ vf)(hx:dss.length≤1048576)(hm:∀i,i<dss.length→(dss.getD i []).length≤1048576)(hfl:f.length≤1048576):
  Calls Tryz.prog 219 #[v,vf] w fun e w'=>∃v',e = .returned v'∧Row w' w.heap.size v' (rwB dss f)∧Keep w w':=by
 have C:=implRowsOk_any w v vf dss f h hf hcap hx hm hfl;cases hs:rowsB dss f
 ·
  have HE:Hid (rwB dss f=[]):=Lib.hid (by rw[rwB,hs];rfl);rw[hs] at C;go_enter Tryz.func219,Tryz.ntmps219
  go_wp2_with fail
  refine C.mono ?_;rintro e w1 ⟨rfl,k1⟩;have s1:=k1.size;go_wp2;go_ret;exact⟨_,rfl,by rw[HE.out];exact (row_empty w1 _).base_le s1,k1.alloc _⟩
 ·
  have h12:(eventsB dss).length≤12:=by have:=eventsB_len9 dss;omega
  have hrl:rowsL (eventsB dss) f=true:=by rw[rowsB,Bool.and_eq_true] at hs;exact hs.2
  obtain⟨-,-,fin⟩:=rows_use h12 hrl;have HE:Hid (rwB dss f=pwAll (eventsB dss) f f.length):=Lib.hid (by rw[pw_same h12 fin,rwB,if_pos hs]);have HW:=Lib.hid (web_pwAll h12 fin);have HX:=Lib.hid (fun (i:Nat) (st:List Int) hi hst=>web_pwIn (es:=eventsB dss) (n:=(eventsB dss).length) (i:=i) (st:=st) fin hi hst);have FIN:=Lib.hid fin;rw[hs] at C;clear fin hrl hs;go_enter Tryz.func219,Tryz.ntmps219
  go_wp2_with fail
  refine C.mono ?_;rintro e w1 ⟨rfl,k1⟩;have s1:=k1.size;go_wp2_with fail
  refine (implEventsOf_any _ _ _ (h.keep k1) hx hm).mono ?_;rintro e w2 ⟨v2,rfl,a2,k2⟩;have s2:=k2.size;have re:=a2.rd;generalize eventsB dss=es at *;obtain⟨ae,ce,rfl,re⟩:=re;go_wp2_with fail
  refine (blank_any _ _ h12).mono ?_;rintro e w3 ⟨rfl,rb,k3⟩;have K2:=k1.trans k2;have hf2:=hf.keep K2;obtain⟨af,cf,rfl,-⟩:=id hf;have hcf:f.length≤cf:=hcap;have sw:w.heap.size≤w2.heap.size:=by omega
  clear C h hx hm a2 k1 k2 hf s1 s2 hcap;go_wp2;go_loopw [23] (fun i wr=>∃k:Nat,k≤f.length∧i = .int .i64 k∧RowAt wr w2.heap.size (pwAll es f k)∧Keep w2 wr) (fun i _=>f.length-(intOf i).toNat)
  case atStart=>exact⟨0,Nat.zero_le _,rfl,rb,k3⟩
  case round=>
   obtain⟨k,hk,rfl,hr,hK⟩:=hrel;clear rb k3;by_cases hlt:k<f.length
   ·
    have hfk:=hf2.keep hK;obtain⟨a',c',he',hfk⟩:=hfk;simp only[Value.slice.injEq,true_and] at he';obtain⟨rfl,rfl⟩:=he';rcases hfk with h0|⟨bf,off,rfl,hbf,hcf'⟩
    · exfalso;rw[h0] at hlt;simp at hlt
    obtain⟨rb,hrb⟩:=Int.eq_ofNat_of_zero_le (FIN.out k hlt).1;have hrbl:rb<es.length:=by have:=(FIN.out k hlt).2;omega
    have d1:=hcf' k hlt;rw[hrb] at d1;have HN:Hid (pwAll es f (k+1)=pwIn es f k (pwAll es f k) k):=Lib.hid rfl;have HWI:=Lib.hid (HX.out k (pwAll es f k) hlt (HW.out k hk).1);generalize pwAll es f k=S0 at hr HN HWI;have i1:(0:Int)≤(k:Int):=Int.natCast_nonneg _;have i2:(k:Int)<(f.length:Int):=by omega
    have i3:(k:Int)≤(cf:Int):=by omega
    clear hcf';go_wp2;clear d1;obtain⟨wo,rfl⟩:∃wo:World,wo=wr:=⟨_,rfl⟩;go_loopw [32] (fun i wr=>∃q:Nat,q≤k∧i = .int .i64 q∧RowAt wr w2.heap.size (pwIn es f k S0 q)∧Keep w2 wr) (fun i _=>k-(intOf i).toNat)
    case atStart=>exact⟨0,Nat.zero_le _,rfl,hr,hK⟩
    case round=>
     clear hr hK;obtain⟨q,hq,rfl,hr,hK⟩:=hrel;by_cases hqk:q<k
     ·
      have hfk:=hf2.keep hK;obtain⟨a',c',he',hfk⟩:=hfk;simp only[Value.slice.injEq,true_and] at he';obtain⟨rfl,rfl⟩:=he';rcases hfk with h0|⟨bf',off',he,hbf',hcf'⟩
      · exfalso;rw[h0] at hlt;simp at hlt
      simp only[Option.some.injEq,Addr.mk.injEq,and_true] at he;obtain⟨rfl,rfl⟩:=he;obtain⟨ra,hra⟩:=Int.eq_ofNat_of_zero_le (FIN.out q (by omega)).1;have hral:ra<es.length:=by have:=(FIN.out q (by omega)).2;omega
      have d2:=hcf' q (by omega);rw[hra] at d2;clear hcf';rcases re with h0|⟨be,oe,rfl,hbe,hce⟩
      · exfalso;rw[h0] at hral;simp at hral
      have AX:=(hce ra _ (evs_get hral)).keep hbe hK;have AY:=(hce rb _ (evs_get hrbl)).keep hbe hK
      have HH:Hid (((es.getD ra zE).2.2.2.1==(es.getD rb zE).2.2.2.1)=true→pwIn es f k S0 (q+1)=(pwIn es f k S0 q).set ra (gAdd ((pwIn es f k S0 q).getD ra 0) (rb:Int))):=Lib.hid (fun e=>by
       rw[pwIn,hra,hrb];unfold plE
       rw[Int.toNat_natCast,Int.toNat_natCast,if_pos e])
      have HM:Hid (((es.getD ra zE).2.2.2.1==(es.getD rb zE).2.2.2.1)=false→pwIn es f k S0 (q+1)=pwIn es f k S0 q):=Lib.hid (fun e=>by
       rw[pwIn,hra,hrb];unfold plE
       rw[Int.toNat_natCast,Int.toNat_natCast,if_neg (by rw[e];simp)])
      have hBl:=(HWI.out q hq).1.2.1;clear hce hra;generalize es.getD ra zE=ex at AX HH HM;generalize es.getD rb zE=ey at AY HH HM;obtain⟨x0,x1,x2,x3,x4,x5⟩:=ex;obtain⟨y0,y1,y2,y3,y4,y5⟩:=ey;obtain⟨A0,A1,A2,A3,A4,A5⟩:=atE AX;obtain⟨B0,B1,B2,B3,B4,B5⟩:=atE AY;clear AX AY;simp only at HH HM;generalize pwIn es f k S0 q=S at hr HH HM hBl;have n1:(0:Int)≤(q:Int):=Int.natCast_nonneg _;have n2:(q:Int)<(k:Int):=by omega
      have n3:(0:Int)≤(ra:Int):=Int.natCast_nonneg _;have n4:(ra:Int)<(es.length:Int):=by omega
      have n5:(0:Int)≤(rb:Int):=Int.natCast_nonneg _;have n6:(rb:Int)<(es.length:Int):=by omega
      have z1:be<wr.drew.heap.size:=Nat.lt_of_lt_of_le hbe hK.size;have CA:=fun u=>areAt_any u x0 x1 x2 x3 x4 x5 y0 y1 y2 y3 y4 y5
      have HO:Hid (onpE (x0,x1,x2,x3,x4,x5) (y0,y1,y2,y3,y4,y5)=(x3==y3)):=Lib.hid rfl;rw[HO.out] at CA;clear HO;cases ht:(x3==y3)
      ·
       have HE1:Hid (pwIn es f k S0 (q+1)=S):=Lib.hid (HM.out ht);rw[ht] at CA;clear HH HM ht;go_wp2
       go_region_held3 (fun w'=>w'.cell? ⟨be,oe+ra*6,none⟩=some (.int .i64 x0)∧w'.cell? ⟨be,oe+ra*6+1,none⟩=some (.int .i64 x1)∧w'.cell? ⟨be,oe+ra*6+2,none⟩=some (.bool x2)∧w'.cell? ⟨be,oe+ra*6+3,none⟩=some (.int .i64 x3)∧w'.cell? ⟨be,oe+ra*6+4,none⟩=some (.int .i64 x4)∧w'.cell? ⟨be,oe+ra*6+5,none⟩=some (.int .i64 x5)∧w'.cell? ⟨be,oe+rb*6,none⟩=some (.int .i64 y0)∧w'.cell? ⟨be,oe+rb*6+1,none⟩=some (.int .i64 y1)∧w'.cell? ⟨be,oe+rb*6+2,none⟩=some (.bool y2)∧w'.cell? ⟨be,oe+rb*6+3,none⟩=some (.int .i64 y3)∧w'.cell? ⟨be,oe+rb*6+4,none⟩=some (.int .i64 y4)∧w'.cell? ⟨be,oe+rb*6+5,none⟩=some (.int .i64 y5))
        (first|go_keep|(go_split_ands;refine⟨?_,?_,?_,?_,?_,?_,?_,?_,?_,?_,?_,?_⟩<;>(rw[kk.cell (by assumption)];assumption)))
        ((go_at_call 269;refine (CA _).mono ?_;rintro e wz ⟨rfl,kk⟩))
       all_goals
        clear A0 A1 A2 A3 A4 A5 B0 B1 B2 B3 B4 B5;go_wp2;go_roundw;case rel=>exact⟨q+1,by omega,by go_num,by rw[HE1.out];exact hr.drew.keep kk,hK.drew.trans kk⟩
        case measure=>simp[intOf];omega
      ·
       have HE1:Hid (pwIn es f k S0 (q+1)=S.set ra (gAdd (S.getD ra 0) (rb:Int))):=Lib.hid (HH.out ht);rw[ht] at CA;clear HH HM ht;go_wp2
       go_region_held3 (fun w'=>w'.cell? ⟨be,oe+ra*6,none⟩=some (.int .i64 x0)∧w'.cell? ⟨be,oe+ra*6+1,none⟩=some (.int .i64 x1)∧w'.cell? ⟨be,oe+ra*6+2,none⟩=some (.bool x2)∧w'.cell? ⟨be,oe+ra*6+3,none⟩=some (.int .i64 x3)∧w'.cell? ⟨be,oe+ra*6+4,none⟩=some (.int .i64 x4)∧w'.cell? ⟨be,oe+ra*6+5,none⟩=some (.int .i64 x5)∧w'.cell? ⟨be,oe+rb*6,none⟩=some (.int .i64 y0)∧w'.cell? ⟨be,oe+rb*6+1,none⟩=some (.int .i64 y1)∧w'.cell? ⟨be,oe+rb*6+2,none⟩=some (.bool y2)∧w'.cell? ⟨be,oe+rb*6+3,none⟩=some (.int .i64 y3)∧w'.cell? ⟨be,oe+rb*6+4,none⟩=some (.int .i64 y4)∧w'.cell? ⟨be,oe+rb*6+5,none⟩=some (.int .i64 y5))
        (first|go_keep|(go_split_ands;refine⟨?_,?_,?_,?_,?_,?_,?_,?_,?_,?_,?_,?_⟩<;>(rw[kk.cell (by assumption)];assumption)))
        ((go_at_call 269;refine (CA _).mono ?_;rintro e wz ⟨rfl,kk⟩))
       all_goals
        clear A0 A1 A2 A3 A4 A5 B0 B1 B2 B3 B4 B5;have hr5:=hr.drew.keep kk;have hK5:=hK.drew.trans kk;go_wp2_with fail
        refine (line_any _ w2.heap.size es.length es.length S ra (rb:Int) hr5 hBl hral).mono ?_;rintro e w7 ⟨rfl,R7,g7⟩;have hK7:Keep w2 w7:=hK5.grown g7 (by simp);go_wp2;go_roundw;case rel=>exact⟨q+1,by omega,by go_num,by rw[HE1.out];exact R7,hK7⟩
        case measure=>simp[intOf];omega
     ·
      obtain rfl:q=k:=by omega
      go_wp2;go_roundw;case rel=>exact⟨q+1,by omega,by go_num,by rw[HN.out];exact hr,hK⟩
      case measure=>simp[intOf];omega
   ·
    obtain rfl:k=f.length:=by omega
    have hl:=(HW.out f.length (Nat.le_refl _)).1.2.1;go_wp2;go_ret;exact⟨_,rfl,by rw[HE.out];exact .inr ⟨w2.heap.size,es.length,by rw[hl];rfl,sw,hr⟩,K2.trans hK⟩
theorem pg_zero:pgC (List.replicate 12 0)=#[.int .i64 0,.int .i64 0,.int .i64 0,.int .i64 0,.int .i64 0,.int .i64 0,.int .i64 0,.int .i64 0,.int .i64 0,.int .i64 0,.int .i64 0,.int .i64 0]:=rfl
theorem pageOf_any (w:World)(v vF vR:Value)(dss:List (List Dd))(f rows:List Int)(h:RdW w v dss)(hf:Rd w vF f)(hr:Rd w vR rows)(hcap:rows.length≤capZ vR)(hx:dss.length≤1048576)(hm:∀i,i<dss.length→(dss.getD i []).length≤1048576)(hfl:f.length≤1048576)(hrl:rows.length≤1048576):
  Calls Tryz.prog 156 #[v,.agg #[vF,vR]] w fun e w'=>e = .returned (pgV (pageB dss f rows))∧Keep w w':=by
 have CS:=fun (W:World) (kW:Keep w W)=>implSourceOk_any W v vF dss f (h.keep kW) (hf.keep kW) hx hm hfl
 have CR:=fun (W:World) (kW:Keep w W)=>implRowsOk_any W v vR dss rows (h.keep kW) (hr.keep kW) hcap hx hm hrl
 have HT:Hid (taleB dss f rows=(sourceB dss f&&rowsB dss rows)):=Lib.hid rfl;have C0:(pgC (List.replicate 12 0)).size=12:=rfl;obtain⟨aF,cF,rfl,-⟩:=id hf;obtain⟨aR,cR,rfl,-⟩:=id hr;obtain⟨W3,hW3⟩:∃W3,W3=(((w.alloc (.cells #[.slice aF f.length cF,.slice aR rows.length cR] 52)).alloc (.cells (pgC (List.replicate 12 0)) 165)).alloc (.cells (pgC (List.replicate 12 0)) 165)):=⟨_,rfl⟩;have K0:Keep w W3:=by rw[hW3];exact (((Keep.refl w).alloc _).alloc _).alloc _
 have z0:W3.heap.size=w.heap.size+3:=by rw[hW3];simp
 have c0:W3.cell? ⟨w.heap.size,0,none⟩=some (.slice aF f.length cF):=by rw[hW3];exact box_cell (((Keep.refl _).alloc _).alloc _) 0
 have c1:W3.cell? ⟨w.heap.size,1,none⟩=some (.slice aR rows.length cR):=by rw[hW3];exact box_cell (((Keep.refl _).alloc _).alloc _) 1
 have p1:Pg W3 (w.heap.size+1) (List.replicate 12 0):=by
  have:=(Pg.new (w:=w.alloc (.cells #[.slice aF f.length cF,.slice aR rows.length cR] 52)) (List.replicate 12 0)).keep ((Keep.refl _).alloc (.cells (pgC (List.replicate 12 0)) 165));rw[heap_size] at this;rw[hW3];exact this
 have p2:Pg W3 (w.heap.size+1+1) (List.replicate 12 0):=by
  have:=(Pg.new (w:=(w.alloc (.cells #[.slice aF f.length cF,.slice aR rows.length cR] 52)).alloc (.cells (pgC (List.replicate 12 0)) 165)) (List.replicate 12 0));rw[heap_size,heap_size] at this;rw[hW3];exact this
 generalize hS:sourceB dss f=S at CS HT;generalize hR:rowsB dss rows=R at CR HT;have HW:Hid (W3=(((w.alloc (.cells #[.slice aF f.length cF,.slice aR rows.length cR] 52)).alloc (.cells (pgC (List.replicate 12 0)) 165)).alloc (.cells (pgC (List.replicate 12 0)) 165))):=Lib.hid hW3;have HF:(S&&R)=false→∀(W:World),Keep W3 W→Hid (Keep w (W.setRow (w.heap.size+1) (pgC (List.replicate 12 0)))∧(W.setRow (w.heap.size+1) (pgC (List.replicate 12 0))).heap[w.heap.size+1]? = some (.cells (pgC (List.replicate 12 0)) 165 (0,0))∧pageB dss f rows=List.replicate 12 0):=fun e W kW=>Lib.hid ⟨(K0.trans kW).grown (grown_setRow _ _ _) (fun k hk=>by have:=Option.some.inj hk;omega),heap_setRow_same _ _ _ _ _ (p1.keep kW),by rw[pageB,HT.out,e];rfl⟩
 have BT:Hid (W3.heap[w.heap.size]? = some (taleC (.slice aF f.length cF) (.slice aR rows.length cR))):=Lib.hid (by rw[hW3];exact box_heap (((Keep.refl _).alloc _).alloc _));clear hW3;have B0:=Lib.hid c0;have B1:=Lib.hid c1;have P1:=Lib.hid p1;have P2:=Lib.hid p2;clear c0 c1 p1 p2;go_enter Tryz.func156,Tryz.ntmps156
 go_wp2_with fail
 rw[←pg_zero,←HW.out];refine (CS _ K0).mono ?_;rintro e w1 ⟨rfl,k1⟩;have c0:=(k1.cell (by omega)).trans B0.out;have c1:=(k1.cell (by omega)).trans B1.out;cases S
 ·
  have HF:=HF rfl _ k1;clear c0 c1;have q1:=P1.out.keep k1;have q2:=P2.out.keep k1;unfold Pg at q1 q2;go_wp2_with (first|refine wpList_load_row rfl 165 _ rfl (w.heap.size+1+1) rfl 165 _ (0,0) _ q2 Tryz.underlying165 rfl (by rw[C0];exact page_info) ?_|refine wpList_store_row rfl 165 _ _ rfl (w.heap.size+1) _ rfl rfl 165 _ q1 (by rw[C0];exact page_info) rfl (pg_one _) ?_)
  refine bodyPost_ret (results_row (by rfl) _ _ (w.heap.size+1) 165 _ (0,0) _ rfl HF.out.2.1 Tryz.underlying165 rfl (by rw[C0];exact page_info)) rfl ?_;exact⟨by rw[HF.out.2.2],HF.out.1⟩
 ·
  go_wp2_with fail
  refine (CR _ (K0.trans k1)).mono ?_;rintro e w2 ⟨rfl,k2⟩;have k12:=k1.trans k2;replace c0:=(k2.cell (by have:=k1.size;omega)).trans c0;replace c1:=(k2.cell (by have:=k1.size;omega)).trans c1;cases R
  ·
   have HF:=HF rfl _ k12;clear c0 c1;have q1:=P1.out.keep k12;have q2:=P2.out.keep k12;unfold Pg at q1 q2;go_wp2_with (first|refine wpList_load_row rfl 165 _ rfl (w.heap.size+1+1) rfl 165 _ (0,0) _ q2 Tryz.underlying165 rfl (by rw[C0];exact page_info) ?_|refine wpList_store_row rfl 165 _ _ rfl (w.heap.size+1) _ rfl rfl 165 _ q1 (by rw[C0];exact page_info) rfl (pg_one _) ?_)
   refine bodyPost_ret (results_row (by rfl) _ _ (w.heap.size+1) 165 _ (0,0) _ rfl HF.out.2.1 Tryz.underlying165 rfl (by rw[C0];exact page_info)) rfl ?_;exact⟨by rw[HF.out.2.2],HF.out.1⟩
  ·
   have hT:taleB dss f rows=true:=by rw[HT.out];rfl
   obtain⟨hx12,sl,f12,r36,-,-,ru,fu,-⟩:=page_use hT;have HE:Hid (pageB dss f rows=pgK (idxB rdE (eventsB dss)) f (sitS rows rows.length) (idxB rdE (eventsB dss)).length):=Lib.hid (by rw[pageB,if_pos hT];rfl);have RU:=Lib.hid ru;have FU:=Lib.hid fu;have SL:=Lib.hid sl;clear HF hT ru fu sl CS CR HT HW;have K2:=K0.trans k12;have q1:=P1.out.keep k12;have q2:=P2.out.keep k12;have z2:=k12.size;have BT:Hid (w2.heap[w.heap.size]? = some (taleC (.slice aF f.length cF) (.slice aR rows.length cR))):=Lib.hid ((Below.block k12 _ (by omega)).trans BT.out);have Q1:=Lib.hid q1;clear P1 P2 q1 k1 k2 k12;go_wp2;clear c0 c1;go_loopw [26] (fun i wr=>∃k:Nat,k≤rows.length∧i = .int .i64 k∧Pg wr (w.heap.size+1+1) (sitS rows k)∧w2.grownBy wr (some (w.heap.size+1+1))) (fun i _=>rows.length-(intOf i).toNat)
   case atStart=>exact⟨0,Nat.zero_le _,rfl,q2,World.grownBy.refl _ _⟩
   case round=>
    obtain⟨k,hk,rfl,hp,G⟩:=hrel;clear q2;have K3:Keep w wr:=K2.grown G (fun j hj=>by have:=Option.some.inj hj;omega);by_cases hlt:k<rows.length
    ·
     have hrk:=hr.keep K3;obtain⟨a',c',he',hrk⟩:=hrk;simp only[Value.slice.injEq,true_and] at he';obtain⟨rfl,rfl⟩:=he';rcases hrk with h0|⟨bf,off,rfl,hbf,hcf'⟩
     · exfalso;rw[h0] at hlt;simp at hlt
     obtain⟨rb,hrb⟩:=Int.eq_ofNat_of_zero_le (RU.out k hlt).1;have hrbl:rb<12:=by have:=(RU.out k hlt).2;omega
     have d1:=hcf' k hlt;rw[hrb] at d1;have HN:Hid (sitS rows (k+1)=(sitS rows k).set rb (k:Int)):=Lib.hid (by rw[sitS,hrb,Int.toNat_natCast]);have hl:(sitS rows k).length=12:=sitS_len _ _;have d2:=hp.cell (j:=rb) (by omega);have d3:=hp.free rb;generalize sitS rows k=S0 at hp HN hl d2;have i1:(0:Int)≤(k:Int):=Int.natCast_nonneg _;have i2:(k:Int)<(rows.length:Int):=by omega
     have j1:(0:Int)≤(rb:Int):=Int.natCast_nonneg _;have j2:(rb:Int)<12:=by omega
     clear hcf' hl hrb;go_wp2;go_roundw;case rel=>exact⟨k+1,by omega,by go_num,by rw[HN.out];exact hp.set rb _,grown_trans G (grown_set _ _ _ _)⟩
     case measure=>simp[intOf];omega
    ·
     obtain rfl:k=rows.length:=by omega
     go_wp2_with fail
     refine (implEventsOf_any _ _ _ (h.keep K3) hx hm).mono ?_;rintro e w4 ⟨v4,rfl,a4,k4⟩;have bt:=(G.block w.heap.size (by omega) (fun e=>by have:=Option.some.inj e;omega)).trans BT.out;have q1:=Q1.out.kept G (fun e=>by have:=Option.some.inj e;omega);have zr:=G.size;have re:=a4.rd;go_wp2_with fail
     refine (implReadsOf_any _ _ _ re (by omega)).mono ?_;rintro e w5 ⟨v5,rfl,o5,k5⟩;have K5:=(K3.trans k4).trans k5;have k45:=k4.trans k5;replace bt:=(Below.block k45 _ (by omega)).trans bt;replace q1:=q1.keep k45;replace hp:=hp.keep k45;have z4:=k4.size;have hB:w.heap.size+1+1<w4.heap.size:=by omega
     have z5:=k5.size;clear re a4 k4 k5 k45 G BT Q1 K3 K2 hr hcap;generalize eventsB dss=es at *;generalize idxB rdE es=rs at *;have HS:Hid (∀k,(pgK rs f (sitS rows rows.length) k).length=12):=Lib.hid (fun k=>by rw[pgK_len,sitS_len]);obtain⟨a5,c5,rfl,-⟩:=o5.rd;have R12:rs.length≤12:=by rw[SL.out];exact f12
     go_wp2;go_loopw [39] (fun i wr=>∃k:Nat,k≤rs.length∧i = .int .i64 k∧Pg wr (w.heap.size+1+1) (pgK rs f (sitS rows rows.length) k)∧w5.grownBy wr (some (w.heap.size+1+1))) (fun i _=>rs.length-(intOf i).toNat)
     case atStart=>exact⟨0,Nat.zero_le _,rfl,hp,World.grownBy.refl _ _⟩
     case round=>
      clear hp;obtain⟨k,hk,rfl,hp,G⟩:=hrel;have K6:Keep w wr:=K5.grown G (fun j hj=>by have:=Option.some.inj hj;omega);by_cases hlt:k<rs.length
      ·
       have hlf:k<f.length:=by rw[←SL.out];exact hlt
       have hrk:=(o5.other hB G).rd;obtain⟨a',c',he',hrk⟩:=hrk;simp only[Value.slice.injEq,true_and] at he';obtain⟨rfl,rfl⟩:=he';rcases hrk with h0|⟨bf,off,rfl,hbf,hcf'⟩
       · exfalso;rw[h0] at hlt;simp at hlt
       have hfk:=hf.keep K6;obtain⟨a',c',he',hfk⟩:=hfk;simp only[Value.slice.injEq,true_and] at he';obtain⟨rfl,rfl⟩:=he';rcases hfk with h0|⟨bg,oft,rfl,hbg,hcg'⟩
       · exfalso;rw[h0] at hlf;simp at hlf
       have bk:=(G.block w.heap.size (by omega) (fun e=>by have:=Option.some.inj e;omega)).trans bt;have c0:wr.cell? ⟨w.heap.size,0,none⟩=some _:=cell_of_row _ _ 0 _ _ (0,0) bk;obtain⟨⟨f0,f1⟩,⟨r0,r1⟩,-⟩:=FU.out k hlf;obtain⟨rb,hrb⟩:=Int.eq_ofNat_of_zero_le r0;obtain⟨fb,hfb⟩:=Int.eq_ofNat_of_zero_le f0;have hrbl:rb<12:=by omega
       have hfbl:fb<12:=by omega
       have d1:=hcf' k hlt;rw[hrb] at d1;have e1:=hcg' k hlf;rw[hfb] at e1;have HN:Hid (pgK rs f (sitS rows rows.length) (k+1)=(pgK rs f (sitS rows rows.length) k).set rb ((pgK rs f (sitS rows rows.length) k).getD fb 0)):=Lib.hid (by rw[pgK,hrb,hfb,Int.toNat_natCast,Int.toNat_natCast]);have hl:=HS.out k;have d2:=hp.cell (j:=rb) (by omega);have d3:=hp.free rb;have d4:=hp.cell (j:=fb) (by omega);generalize pgK rs f (sitS rows rows.length) k=S0 at hp HN hl d2 d4;have i1:(0:Int)≤(k:Int):=Int.natCast_nonneg _;have i2:(k:Int)<(rs.length:Int):=by omega
       have i3:(k:Int)<(f.length:Int):=by omega
       have j1:(0:Int)≤(rb:Int):=Int.natCast_nonneg _;have j2:(rb:Int)<12:=by omega
       have l1:(0:Int)≤(fb:Int):=Int.natCast_nonneg _;have l2:(fb:Int)<12:=by omega
       clear hcf' hcg' hl hrb hfb f0 f1 r0 r1 bk bt q1;go_wp2;go_roundw;case rel=>exact⟨k+1,by omega,by go_num,by rw[HN.out];exact hp.set rb _,grown_trans G (grown_set _ _ _ _)⟩
       case measure=>simp[intOf];omega
      ·
       obtain rfl:k=rs.length:=by omega
       have q3:=q1.kept G (fun e=>by have:=Option.some.inj e;omega);have hl:=HS.out rs.length;rw[←HE.out] at hl hp;have PS:=pg_size hl;have PI:(Tryz.prog.info? 165).map (·.size)=some (pgC (pageB dss f rows)).size:=by rw[PS];exact page_info
       have HF:Hid (Keep w (wr.setRow (w.heap.size+1) (pgC (pageB dss f rows)))∧(wr.setRow (w.heap.size+1) (pgC (pageB dss f rows))).heap[w.heap.size+1]? = some (.cells (pgC (pageB dss f rows)) 165 (0,0))):=Lib.hid ⟨K6.grown (grown_setRow _ _ _) (fun k hk=>by have:=Option.some.inj hk;omega),heap_setRow_same _ _ _ _ _ q3⟩;have HO:Hid ((pgC (List.replicate 12 0)).size=(pgC (pageB dss f rows)).size):=Lib.hid (by rw[PS];rfl);have HI:=Lib.hid PI;have HP:=Lib.hid (pg_one (pageB dss f rows));clear PI PS hl HE HS bt q1;unfold Pg at hp q3;obtain⟨P,hP⟩:∃P,P=pgC (pageB dss f rows):=⟨_,rfl⟩;rw[←hP] at hp HI HF HO HP;have HQ:=Lib.hid hP;clear hP;go_wp2_with (first|refine wpList_load_row rfl 165 _ rfl (w.heap.size+1+1) rfl 165 _ (0,0) _ hp Tryz.underlying165 rfl HI.out ?_|refine wpList_store_row rfl 165 _ _ rfl (w.heap.size+1) _ rfl rfl 165 _ q3 HI.out HO.out HP.out ?_)
       refine bodyPost_ret (results_row (by rfl) _ _ (w.heap.size+1) 165 _ (0,0) _ rfl HF.out.2 Tryz.underlying165 rfl HI.out) rfl ?_;exact⟨by rw[HQ.out],HF.out.1⟩
theorem idx_top {es:List Ev}(hx:es.length≤12)(t:Ev→Bool):(idxB t es).length≤12:=by
 unfold idxB;rw[if_pos hx];have:=idxK_len t es es.length;omega
theorem implAgainstWeb_any (w:World)(v vF vR:Value)(dss:List (List Dd))(f rows:List Int)(h:RdW w v dss)(hf:Rd w vF f)(hr:Rd w vR rows)(hcap:rows.length≤capZ vR)(hx:dss.length≤1048576)(hm:∀i,i<dss.length→(dss.getD i []).length≤1048576)(hfl:f.length≤1048576)(hrl:rows.length≤1048576):
  Calls Tryz.prog 220 #[v,.agg #[vF,vR]] w fun e w'=>∃v',e = .returned v'∧Row w' w.heap.size v' (agB dss f rows)∧Keep w w':=by
 have C:=fun (W:World) (kW:Keep w W)=>pageOf_any W v vF vR dss f rows (h.keep kW) (hf.keep kW) (hr.keep kW) hcap hx hm hfl hrl
 have CB:=fun (W:World)=>isBlank_any W (pageB dss f rows) (pageB_len dss f rows)
 rw[page_blank] at CB;have hPl:=pageB_len dss f rows;have HP:taleB dss f rows=true→Hid (pageB dss f rows=pageL (eventsB dss) f rows):=fun e=>Lib.hid (by rw[pageB,if_pos e])
 obtain⟨P,hP⟩:∃P,P=pageB dss f rows:=⟨_,rfl⟩;rw[←hP] at C CB hPl HP;clear hP;obtain⟨aF,cF,rfl,-⟩:=hf;obtain⟨aR,cR,rfl,-⟩:=hr;have PI:(Tryz.prog.info? 165).map (·.size)=some (pgC P).size:=by rw[pg_size hPl];exact page_info
 have HI:=Lib.hid PI;have HO:Hid ((pgC (List.replicate 12 0)).size=(pgC P).size):=Lib.hid (by rw[pg_size hPl];rfl);have H1:=Lib.hid (pg_one P);clear PI;go_enter Tryz.func220,Tryz.ntmps220
 go_wp2_with fail
 refine (C _ ((Keep.refl w).alloc _)).mono ?_;rintro e w1 ⟨rfl,k1⟩;have K1:=((Keep.refl w).alloc _).trans k1;have hz:=Pg.new (w:=w1) (List.replicate 12 0);have h1:((w1.alloc (.cells (pgC (List.replicate 12 0)) 165)).setRow w1.heap.size (pgC P)).heap[w1.heap.size]? = some (.cells (pgC P) 165 (0,0)):=heap_setRow_same _ _ _ _ _ hz;have k2:Keep w1 ((w1.alloc (.cells (pgC (List.replicate 12 0)) 165)).setRow w1.heap.size (pgC P)):=((Keep.refl w1).alloc _).grown (grown_setRow _ _ _) (fun k hk=>by have:=Option.some.inj hk;omega);clear k1 C;unfold Pg at hz;go_wp2_with (first|refine wpList_store_row rfl 165 _ _ rfl w1.heap.size _ rfl rfl 165 _ hz HI.out HO.out H1.out ?_|refine wpList_load_row rfl 165 _ rfl w1.heap.size rfl 165 _ (0,0) _ h1 Tryz.underlying165 rfl HI.out ?_|fail)
 have HH:=Lib.hid h1;have z1:w1.heap.size<((w1.alloc (.cells (pgC (List.replicate 12 0)) 165)).setRow w1.heap.size (pgC P)).heap.size:=by simp
 refine (CB _).mono ?_;rintro e w2 ⟨rfl,k3⟩;have K2:=(K1.trans k2).trans k3;have s1:=K1.size;have pg:Pg w2 w1.heap.size P:=(Below.block k3 _ z1).trans HH.out;clear hz h1 k2 k3 z1 HH HI HO H1 CB;cases hb:taleB dss f rows
 ·
  have HE:Hid (agB dss f rows=[]):=Lib.hid (by rw[agB,hb];rfl);have s2:=K2.size;clear hb HP;go_wp2;go_ret;exact⟨_,rfl,by rw[HE.out];exact (row_empty w2 _).base_le s2,K2.alloc _⟩
 ·
  have HP:=HP hb;obtain⟨h12,sl,f12,-,-,-,-,fu,-⟩:=page_use hb;have fin:∀i,i<(idxB rdE (eventsB dss)).length→0≤(idxB rdE (eventsB dss)).getD i 0∧(idxB rdE (eventsB dss)).getD i 0<((eventsB dss).length:Int):=fun i hi=>(fu i (by omega)).2.1
  have HE:Hid (agB dss f rows=agO (eventsB dss) P (idxB rdE (eventsB dss)) (idxB rdE (eventsB dss)).length):=Lib.hid (by rw[HP.out,ag_same hb]);have HWO:=Lib.hid (web_agO (p:=P) h12 fin);have HWI:=Lib.hid (fun (r:Nat) (p0:Int) (st:List Int) hr hst=>web_agI (p:=P) (ws:=idxB (toE p0) (eventsB dss)) (n:=(eventsB dss).length) (r:=r) (st:=st) (fun j hj=>(idx_all h12 (get_mem hj)).1) hr hst);have FIN:=Lib.hid fin;have WIN:=Lib.hid (fun (p0:Int) (j:Nat) (hj:j<(idxB (toE p0) (eventsB dss)).length)=>(idx_all h12 (get_mem hj)).1);have R12:(idxB rdE (eventsB dss)).length≤12:=by omega
  clear fin fu sl f12 hb HP;go_wp2_with fail
  refine (implEventsOf_any _ _ _ (h.keep K2) hx hm).mono ?_;rintro e w3 ⟨v3,rfl,a3,k3⟩;have s3:=k3.size;have s2:=K2.size;replace pg:=pg.keep k3;have re:=a3.rd;have K3:=K2.trans k3;generalize eventsB dss=es at *;obtain⟨ae,ce,rfl,re'⟩:=id re;go_wp2_with fail
  refine (blank_any _ _ h12).mono ?_;rintro e w4 ⟨rfl,rb,k4⟩;have s4:=rb.lt;go_wp2_with fail
  refine (implReadsOf_any _ _ _ (re.keep k4) (by omega)).mono ?_;rintro e w5 ⟨v5,rfl,o5,k5⟩;have s5:=k5.size;replace rb:=rb.keep k5;have k35:=k4.trans k5;obtain⟨a5,c5,rfl,-⟩:=o5.rd;generalize idxB rdE es=rs at *;clear a3 k4 k5 K1 K2 k3 h hx hm hcap;have pl:=pg.lt;go_wp2;go_loopw [26] (fun i wr=>∃k:Nat,k≤rs.length∧i = .int .i64 k∧RowAt wr w3.heap.size (agO es P rs k)∧w5.grownBy wr (some w3.heap.size)) (fun i _=>rs.length-(intOf i).toNat)
  case atStart=>exact⟨0,Nat.zero_le _,rfl,rb,World.grownBy.refl _ _⟩
  case round=>
   obtain⟨k,hk,rfl,hr,G⟩:=hrel;clear rb;have kr:Keep w3 wr:=k35.grown G (fun j hj=>by have:=Option.some.inj hj;omega);by_cases hlt:k<rs.length
   ·
    have hrk:=(o5.other (by omega) G).rd;obtain⟨a',c',he',hrk⟩:=hrk;simp only[Value.slice.injEq,true_and] at he';obtain⟨rfl,rfl⟩:=he';rcases hrk with h0|⟨bf,off,rfl,hbf,hcf'⟩
    · exfalso;rw[h0] at hlt;simp at hlt
    obtain⟨ra,hra⟩:=Int.eq_ofNat_of_zero_le (FIN.out k hlt).1;have hral:ra<es.length:=by have:=(FIN.out k hlt).2;omega
    have d1:=hcf' k hlt;rw[hra] at d1;clear hcf';rcases re' with h0|⟨be,oe,rfl,hbe,hce⟩
    · exfalso;rw[h0] at hral;simp at hral
    have AX:=(hce ra _ (evs_get hral)).keep hbe kr;have CW:=fun (W:World) (kW:Keep w3 W)=>implWritesTo_any W _ es (re.keep kW) (by omega) (es.getD ra zE).2.2.2.1
    have HN:Hid (agO es P rs (k+1)=agI P ra (idxB (toE (es.getD ra zE).2.2.2.1) es) (agO es P rs k) (idxB (toE (es.getD ra zE).2.2.2.1) es).length):=Lib.hid (by rw[agO,hra];unfold plE;rw[Int.toNat_natCast]);have HX:=Lib.hid (HWI.out ra (es.getD ra zE).2.2.2.1 (agO es P rs k) hral (HWO.out k hk).1);have HW:=Lib.hid (WIN.out (es.getD ra zE).2.2.2.1);generalize agO es P rs k=S0 at hr HN HX;generalize es.getD ra zE=ex at AX CW HN HX HW;obtain⟨x0,x1,x2,x3,x4,x5⟩:=ex;obtain⟨A0,A1,A2,A3,A4,A5⟩:=atE AX;simp only at CW HN HX HW A3;clear AX hce A0 A1 A2 A4 A5 hra;have i1:(0:Int)≤(k:Int):=Int.natCast_nonneg _;have i2:(k:Int)<(rs.length:Int):=by omega
    have i3:(0:Int)≤(ra:Int):=Int.natCast_nonneg _;have i4:(ra:Int)<(es.length:Int):=by omega
    go_wp2_with fail
    refine (CW _ kr).mono ?_;rintro e w6 ⟨v6,rfl,o6,k6⟩;clear CW d1 A3;have W12:=idx_top h12 (toE x3);generalize idxB (toE x3) es=ws at *;obtain⟨a6,c6,rfl,-⟩:=o6.rd;replace hr:=hr.keep k6;have kr6:=kr.trans k6;have sr:=G.size;have G6:w5.grownBy w6 (some w3.heap.size):=grown_trans G ⟨Below.os k6,Below.tape k6,Below.output k6,Below.size k6,fun i hi _=>Below.block k6 i hi⟩;clear kr G;go_wp2;go_loopw [38] (fun i wq=>∃q:Nat,q≤ws.length∧i = .int .i64 q∧RowAt wq w3.heap.size (agI P ra ws S0 q)∧w6.grownBy wq (some w3.heap.size)) (fun i _=>ws.length-(intOf i).toNat)
    case atStart=>exact⟨0,Nat.zero_le _,rfl,hr,World.grownBy.refl _ _⟩
    case round=>
     clear hr;obtain⟨q,hq,rfl,hr,Gq⟩:=hrel;have kq:Keep w3 wr:=kr6.grown Gq (fun j hj=>by have:=Option.some.inj hj;omega);by_cases hqk:q<ws.length
     ·
      have hrk:=(o6.other (by omega) Gq).rd;obtain⟨a',c',he',hrk⟩:=hrk;simp only[Value.slice.injEq,true_and] at he';obtain⟨rfl,rfl⟩:=he';rcases hrk with h0|⟨bg,ofg,rfl,hbg,hcg'⟩
      · exfalso;rw[h0] at hqk;simp at hqk
      obtain⟨rb,hrb⟩:=Int.eq_ofNat_of_zero_le (HW.out q hqk).1;have hrbl:rb<es.length:=by have:=(HW.out q hqk).2;omega
      have d2:=hcg' q hqk;rw[hrb] at d2;have pq:=pg.keep kq;have p1:=pq.cell (j:=ra) (by omega);have p2:=pq.cell (j:=rb) (by omega);have hBl:=(HX.out q hq).1.2.1;have HY:P.getD ra 0<P.getD rb 0→Hid (agI P ra ws S0 (q+1)=(agI P ra ws S0 q).set ra (gAdd ((agI P ra ws S0 q).getD ra 0) (rb:Int))):=fun e=>Lib.hid (by rw[agI,hrb,Int.toNat_natCast,if_pos (decide_eq_true e)])
      have HM:¬P.getD ra 0<P.getD rb 0→Hid (agI P ra ws S0 (q+1)=agI P ra ws S0 q):=fun e=>Lib.hid (by rw[agI,hrb,Int.toNat_natCast,if_neg (by simpa using e)])
      clear hcg' hrb;generalize agI P ra ws S0 q=S at hr HY HM hBl;generalize P.getD ra 0=pa at p1 HY HM;generalize P.getD rb 0=pb at p2 HY HM;have n1:(0:Int)≤(q:Int):=Int.natCast_nonneg _;have n2:(q:Int)<(ws.length:Int):=by omega
      have n3:(0:Int)≤(rb:Int):=Int.natCast_nonneg _;have n4:(rb:Int)<12:=by omega
      have n5:(ra:Int)<12:=by omega
      have n6:(0:Int)≤(ra:Int):=Int.natCast_nonneg _;by_cases hp:pa<pb
      ·
       have HE1:=HY hp;clear HY HM;go_wp2;go_quiet (fail)
       clear p1 p2 d2;go_wp2_with fail
       refine (line_any _ w3.heap.size es.length es.length S ra (rb:Int) (hr.drewN _) hBl hral).mono ?_;rintro e w7 ⟨rfl,R7,g7⟩;have G7:=grown_trans (grown_trans Gq (grown_draw wr _ _)) g7;go_wp2;go_roundw;case rel=>exact⟨q+1,by omega,by go_num,by rw[HE1.out];exact R7,G7⟩
       case measure=>simp[intOf];omega
      ·
       have HE1:=HM hp;have hp':pb≤pa:=by omega
       clear HY HM;go_wp2;go_quiet (fail)
       clear p1 p2 d2;go_wp2;go_roundw;case rel=>exact⟨q+1,by omega,by go_num,by rw[HE1.out];exact hr.drewN _,grown_trans Gq (grown_draw wr _ _)⟩
       case measure=>simp[intOf];omega
     ·
      obtain rfl:q=ws.length:=by omega
      go_wp2;go_roundw;case rel=>exact⟨k+1,by omega,by go_num,by rw[HN.out];exact hr,grown_trans G6 Gq⟩
      case measure=>simp[intOf];omega
   ·
    obtain rfl:k=rs.length:=by omega
    have hl:=(HWO.out rs.length (Nat.le_refl _)).1.2.1;go_wp2;go_ret;exact⟨_,rfl,by rw[HE.out];exact .inr ⟨w3.heap.size,es.length,by rw[hl];rfl,by omega,hr⟩,K3.trans kr⟩
theorem xw_chain (dss:List (List Dd))(f rows:List Int):chnL (behL (eventsB dss)) (fwB dss f) (rwB dss rows) (agB dss f rows)=xwB dss f rows:=by
 cases hb:taleB dss f rows with
 |false=>
  rw[xwB,agB,hb];exact mix_none _ _
 |true=>
  obtain⟨hw,hs,hr⟩:=tale_use hb;have h12:=(events_law hw).1;have e1:eventsB dss=evsW dss dss.length:=by rw[eventsB,if_pos hw]
  rw[←e1] at h12;have W:=webs_of h12 hs hr;have hb2:=hb;unfold taleB at hb2;rw[Bool.and_eq_true] at hb2;rw[xwB,agB,if_pos hb,if_pos hb,fwB,if_pos hb2.1,rwB,if_pos hb2.2];exact web_chn (beh_line h12).1 W.fw W.rw' W.ag
theorem quickAhead_any (w:World)(v:Value)(dss:List (List Dd))(h:RdW w v dss)(hx:dss.length≤1048576)(hm:∀i,i<dss.length→(dss.getD i []).length≤1048576):
  Calls Tryz.prog 322 #[.agg #[],v] w fun e w'=>∃v',e = .returned v'∧Row w' w.heap.size v' (behL (eventsB dss))∧Keep w w':=by
 go_enter Tryz.func322,Tryz.ntmps322
 go_wp2_with fail
 refine (implBehind_any _ v dss (h.keep ((Keep.refl w).alloc (.cells #[] 129))) hx hm).mono ?_;rintro e w1 ⟨v',rfl,o,k⟩;have K:=(((Keep.refl w).alloc (.cells #[] 129))).trans k;have O:=o.base_le (((Keep.refl w).alloc (.cells #[] 129))).size;clear o k;obtain⟨a,c,rfl,-⟩:=id O.rd;go_wp2;go_ret;exact⟨_,rfl,O,K⟩
@[go_sem] theorem quickHas (v:Value) (w:World):(Instr.typeAssert (.iface 129 v) 162 254 true).run Tryz.prog w = .ok (.tuple #[.nilIface,.bool false]) w:=run_typeAssert_lacksB Tryz.underlying254 (by kernel_rfl) (by kernel_rfl) v 162 w
theorem quickIn_any (w:World)(v vF:Value)(dss:List (List Dd))(f:List Int)(h:RdW w v dss)(hf:Rd w vF f)(hx:dss.length≤1048576)(hm:∀i,i<dss.length→(dss.getD i []).length≤1048576)(hfl:f.length≤1048576):
  Calls Tryz.prog 218 #[.iface 129 (.agg #[]),v,vF] w fun e w'=>∃v',e = .returned v'∧Row w' w.heap.size v' (fwB dss f)∧Keep w w':=by
 go_enter Tryz.func218,Tryz.ntmps218
 go_wp2_with fail
 refine (implFromWeb_any w v vF dss f h hf hx hm hfl).mono ?_;rintro e w1 ⟨v',rfl,o,k⟩;have K:=((Keep.refl w)).trans k;have O:=o.base_le ((Keep.refl w)).size;clear o k;obtain⟨a,c,rfl,-⟩:=id O.rd;go_wp2;go_ret;exact⟨_,rfl,O,K⟩
theorem quickWeb_any (w:World)(v vF vR:Value)(dss:List (List Dd))(f rows:List Int)(h:RdW w v dss)(hf:Rd w vF f)(hr:Rd w vR rows)(hcap:rows.length≤capZ vR)(hx:dss.length≤1048576)(hm:∀i,i<dss.length→(dss.getD i []).length≤1048576)(hfl:f.length≤1048576)(hrl:rows.length≤1048576):
  Calls Tryz.prog 154 #[.iface 129 (.agg #[]),v,.agg #[vF,vR]] w fun e w'=>∃v',e = .returned v'∧Row w' w.heap.size v' (xwB dss f rows)∧Keep w w':=by
 have C1:=Lib.hid (fun (W:World) (kW:Keep w W)=>quickAhead_any W v dss (h.keep kW) hx hm);have C2:=Lib.hid (fun (W:World) (kW:Keep w W)=>quickIn_any W v vF dss f (h.keep kW) (hf.keep kW) hx hm hfl);have C3:=Lib.hid (fun (W:World) (kW:Keep w W)=>implRowWeb_any W v vR dss rows (h.keep kW) (hr.keep kW) hcap hx hm hrl);have C4:=Lib.hid (fun (W:World) (kW:Keep w W)=>implAgainstWeb_any W v vF vR dss f rows (h.keep kW) (hf.keep kW) (hr.keep kW) hcap hx hm hfl hrl);have HE:=Lib.hid (xw_chain dss f rows)
 have lA:(behL (eventsB dss)).length≤1048576:=by
  have h9:=eventsB_len9 dss;have:=(beh_line (es:=eventsB dss) (by omega)).1.2.1;omega
 have lF:(fwB dss f).length≤1048576:=by have:=fwB_len dss f;omega
 have lR:(rwB dss rows).length≤1048576:=by have:=rwB_len dss rows;omega
 have lG:(agB dss f rows).length≤1048576:=by have:=agB_len dss f rows;omega
 generalize xwB dss f rows=L at *;generalize behL (eventsB dss)=L1 at *;generalize fwB dss f=L2 at *;generalize rwB dss rows=L3 at *;generalize agB dss f rows=L4 at *;clear h hcap hx hm hfl hrl;obtain⟨aF,cF,rfl,-⟩:=hf;obtain⟨aR,cR,rfl,-⟩:=hr;go_enter Tryz.func154,Tryz.ntmps154
 have b0:(w.alloc (.cells #[.slice aF f.length cF,.slice aR rows.length cR] 52)).cell? ⟨w.heap.size,0,none⟩=some (.slice aF f.length cF):=box_cell (Keep.refl _) 0;have b1:(w.alloc (.cells #[.slice aF f.length cF,.slice aR rows.length cR] 52)).cell? ⟨w.heap.size,1,none⟩=some (.slice aR rows.length cR):=box_cell (Keep.refl _) 1;have K0:Keep w (w.alloc (.cells #[.slice aF f.length cF,.slice aR rows.length cR] 52)).drew:=((Keep.refl w).alloc _).drew;have z0:w.heap.size<(w.alloc (.cells #[.slice aF f.length cF,.slice aR rows.length cR] 52)).drew.heap.size:=by simp
 go_wp2_with fail
 go_cut [7] from 8 (fun s wx=>∃u1 u2 u3 u4:Value,∃w9:World,s = .slice (some ⟨w9.heap.size,0,none⟩) 4 4∧wx=w9.alloc (.cells #[u1,u2,u3,u4] 50)∧Rd w9 u1 L1∧Rd w9 u2 L2∧Rd w9 u3 L3∧Rd w9 u4 L4∧Keep w w9)
 case first=>
  go_region_held3 (fun w'=>w'.cell? ⟨w.heap.size,0,none⟩=some (.slice aF f.length cF)∧w'.cell? ⟨w.heap.size,1,none⟩=some (.slice aR rows.length cR))
   (first|go_keep|(go_split_ands;refine⟨?_,?_⟩<;>(rw[kk.cell (by assumption)];assumption)))
   ((first
    | (go_at_call 322;refine (C1.out _ K0).mono ?_;rintro e w1 ⟨v1,rfl,o1,kk⟩;have z1:w.heap.size<w1.heap.size:=Nat.lt_of_lt_of_le z0 kk.size;have K1:=K0.trans kk;have r1:=o1.rd;clear o1;obtain⟨a1,c1,rfl,-⟩:=id r1)
    | (go_at_call 218;refine (C2.out _ K1).mono ?_;clear kk;rintro e w2 ⟨v2,rfl,o2,kk⟩;have z2:w.heap.size<w2.heap.size:=Nat.lt_of_lt_of_le z1 kk.size;have K2:=K1.trans kk;have r2:=o2.rd;replace r1:=r1.keep kk;clear o2;obtain⟨a2,c2,rfl,-⟩:=id r2)
    | (go_at_call 219;refine (C3.out _ K2).mono ?_;clear kk;rintro e w3 ⟨v3,rfl,o3,kk⟩;have z3:w.heap.size<w3.heap.size:=Nat.lt_of_lt_of_le z2 kk.size;have K3:=K2.trans kk;have r3:=o3.rd;replace r1:=r1.keep kk;replace r2:=r2.keep kk;clear o3;obtain⟨a3,c3,rfl,-⟩:=id r3)
    | (go_at_call 220;refine (C4.out _ K3).mono ?_;clear kk;rintro e w4 ⟨v4,rfl,o4,kk⟩;have z4:w.heap.size<w4.heap.size:=Nat.lt_of_lt_of_le z3 kk.size;have K4:=K3.trans kk;have r4:=o4.rd;replace r1:=r1.keep kk;replace r2:=r2.keep kk;replace r3:=r3.keep kk;clear o4;obtain⟨a4,c4,rfl,-⟩:=id r4)))
  all_goals
   go_wp2;go_meet;case rel=>exact⟨_,_,_,_,w4,rfl,rfl,r1,r2,r3,r4,K4⟩
 case rest=>
  obtain⟨u1,u2,u3,u4,w9,rfl,rfl,r1,r2,r3,r4,K9⟩:=hcut;have k9:Keep w9 (w9.alloc (.cells #[u1,u2,u3,u4] 50)):=(Keep.refl w9).alloc _;have C:=toOne_four _ w9.heap.size u1 u2 u3 u4 L1 L2 L3 L4 (heap_alloc_new w9 _) (r1.keep k9) (r2.keep k9) (r3.keep k9) (r4.keep k9) lA lF lR lG;have b9:w.heap.size≤(w9.alloc (.cells #[u1,u2,u3,u4] 50)).heap.size:=(K9.trans k9).size;rw[HE.out] at C;go_wp2_with fail
  refine C.mono ?_;rintro e wa ⟨va,rfl,oa,ka⟩;have KA:=(K9.trans k9).trans ka;have OA:=oa.base_le b9;clear oa ka C;obtain⟨aa,ca,rfl,-⟩:=id OA.rd;go_wp2;go_ret;exact⟨_,rfl,OA,KA⟩
theorem pass_at (w:World)(g:Nat)(x0 x1:Int)(x2:Bool)(x3 x4 x5 y0 y1:Int)(y2:Bool)(y3 y4 y5:Int)(hg:w.cell? ⟨g,0,none⟩=some (.func (Fn.func 269) #[] #[])):
  Calls Tryz.prog 292 #[eA x0 x1 x2 x3 x4 x5,eA y0 y1 y2 y3 y4 y5,.slice (some ⟨g,0,none⟩) 1 1] w fun e w'=>e = .returned (.bool (onpE (x0,x1,x2,x3,x4,x5) (y0,y1,y2,y3,y4,y5)))∧Keep w w':=by
 have hgl:=block_lt hg;have C:=fun (w1:World) (_:Keep w w1)=>areAt_any w1 x0 x1 x2 x3 x4 x5 y0 y1 y2 y3 y4 y5
 generalize onpE (x0,x1,x2,x3,x4,x5) (y0,y1,y2,y3,y4,y5)=B at C ⊢;have C2:=C _ (((Keep.refl w).alloc (.cells #[.int .i64 x0,.int .i64 x1,.bool x2,.int .i64 x3,.int .i64 x4,.int .i64 x5] 85)).alloc (.cells #[.int .i64 y0,.int .i64 y1,.bool y2,.int .i64 y3,.int .i64 y4,.int .i64 y5] 85));clear C;go_enter Tryz.func292,Tryz.ntmps292
 go_wp2_with fail
 refine wp_loop_rounds 2 ?_;rw[rounds_succ];go_wp2_with fail
 refine C2.mono ?_;rintro e w1 ⟨rfl,k1⟩;have K:=(((Keep.refl w).alloc _).alloc _).trans k1;cases B
 ·
  go_wp2;go_ret;exact⟨rfl,K⟩
 ·
  go_wp2;rw[rounds_succ];go_wp2;go_ret;exact⟨rfl,K⟩
theorem col_plc (dss:List (List Dd)):colAll (tQ onpE (eventsB dss)) (eventsB dss).length (eventsB dss).length=plcL (eventsB dss):=by
 cases hb:workB dss with
 |false=>rw[eventsB,hb];rfl
 |true=>rw[eventsB,if_pos hb,←plc_same hb]
theorem implAtOnePlace_any (w:World)(v:Value)(dss:List (List Dd))(h:RdW w v dss)(hx:dss.length≤1048576)(hm:∀i,i<dss.length→(dss.getD i []).length≤1048576):
  Calls Tryz.prog 259 #[v] w fun e w'=>∃v',e = .returned v'∧Row w' w.heap.size v' (plcL (eventsB dss))∧Keep w w':=by
 have C:=fun (w0:World) (k0:Keep w w0) (g:Nat) (hg:w0.cell? ⟨g,0,none⟩=some (.func (Fn.func 269) #[] #[]))=>
  linesOf_any w0 v (.slice (some ⟨g,0,none⟩) 1 1) dss onpE (h.keep k0) hx hm (fun i j _ _ x0 x1 x2 x3 x4 x5 y0 y1 y2 y3 y4 y5 _ _ _ w1 k1=>pass_at w1 g x0 x1 x2 x3 x4 x5 y0 y1 y2 y3 y4 y5 ((k1.cell (block_lt hg)).trans hg))
 rw[col_plc] at C;go_enter Tryz.func259,Tryz.ntmps259
 go_wp2_with fail
 refine (C _ ((Keep.refl w).alloc _) _ ?_).mono ?_
 · simp
 rintro e w1 ⟨v1,rfl,r1,k1⟩;go_wp2;go_ret;exact⟨_,rfl,r1.base_le (by rw[heap_size];omega),((Keep.refl w).alloc _).trans k1⟩
end Go.Proofs.YtkmjmnljkidobaaGreat
