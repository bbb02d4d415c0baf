/- At every list of lists of deeds and every pair of lists of numbers the program's Judged answers as the specification's does: the law FnExactJudged answers true and its arguments stay. -/
import Derived.Test.YtflehmepjhikcaaGreatDoorRows
import Derived.Test.YtflehmepjhikcaaGreatDoorTie
import Derived.Test.YtflehmepjhikcaaGreatDoorCards
import Derived.SevenTiedAt
import Derived.LaidMore
import Derived.Stop.Joined
import Derived.Stop.LaidErr
import Derived.HandedShaped
import Derived.Shelf.Vars
import Derived.WalkKit
import Derived.ProofKit
import Derived.OpenShut
import Derived.ShutString
import Derived.ChangeOld
import Derived.Below
import Derived.Test.YtflehmepjhikcaaGreatDoorMZ
import Derived.Test.YtflehmepjhikcaaGreatDoorMX
import Derived.Test.YtflehmepjhikcaaGreatDoorMW
import Derived.Test.YtflehmepjhikcaaGreatDoorMO
import Derived.Test.YtflehmepjhikcaaGreatDoorMF
import Derived.Test.YtflehmepjhikcaaGreatDoorMY
import Derived.Test.YtflehmepjhikcaaGreatDoorNA
import Derived.Deep.Cut
import Derived.Deep.RegionHeld3
namespace Go.Proofs.YtflehmepjhikcaaGreatDoor.fnExactJudged
open Go.ChangeShapes Go.WideShapes Go.ChangeAt Go.RowKit
open Go.ChangeMaps (open_string shut_string)
set_option linter.unusedVariables false
theorem own:ownKnob Tryz.prog.godebug=none:=by kernel_rfl
theorem laidOut:laidOutB Tryz.prog=true:=by kernel_rfl
set_option maxRecDepth 100000 in
set_option maxHeartbeats 8000000 in
theorem walk (v:Value)(AA:List (List Dd))(vF vR:Value)(f rows:List Int)(w:World)(hr:Fw w v AA)(hl:AA.length<=maxLen)(hls:∀i,i<AA.length->(AA.getD i []).length<=maxLen)(hf:Rd w vF f)(hq:Rd w vR rows)(lf:f.length<=maxLen)(lr:rows.length<=maxLen)(hno:∃a,w.cell? ⟨0,0,none⟩=some (.iface 234 (.pointer (some a))))(hnx:∃a,w.cell? ⟨2,0,none⟩=some (.iface 234 (.pointer (some a))))(hun:∃a,w.cell? ⟨3,0,none⟩=some (.iface 234 (.pointer (some a))))(jP:w.cell? ⟨1,0,none⟩=some (.iface 138 (.agg #[.pointer (some ⟨4,57,none⟩)]))):
  Calls Tryz.prog 4 #[v,.agg #[vF,vR]] w fun e w'=>e = .returned (.bool true)/\Below w.heap.size w w':=by
 obtain⟨eA,hno⟩:=hno;obtain⟨eB,hnx⟩:=hnx;obtain⟨eC,hun⟩:=hun;have XN:Hid (Rk w eA eB eC):=AI ⟨hno,hnx,hun⟩;have XH:=AI jP;clear hno hnx hun jP;have HF:=AI hf;have HQ:=AI hq;obtain⟨aF,cF,rfl,-⟩:=hf;obtain⟨aR,cR,rfl,-⟩:=hq;go_enter Tryz.func4,Tryz.ntmps4
 go_upto_region 1 with fail
 obtain⟨wB,Rh⟩:∃W:World,W=w.alloc (.cells #[.slice aF f.length cF,.slice aR rows.length cR] 39):=⟨_,rfl⟩;have kB:AC w wB:=by rw[Rh];exact (AC.refl w).alloc _
 have sB:wB.heap.size=w.heap.size+1:=by rw[Rh];exact AD _ _
 have b0:wB.cell? ⟨w.heap.size,0,none⟩=some (.slice aF f.length cF):=by rw[Rh];exact AO (AC.refl _) 0
 have b1:wB.cell? ⟨w.heap.size,1,none⟩=some (.slice aR rows.length cR):=by rw[Rh];exact AO (AC.refl _) 1
 rw[<-Rh];clear Rh;have lB:w.heap.size<wB.heap.size:=by omega
 clear sB;have hr0:=hr.keep kB;go_wp2_with fail
 refine (kV _ _ _ hr0 _ (by omega) (by omega) hl hls).mono ?_;rintro e w0 ⟨r,rfl,rfl,hd⟩;by_cases hneg:r<0
 ·
  go_wp2;go_ret;exact⟨rfl,kB⟩
 obtain⟨hsum,hrl⟩:=hd.resolve_left hneg;have hge:(0:Int)<=r:=by omega
 have l1:AA.length<=1048576:=by omega
 have l2:∀i,i<AA.length->(AA.getD i []).length<=1048576:=fun i hi=>by have:=aY AA i hi;omega
 have HL:Hid (Pu AA AA=true):=AI (by unfold Pu;simp);clear hd hneg hsum hl hls hr0;go_wp2_with fail
 refine (YS _ _ _ _ _ r (HF.out.keep kB) (HQ.out.keep kB) hge (by omega) lf lr).mono ?_;rintro e w1 ⟨r2,rfl,k1,hd⟩;by_cases hneg:r2<0
 ·
  go_wp2;go_ret;exact⟨rfl,kB.trans k1⟩
 have hsum2:=hd.resolve_left hneg;have hge2:(0:Int)<=r2:=by omega
 have f1:f.length<=1048576:=by omega
 have f2:rows.length<=1048576:=by omega
 have c0:=(k1.cell lB).trans b0;have c1:=(k1.cell lB).trans b1;have y1:w.heap.size<w1.heap.size:=KAC lB k1.size;have K1:=kB.trans k1;have z1:w.heap.size<w1.drew.heap.size:=y1;have CW:=fun (W:World) (kW:AC w W)=>kY W v AA (hr.keep kW) l1 l2
 have CT:=fun (W:World) (kW:AC w W)=>YT W _ _ f rows (HF.out.keep kW) (HQ.out.keep kW) f1 f2
 clear hd hneg hsum2 lf lr b0 b1 k1;go_upto_region 8 with fail
 go_cut [6,7] from 12 (fun s6 s7 wx=>∃a b:Int,s6 = .int .i64 a/\s7 = .int .i64 b/\Hid (Lu AA f rows a b)/\AC w1 wx)
 case first=>
  go_wp2_with fail
  go_region_held3 (fun w'=>w'.cell? ⟨w.heap.size,0,none⟩=some (.slice aF f.length cF)/\w'.cell? ⟨w.heap.size,1,none⟩=some (.slice aR rows.length cR))
   (first|go_keep|(go_split_ands;refine⟨?_,?_⟩<;>(rw[kk.cell (by assumption)];assumption)))
   ((first
    | (go_at_call 17;refine (CW _ K1.drew).mono ?_;rintro e wz ⟨v2,rfl,o2,kk⟩;have z2:w.heap.size<wz.heap.size:=KAC z1 kk.size;have K2:=K1.drew.trans kk;have k2:=(AC.refl w1).drew.trans kk)
    | (go_at_call 18;refine (CT _ K2).mono ?_;clear kk;rintro e wy ⟨uF,uR,rfl,oF,oR,ap,kk⟩;have z3:w.heap.size<wy.heap.size:=KAC z2 kk.size;have o3:=o2.rd.keep kk;have k3:=k2.trans kk)
    | (go_at_call 10;refine (It _ _ _ _ _ _ _ o3 oF.rd oR.rd l1 l2 f1).mono ?_;clear kk;rintro e wx ⟨a,b,rfl,hj,kk⟩;have XJ:=AI hj;clear hj)))
  all_goals
   go_wp2;go_meet;case rel=>exact⟨a,b,rfl,rfl,XJ,k3.trans kk⟩
 case rest=>
  obtain⟨a,b,rfl,rfl,XJ,kc⟩:=hcut;have Kc:=K1.trans kc;have yc:w.heap.size<wc.heap.size:=KAC y1 kc.size;have d0:=(kc.cell y1).trans c0;have d1:=(kc.cell y1).trans c1;clear c0 c1 z1 kc;go_wp2_with fail
  refine (CW _ Kc).mono ?_;rintro e w2 ⟨vx,rfl,ox,k2⟩;have K2:=Kc.trans k2;have y2:w.heap.size<w2.heap.size:=KAC yc k2.size;replace d0:=(k2.cell yc).trans d0;replace d1:=(k2.cell yc).trans d1;go_wp2_with fail
  refine (CT _ K2).mono ?_;rintro e w3 ⟨uF,uR,rfl,oF,oR,ap,k3⟩;have K3:=K2.trans k3;have y3:w.heap.size<w3.heap.size:=KAC y2 k3.size;replace d0:=(k3.cell y2).trans d0;replace d1:=(k3.cell y2).trans d1;have rx:=ox.rd.keep k3;have rF:=oF.rd;have rR:=oR.rd;obtain⟨aU,cU,rfl⟩:=oF.WC;obtain⟨aV,cV,rfl⟩:=oR.WC;clear ox oF oR ap k2 k3;go_upto_region 11 with fail
  obtain⟨w4,hw4⟩:∃W:World,W=w3.alloc (Cp (.slice aU f.length cU) (.slice aV rows.length cV)):=⟨_,rfl⟩;have e0:w4.cell? ⟨w3.heap.size,0,none⟩=some (.slice aU f.length cU):=by rw[hw4];exact AO (AC.refl _) 0
  have e1:w4.cell? ⟨w3.heap.size,1,none⟩=some (.slice aV rows.length cV):=by rw[hw4];exact AO (AC.refl _) 1
  have k4:AC w3 w4:=by rw[hw4];exact (AC.refl _).alloc _
  have x4:w3.heap.size<w4.heap.size:=by rw[hw4,AD];omega
  rw[<-hw4];clear hw4;have K4:=K3.trans k4;have y4:w.heap.size<w4.heap.size:=KAC y3 k4.size;replace d0:=(k4.cell y3).trans d0;replace d1:=(k4.cell y3).trans d1;replace rx:=rx.keep k4;replace rF:=rF.keep k4;replace rR:=rR.keep k4;clear k4;generalize w3.heap.size=X at e0 e1 x4;go_wp2_with fail
  refine (GK _ _ _ _ _ _ _ eA eB eC (XN.out.keep K4) (Dc XH.out K4) rx rF rR l1 l2 (by omega) (by omega)).mono ?_;rintro e w5 ⟨a',b',rfl,hj,k5⟩;obtain⟨rfl,rfl⟩:=hj.one XJ.out;clear hj;have K5:=K4.trans k5;have y5:w.heap.size<w5.heap.size:=KAC y4 k5.size;have x5:X<w5.heap.size:=KAC x4 k5.size;replace d0:=(k5.cell y4).trans d0;replace d1:=(k5.cell y4).trans d1;replace e0:=(k5.cell x4).trans e0;replace e1:=(k5.cell x4).trans e1;replace rx:=rx.keep k5;replace rF:=rF.keep k5;replace rR:=rR.keep k5;have ea:(a' != a')=false:=by simp
  have eb:(b' != b')=false:=by simp
  go_wp2_with fail
  refine (CW _ K5).mono ?_;rintro e w6 ⟨vz,rfl,oz,k6⟩;have K6:=K5.trans k6;go_wp2_with fail
  refine (iZ _ _ _ _ _ (rx.keep k6) oz.rd l1 l2).mono ?_;rw[HL.out];rintro e w7 ⟨rfl,k7⟩;have K7:=K6.trans k7;have k67:=k6.trans k7;have y7:w.heap.size<w7.heap.size:=KAC y5 k67.size;have x7:X<w7.heap.size:=KAC x5 k67.size;replace d0:=(k67.cell y5).trans d0;replace d1:=(k67.cell y5).trans d1;replace e0:=(k67.cell x5).trans e0;replace e1:=(k67.cell x5).trans e1;replace rF:=rF.keep k67;replace rR:=rR.keep k67;have z7:w.heap.size<w7.drew.heap.size:=y7;have q7:X<w7.drew.heap.size:=x7;clear k5 k6 k7 k67 oz rx;go_wp2_with fail
  go_region_held3 (fun w'=>w'.cell? ⟨w.heap.size,0,none⟩=some (.slice aF f.length cF)/\w'.cell? ⟨w.heap.size,1,none⟩=some (.slice aR rows.length cR)/\w'.cell? ⟨X,0,none⟩=some (.slice aU f.length cU)/\w'.cell? ⟨X,1,none⟩=some (.slice aV rows.length cV))
   (first|go_keep|(go_split_ands;refine⟨?_,?_,?_,?_⟩<;>(rw[kk.cell (by assumption)];assumption)))
   ((first
    | (go_at_call 18;refine (CT _ K7.drew).mono ?_;rintro e wz ⟨tF,tR,rfl,oF,oR,ap,kk⟩;have z8:w.heap.size<wz.heap.size:=KAC z7 kk.size;have q8:X<wz.heap.size:=KAC q7 kk.size;have K8:=K7.drew.trans kk;have rF8:=(rF.keep (AC.refl w7).drew).keep kk;have rR8:=(rR.keep (AC.refl w7).drew).keep kk)
    | (go_at_call 20;refine (UF _ _ _ _ _ _ _ rF8 rR8 oF.rd oR.rd f1 f2).mono ?_;clear kk;rintro e wy ⟨rfl,kk⟩)))
  all_goals
   go_wp2;go_ret;exact⟨rfl,K8.trans kk⟩
abbrev laidL : List (String × DataW Unit) := [("errors.errorType", Rows.laid_errors_errorType), ("loop.example/g00411/impl.errNoAsk", Rows.laid_loop_example_g00411_impl_errNoAsk), ("loop.example/g00411/impl.errNoOutcome", Rows.laid_loop_example_g00411_impl_errNoOutcome), ("loop.example/g00411/impl.errUnmet", Rows.laid_loop_example_g00411_impl_errUnmet)]
theorem door_met (os:Os)(args:Array Value):laidMetH Tryz.prog laidL ((World.doorLaid Tryz.prog 4000 os).forCall (fun _ _=>0) ⟨#[],args,[]⟩).memory:=
 laidMetH_of_parts3 (fuel:=8) (laidMet_of_run' 8 (by kernel_rfl) (by kernel_rfl)) (by kernel_rfl) (by kernel_rfl)
theorem returns_laid_shaped {H:Type}{enc:TypeId×Value->H}{a:Assume}{C:Checked}{os:Os}{f:FuncId}{fn:Func}{s:ChangeSpec}{conds:List PathCond}{apart fresh handsOn again:Bool}{X:World->Array Value->Prop}
  (hX:∀(w w':World) (args:Array Value),w.heap=w'.heap->X w args->X w' args)
  (own:ownKnob C.prog.godebug=none) (started:os.Started) (noInit:C.prog.inits.idxOf? f=none) (hfn:C.prog.funcs[f]? = some fn)
  (witness:∃(w:World) (tape:Tape) (i:Input),w.os=os/\(w.forCall tape i).Shaped C.prog/\i.vars=[]/\Input.okWide C.prog (w.forCall tape i) .any w.heap.size f i /\
   ((s.pre enc C.prog fn conds apart (w.forCall tape i).memory i.args/\X (w.forCall tape i).memory i.args)/\sizedMet enc C.prog fn (OpenSpec.ofChange s) apart (w.forCall tape i).memory i.args)/\a.holds C.prog (lone (Frame.enter C.prog f i.args .normal) [] (w.forCall tape i)))
  (contract:∀(W:World) (base:Nat) (args:Array Value) (ds gs:List (DataW H)) (before:List MemPlace),
   (∀(j:Nat) t v,fn.params[j]? = some t->args[j]? = some v->Value.okWide C.prog W .any base t v) ->
   DataW.Whole enc C.prog fn.params.toList s.vars apart W args.toList ds gs before->X W args->W.ShapedOpen C.prog ->
   Calls C.prog f args W fun e W'=>∃v,e = .returned v/\s.post enc C.prog fn apart fresh handsOn again W args v W'):
  ReturnsInHanded a C os f .any (fun w args=>(s.pre enc C.prog fn conds apart w args/\X w args)/\sizedMet enc C.prog fn (OpenSpec.ofChange s) apart w args) (s.post enc C.prog fn apart fresh handsOn again):=by
 refine returnsInHanded_of_calls own started noInit witness ?_;intro w tape i _ hsh _ hok hpre _;obtain⟨_,_,_,fn',hfn',_,_,_,_,hval⟩:=hok;have e:fn'=fn:=KAI (hfn'.symm.trans hfn);subst e;obtain⟨⟨⟨ds,gs,before,hw,hc⟩,hx⟩,hz⟩:=hpre;have hw':=DataW.Whole.of_heap (w':=w.forCall tape i) (by rfl) hw;refine (contract (w.forCall tape i) w.heap.size i.args ds gs before hval hw' (hX _ _ _ (by rfl) hx) hsh).mono fun e W' ⟨v,he,hp⟩=>?_
 subst he;exact ChangeSpec.post_blind hp
set_option maxRecDepth 100000 in
theorem lifted (os:Os)(started:os.Started)(H:Type)(enc:TypeId×Value->H):
  ReturnsInHanded {} Tryz.checked os 4 .any (fun w args=>(Rows.fnExactJudgedSpec.pre enc Tryz.prog Tryz.f4 [] false w args/\laidMetH Tryz.prog laidL w)/\sizedMet enc Tryz.prog Tryz.f4 (OpenSpec.ofChange Rows.fnExactJudgedSpec) false w args)
   (Rows.fnExactJudgedSpec.post enc Tryz.prog Tryz.f4 false true false false):=by
 refine returns_laid_shaped (C:=Tryz.checked) (X:=fun w _=>laidMetH Tryz.prog laidL w) (fun _ _ _ hh h=>h.of_heap hh) own started (by kernel_rfl) Tryz.func4
  (ChangeSpec.witness_shaped (enc:=enc) (C:=Tryz.checked) (os:=os) (X:=fun w _=>laidMetH Tryz.prog laidL w) false (World.doorLaid Tryz.prog 4000 os) #[.slice none 0 0,.agg #[.slice none 0 0,.slice none 0 0]] 8 rfl (World.shaped_of_RefB (by kernel_rfl) (by kernel_rfl)) (by kernel_rfl) (by kernel_rfl) (by kernel_rfl) (door_met os _)) ?_
 intro W base args ds gs before hval0 hW hL hsh;have hval:∀(j:Nat) t v,Tryz.f4.params[j]? = some t->args[j]? = some v->Value.okWide Tryz.prog W .any base t v:=hval0;have hW':=hW;obtain⟨p,q,hA0,hV,rfl,hfz,hnd⟩:=hW;have hA:DataW.TrodAll enc Tryz.prog W 0 (fun _=>true) true Tryz.f4.params.toList args.toList ds p:=hA0;rw[Tryz.params4] at hA hval;obtain⟨v0,vs0,d0,ds0,p0,q0,hargs,rfl,rfl,h0,r0⟩:=trodAll_cons hA;obtain⟨v1,vs1,d1,ds1,p1,q1,rfl,rfl,rfl,h1,r1⟩:=trodAll_cons r0;obtain⟨rfl,rfl,rfl⟩:=trodAll_nil r1;obtain rfl:args=#[v0,v1]:=by cases args;simp_all
 have hV2 : DataW.TrodVars enc Tryz.prog W (fun _ => true) ["loop.example/g00411/impl.errNoAsk", "loop.example/g00411/impl.errNoOutcome", "loop.example/g00411/impl.errUnmet"] gs q := hV
 obtain⟨g0,g1,g2,rfl⟩:∃g0 g1 g2,gs=[g0,g1,g2]:=by
  have:=OQ hV2
  match gs,this with
  | [g0,g1,g2],_=>exact⟨g0,g1,g2,rfl⟩
 have k0:=h0;have lt0:∀x∈p0,x.block<W.heap.size:=by obtain⟨m,hm⟩:=k0;exact DataW.trod_lt m _ _ _ hm
 obtain⟨AA,hr,hl,hls⟩:=Xz (hval 0 38 v0 rfl rfl) h0;obtain⟨vF,vR,f,rows,rfl,hf,hq,lf,lr⟩:=bg (hval 1 39 v1 rfl rfl) h1
 have hL' : laidMet Tryz.prog laidL.tail W ∧ handlesMet Tryz.prog [("errors.errorType", Rows.laid_errors_errorType)] W := hL
 have jP:=han_cell hL'.2;have hS:=hL'.1;have hno:∃a,W.cell? ⟨0,0,none⟩=some (.iface 234 (.pointer (some a))):=sent_cell hS (by kernel_rfl) (by kernel_rfl);have hnx:∃a,W.cell? ⟨2,0,none⟩=some (.iface 234 (.pointer (some a))):=sent_cell hS.tail (by kernel_rfl) (by kernel_rfl);have hun:∃a,W.cell? ⟨3,0,none⟩=some (.iface 234 (.pointer (some a))):=sent_cell hS.tail.tail (by kernel_rfl) (by kernel_rfl);have k1:=h1;have lt1:∀x∈p1,x.block<W.heap.size:=by obtain⟨m,hm⟩:=k1;exact DataW.trod_lt m _ _ _ hm
 clear hA0 hval0;refine (walk v0 AA vF vR f rows W hr hl hls hf hq lf lr hno hnx hun jP).mono fun e W' ⟨he,lu⟩=>?_
 subst he;exact⟨_,rfl,_,_,_,[],_,_,hW',trodAll_mk1 (shut_bool Tryz.underlying4 _),(trodAll_cons_mk (Below.trod laidOut (by kernel_rfl) (KCF (by kernel_rfl)) k0 lu lt0) (trodAll_cons_mk (Below.trod laidOut (by kernel_rfl) (KCF (by kernel_rfl)) k1 lu lt1) trodAll_mk0)),J7 lu (List.forall_mem_cons.2 ⟨⟨0,57,_,by kernel_rfl,by kernel_rfl,Tryz.underlying57⟩,List.forall_mem_cons.2 ⟨⟨2,57,_,by kernel_rfl,by kernel_rfl,Tryz.underlying57⟩,List.forall_mem_cons.2 ⟨⟨3,57,_,by kernel_rfl,by kernel_rfl,Tryz.underlying57⟩,List.forall_mem_nil _⟩⟩⟩) hV2,lu.frame _,fun h=>by cases h⟩
theorem over:Rows.fnExactJudgedRow.holds Tryz.pinned (OpenSpec.ofChange Rows.fnExactJudgedSpec):=
 OpenClaim.holds_of_wide 4 Tryz.f4 rfl rfl rfl rfl rfl rfl rfl ⟨rfl,rfl,rfl,rfl,rfl⟩ rfl rfl rfl rfl rfl (by kernel_rfl) Tryz.func4 (by kernel_rfl)
  (KCF (by kernel_rfl)) (by unfold Func.isWrapper;first|(rw[KAP (by decide +kernel)];kernel_rfl)|(rw[KAQ (by decide +kernel)];exact⟨rfl,rfl⟩))
  (fun os started H enc _=>lifted os started H enc)
theorem carded:Rows.FnExactJudgedCardSaid:=
 Claim7.holds_tied_plain_at .later [] [.handle, .sentinel, .sentinel, .sentinel] true (true, "6292a260b34e5406c57cfb3370b13a8bdeff023c87927d0bc6208dd1b4a93b41") true
  over (fun _ h=>by cases h) (by kernel_rfl) (fun _ h=>by cases h) fnExactJudged_row_tie rfl ⟨rfl,rfl⟩ (by kernel_rfl) rfl
  (fun f fn hf hfn=>by
   obtain rfl : f = 4 := Option.some.inj ((show Tryz.prog.funcNamed "loop.example/g00411/laws.FnExactJudged" = some 4 by kernel_rfl).symm.trans hf) |>.symm
   obtain rfl:fn=Tryz.f4:=(KAI (Tryz.func4.symm.trans hfn)).symm
   exact⟨by kernel_rfl,fun j t ht=>by
    rw[Tryz.params4] at ht;have hm:t∈[38,39]:=by simpa using Array.mem_of_getElem? ht
    have hall:([38,39].all fun u=>!Tryz.prog.wantsStandIn u)=true:=by kernel_rfl
    exact (show Tryz.prog.wantsStandIn t=false by simpa using KAx.1 hall t hm)⟩)
  (by kernel_rfl)
#print axioms carded
end Go.Proofs.YtflehmepjhikcaaGreatDoor.fnExactJudged
namespace Go.Proofs.YtflehmepjhikcaaGreatDoor
theorem fnExactJudged_holds:Rows.FnExactJudgedCardSaid:=fnExactJudged.carded
end Go.Proofs.YtflehmepjhikcaaGreatDoor
