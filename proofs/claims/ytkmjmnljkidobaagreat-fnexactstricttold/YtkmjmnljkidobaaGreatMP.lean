/- Gathered texts. -/
import Derived.Test.YtkmjmnljkidobaaGreatMO
import Derived.Deep.RegionHeld3
import Derived.Deep.Cut
import Derived.Deep.CutRange
import Derived.Deep.LoopGhost
set_option maxRecDepth 100000
set_option maxHeartbeats 8000000
namespace Go.Proofs.YtkmjmnljkidobaaGreat
open Go.ChangeShapes Go.WideShapes Go.ChangeAt Go.RowKit
section
theorem pst_low {m:Nat}{w w':World}(k:PStay (fun g=>m≤g∧g<w.heap.size) w w'):PStay (fun g=>m≤g) w w':=⟨k.size,fun g hg hm=>k.blk g hg ⟨hm,hg⟩⟩
structure FX (w:World)(P:Nat→Prop)(es:List Ev)(c:List (List Int))(cl bl pl:List Int)(ve vc vk vb vp:Value):Prop where
 E:HeldE w P ve es
 C:∀w':World,PStay P w w'→RdL w' vc c
 K:HeldR w P vk cl
 B:HeldR w P vb bl
 L:HeldR w P vp pl
section
variable {w w':World} {P P':Nat→Prop} {es:List Ev} {c:List (List Int)} {cl bl pl:List Int} {ve vc vk vb vp:Value}
theorem FX.on (h:FX w P es c cl bl pl ve vc vk vb vp)(k:PStay P w w'):FX w' P es c cl bl pl ve vc vk vb vp:=
 ⟨h.E.on k,fun w'' k'=>h.C w'' (k.trans k'),h.K.on k,h.B.on k,h.L.on k⟩
theorem FX.mono (h:FX w P es c cl bl pl ve vc vk vb vp)(hp:∀g,P g→P' g):FX w P' es c cl bl pl ve vc vk vb vp:=
 ⟨h.E.mono hp,fun w' k=>h.C w' (k.mono hp),h.K.mono hp,h.B.mono hp,h.L.mono hp⟩
theorem FX.at {m:Nat}(h:FX w (fun g=>m≤g) es c cl bl pl ve vc vk vb vp):FX w (fun g=>m≤g∧g<w.heap.size) es c cl bl pl ve vc vk vb vp:=
 ⟨fun w' k=>h.E w' (pst_low k),fun w' k=>h.C w' (pst_low k),fun w' k=>h.K w' (pst_low k),fun w' k=>h.B w' (pst_low k),fun w' k=>h.L w' (pst_low k)⟩
end
structure FY (w:World)(P:Nat→Prop)(f wf mf:List Int)(vf va vm:Value):Prop where
 F:HeldR w P vf f
 A:HeldR w P va wf
 M:HeldR w P vm mf
section
variable {w w':World} {P P':Nat→Prop} {f wf mf:List Int} {vf va vm:Value}
theorem FY.on (h:FY w P f wf mf vf va vm)(k:PStay P w w'):FY w' P f wf mf vf va vm:=⟨h.F.on k,h.A.on k,h.M.on k⟩
theorem FY.mono (h:FY w P f wf mf vf va vm)(hp:∀g,P g→P' g):FY w P' f wf mf vf va vm:=⟨h.F.mono hp,h.A.mono hp,h.M.mono hp⟩
end
structure BX (dss:List (List Dd)):Prop where
 ok:workB dss=true
 n9:(eventsB dss).length≤9
 n3:3≤(eventsB dss).length
 pl:∀p,p<3→0<(plcW (eventsB dss) p).length
theorem bx_of {dss:List (List Dd)}(hb:workB dss=true):BX dss:=by
 refine⟨hb,eventsB_len9 dss,?_,fun p hp=>(plcW_first hb p hp).1⟩;rw[eventsB,if_pos hb];obtain⟨⟨t,ht⟩,_⟩:=evs_good (workB_useR hb).2 dss.length (Nat.le_refl _);rw[ht,List.length_append];exact Nat.le_add_right _ _
theorem BX.n12 {dss:List (List Dd)}(h:BX dss):(eventsB dss).length≤12:=by have:=h.n9;omega
theorem BX.lines {dss:List (List Dd)}(h:BX dss):∀j,3≤j→j<(eventsB dss).length→∃i k:Nat,((eventsB dss).getD j zE).1=(i:Int)∧((eventsB dss).getD j zE).2.1=(k:Int)∧i<dss.length∧k<(dss.getD i []).length:=by
 intro j h3 hj;have e1:eventsB dss=evsW dss dss.length:=by rw[eventsB,if_pos h.ok]
 rw[e1] at hj ⊢;obtain⟨i,k,_,_,_,e1,q1,q2,_⟩:=(events_law h.ok).2.2.2.2 j h3 hj;refine⟨i,k,?_,?_,q1,q2⟩
 · rw[List.getD_eq_getElem?_getD,e1];rfl
 · rw[List.getD_eq_getElem?_getD,e1];rfl
theorem tale_infoX:(Tryz.prog.info? 52).map (·.size)=some 2:=by kernel_rfl
theorem src_facts {dss:List (List Dd)}(hb:workB dss=true)(n:Nat):
  (idxB rdE (eventsB dss)).length≤(atL (chcL (eventsB dss)) (n:Int)).length∧(∀i,i<(idxB rdE (eventsB dss)).length→0≤(atL (chcL (eventsB dss)) (n:Int)).getD i 0∧(atL (chcL (eventsB dss)) (n:Int)).getD i 0<((eventsB dss).length:Int))∧Web (eventsB dss).length (fwL (eventsB dss) (atL (chcL (eventsB dss)) (n:Int))):=by
 have h0:0<rnS dss:=by have:=(rcnt_in (eventsB_len9 dss)).1;show 0<(rcntL (eventsB dss)).toNat;omega
 have HT:=told_tale hb n h0;obtain⟨_,e1,_,_,_,_,hl,_,hf⟩:=tale_facts HT;have W:=(tale_webs HT).1.fw;rw[←e1] at hl hf W;exact⟨by omega,fun i hi=>hf i (by omega),W⟩
theorem tale_bounds {dss:List (List Dd)}(hb:workB dss=true)(n:Nat){k:Nat}(hk:k<rnS dss){f rows:List Int}(hf:f=atL (chcL (eventsB dss)) (n:Int))(hr:rows=ratL (eventsB dss) (k:Int)):
  (rows.length≤36∧(∀j,j<rows.length→0≤rows.getD j 0∧rows.getD j 0<((eventsB dss).length:Int))∧(∀j,j<rows.length→0≤plE (eventsB dss) (rows.getD j 0)∧plE (eventsB dss) (rows.getD j 0)≤2)) ∧
  ((idxB rdE (eventsB dss)).length≤f.length∧(∀i,i<(idxB rdE (eventsB dss)).length→0≤f.getD i 0∧f.getD i 0<((eventsB dss).length:Int)))∧(f.length≤12∧(∀i,i<f.length→0≤f.getD i 0∧f.getD i 0<((eventsB dss).length:Int)))∧Webs (eventsB dss) f rows∧webB (pwL (eventsB dss) f rows)=true∧taleB dss f rows=true:=by
 subst hf hr;have HT:=told_tale hb n hk;obtain⟨_,e1,_,h1,h2,h3,hl,h12,hf⟩:=tale_facts HT;have W:=tale_webs HT;rw[←e1] at h2 h3 hl hf W;exact⟨⟨h1,h2,h3⟩,⟨by omega,fun i hi=>hf i (by omega)⟩,⟨h12,hf⟩,W.1,W.2,HT⟩
def baS (dss:List (List Dd))(strict:Bool):List Int:=if strict=true then behL (eventsB dss) else kepL dss (eventsB dss)
def miS (dss:List (List Dd))(strict:Bool)(f:List Int):List Int:=if strict=true then fwL (eventsB dss) f else owL (eventsB dss) f
def swS (dss:List (List Dd))(strict:Bool)(f rows:List Int):List Int:=if strict=true then xwL (eventsB dss) f rows else swL dss (eventsB dss) f rows
theorem told_webs {dss:List (List Dd)}(strict:Bool){f rows:List Int}(hn:(eventsB dss).length≤12)(W:Webs (eventsB dss) f rows):
  Web (eventsB dss).length (baS dss strict)∧Web (eventsB dss).length (miS dss strict f)∧Web (eventsB dss).length (swS dss strict f rows)∧mixL orI (mixL orI (baS dss strict) (miS dss strict f)) (mixL orI (rwL (eventsB dss) rows) (agL (eventsB dss) f rows))=swS dss strict f rows:=by
 unfold baS miS swS
 cases strict with
 |false=>simp only[Bool.false_eq_true,if_false];exact⟨(kep_line (dss:=dss) hn).1,(ow_line W).1,(web_four (kep_line (dss:=dss) hn).1 (ow_line W).1 W.rw' W.ag).1,rfl⟩
 |true=>simp only[if_true];exact⟨(beh_line hn).1,W.fw,(web_four (beh_line hn).1 W.fw W.rw' W.ag).1,rfl⟩
structure H0 (w0 w:World)(dss:List (List Dd))(ve vc vk vb:Value):Prop where
 E:HeldE w (fun g=>w0.heap.size+1≤g) ve (eventsB dss)
 C:∀w':World,PStay (fun g=>w0.heap.size+1≤g) w w'→RdL w' vc (chcL (eventsB dss))
 K:HeldR w (fun g=>w0.heap.size+1≤g) vk (clsB (eventsB dss))
 B:HeldR w (fun g=>w0.heap.size+1≤g) vb (kepL dss (eventsB dss))
 S:w0.heap.size+1≤w.heap.size
 k:Keep (w0.alloc (.cells #[] 50)) w
theorem l17Told_any (w:World)(v:Value)(dss:List (List Dd))(strict:Bool)(h:RdW w v dss)(hb:workB dss=true):
  Calls Tryz.prog 42 #[v,.bool strict] w fun e w'=>∃v',e = .returned v'∧HeldL w.heap.size w' v' (toldB dss strict)∧Keep w w':=by
 have XB:=Lib.hid (bx_of hb);have C1:=Lib.hid (l6Events_any (w.alloc (.cells #[] 50)) v dss (h.keep ((Keep.refl w).alloc _)) (workB_useR hb).1 (workB_useR hb).2);have E1:Hid (eventsB dss=evsW dss dss.length):=Lib.hid (by rw[eventsB,if_pos hb]);have CK:=Lib.hid (fun (U:World) (kU:Keep w U) (ve:Value) (hE:RdE U ve (eventsB dss))=>l7Kept_any U _ ve dss _ (h.keep kU) hE (bx_of hb).n3 (bx_of hb).n12 (work_small hb).2 (bx_of hb).lines);clear h hb;go_enter Tryz.func42,Tryz.ntmps42
 go_wp2_with fail
 refine C1.out.mono ?_;rintro e w2 ⟨ve,rfl,a2,k2⟩;have XA:=Lib.hid (And.intro a2 k2);rw[←E1.out] at XA;have r2:=XA.out.1.rd;clear C1 a2 k2;go_wp2_with fail
 refine (l8Choices_held _ _ _ r2 XB.out.n12).mono ?_;rintro e w3 ⟨vc,rfl,rc,k3⟩;have r3:=r2.keep k3;have XC:=Lib.hid (And.intro rc k3);clear rc k3 r2;go_wp2_with fail
 refine (l9Count_any _ _ _ r3 XB.out.n9 XB.out.pl).mono ?_;rintro e w4 ⟨rfl,k4⟩;have r4:=r3.keep k4;have XD:=Lib.hid k4;clear k4 r3;go_wp2_with fail
 refine (specClassesOf_any _ _ _ r4 (by have:=XB.out.n9;omega)).mono ?_;rintro e w5 ⟨vk,rfl,o5,k5⟩;have r5:=r4.keep k5;have XE:=Lib.hid (And.intro o5 k5);clear o5 k5 r4;have CK5:=CK.out _ (((((Keep.refl w).alloc (.cells #[] 50)).trans XA.out.2).trans XC.out.2).trans XD.out |>.trans XE.out.2) _ r5;clear CK;go_wp2_with fail
 refine CK5.mono ?_;rintro e w6 ⟨v6,rfl,o6,k6⟩
 have X0:Hid (H0 w w6 dss ve vc vk v6):=Lib.hid (by
  have k36:=(XD.out.trans XE.out.2).trans k6;have s2:=XA.out.2.size;rw[heap_size] at s2;have s3:=XC.out.2.size;have s4:=XD.out.size;have s5:=XE.out.2.size;have s6:=k6.size
  exact⟨held_ev (XA.out.1.keep (XC.out.2.trans k36)) (fun g hg _=>by rw[heap_size] at hg;exact hg),fun w' k=>(XC.out.1.on (PStay.of_keep k36)).low s2 w' k,held_own (XE.out.1.keep k6) (fun g hg _=>by omega),held_row o6 (fun g hg _=>by omega),by omega,(XA.out.2.trans XC.out.2).trans k36⟩)
 clear XA XC XD XE CK5 o6 k6 r5;go_upto_if 31 with fail
 go_cut [10] from 31 to 33 (fun s wx=>∃vb,vb=s∧HeldR wx (fun g=>w.heap.size+1≤g) vb (baS dss strict)∧Keep w6 wx)
 case first=>
  cases strict
  ·
   go_wp2;go_meet;case rel=>exact⟨_,rfl,X0.out.B,Keep.refl _⟩
  ·
   go_wp2_with fail
   refine (l7Behind_any _ _ _ X0.out.E.rd XB.out.n12).mono ?_;rintro e wb ⟨vb,rfl,ob,kb⟩;have HB:=Lib.hid (held_row (P:=fun g=>w.heap.size+1≤g) ob (fun g hg _=>by have:=X0.out.S;omega));have XK:=Lib.hid kb;clear ob kb;go_wp2;go_meet;case rel=>exact⟨_,rfl,HB.out,XK.out⟩
 case rest=>
  obtain⟨vb,rfl,HB,kb⟩:=hcut;have XH:=Lib.hid (And.intro HB kb);have r7:=X0.out.E.rd.keep kb;clear HB kb;go_wp2_with fail
  refine (l7Place_any _ _ _ r7 XB.out.n12).mono ?_;rintro e w8 ⟨vp,rfl,o8,k8⟩
  have X8:Hid (FX w8 (fun g=>w.heap.size+1≤g∧g<w8.heap.size) (eventsB dss) (chcL (eventsB dss)) (clsB (eventsB dss)) (baS dss strict) (plcL (eventsB dss)) ve vc vk vb vp):=Lib.hid (by
   have k68:=XH.out.2.trans k8
   exact FX.at ⟨X0.out.E.on (PStay.of_keep k68),fun w' k=>X0.out.C w' ((PStay.of_keep k68).trans k),X0.out.K.on (PStay.of_keep k68),XH.out.1.on (PStay.of_keep k8),held_row o8 (fun g hg _=>by have:=X0.out.S;have:=XH.out.2.size;omega)⟩)
  have T8:Hid (TO w w8 (fun g=>w.heap.size+1≤g∧g<w8.heap.size) (.slice (some ⟨w.heap.size,0,none⟩) 0 0) [] []):=Lib.hid (by
   have k08:=(X0.out.k.trans XH.out.2).trans k8;have t:=(to_new w).keep k08
   exact⟨fun g hg=>⟨by omega,hg.2⟩,t.o.mono (fun g hg=>hg.elim) (fun g hg hp=>by have e:w.heap.size=g:=Option.some.inj hg;omega),t.K⟩)
  clear X0 XH r7 o8 k8;go_wp2_with fail
  go_loopg [5,12,13,14,15,16,17,18] (cnS dss) (fun k s5 s12 _ _ _ _ _ _ wr=>∃(n:Nat) (vo:Value) (ho:List Value) (P:Nat→Prop),vo=s5∧s12 = .int .i64 (n:Int)∧cnS dss-n=k∧n≤cnS dss∧TO w wr P vo ho (toldK dss strict n)∧FX wr P (eventsB dss) (chcL (eventsB dss)) (clsB (eventsB dss)) (baS dss strict) (plcL (eventsB dss)) ve vc vk vb vp)
  case atStart=>
   exact⟨0,_,_,_,rfl,rfl,by omega,Nat.zero_le _,T8.out,X8.out⟩
  case round=>
   obtain⟨n,vo,ho,P,rfl,rfl,hk,hn,T1,X1⟩:=hrel;clear T8 X8;have XT:=Lib.hid T1;have XX:=Lib.hid X1;have XK:=Lib.hid hk;clear T1 X1 hk;have CC:=l8Count_any wr vc _ (XX.out.C wr ⟨Nat.le_refl _,fun _ _ _=>rfl⟩) (chc_len XB.out.n12).1 (chc_len XB.out.n12).2;rw[←srcN_int] at CC;go_wp2_with fail
   refine CC.mono ?_;rintro e wu ⟨rfl,rfl⟩;clear CC;by_cases hlt:n<cnS dss
   ·
    have hli:(n:Int)<((srcN (chcL (eventsB dss)) (chcL (eventsB dss)).length:Nat):Int):=by have:=hlt;unfold cnS at this;omega
    have htop:((srcN (chcL (eventsB dss)) (chcL (eventsB dss)).length:Nat):Int)≤8916100448256:=by rw[srcN_int];exact (cnt_top (chc_len XB.out.n12).1 (chc_len XB.out.n12).2 _ (Nat.le_refl _)).2
    have CA:=l8At_any _ vc _ (n:Int) (XX.out.C _ ⟨Nat.le_refl _,fun _ _ _=>rfl⟩) (chc_len XB.out.n12).1 (chc_full XB.out.ok).1 (by omega) (by omega) (chc_len XB.out.n12).2;have XL:=Lib.hid hlt;have XN:=Lib.hid (And.intro hli htop);clear htop hlt;go_wp2_with fail
    refine CA.mono ?_;rintro e w1 ⟨vf,rfl,o1,k1⟩;have XO:=Lib.hid (And.intro o1 k1);clear CA o1 k1;have SF:=Lib.hid (src_facts XB.out.ok n);have r1:=XO.out.1.rd;have q1:=(XX.out.E.rd).keep XO.out.2;have CW:=l8Web_any w1 ve vf _ _ q1 r1 XB.out.n12 SF.out.1 SF.out.2.1;go_wp2_with fail
    refine CW.mono ?_;rintro e w2 ⟨va,rfl,o2,k2⟩;have XO2:=Lib.hid (And.intro o2 k2);have CO:=l12Others_any w2 ve vf _ _ (q1.keep XO2.out.2) (r1.keep XO2.out.2) XB.out.n3 XB.out.n12 SF.out.2.2 SF.out.1 SF.out.2.1;clear CW o2 k2 r1 q1;go_wp2_with fail
    refine CO.mono ?_;rintro e w3 ⟨vm,rfl,o3,k3⟩;have XO3:=Lib.hid (And.intro o3 k3);clear CO o3 k3;go_upto_if 51 with fail
    go_cut [15] from 36 to 94 (fun s wx=>∃(vx:Value) (P':Nat→Prop),vx=s∧TO w wx P' vo ho (toldK dss strict n)∧FX wx P' (eventsB dss) (chcL (eventsB dss)) (clsB (eventsB dss)) (baS dss strict) (plcL (eventsB dss)) ve vc vk vb vp∧FY wx P' (atL (chcL (eventsB dss)) (n:Int)) (fwL (eventsB dss) (atL (chcL (eventsB dss)) (n:Int))) (miS dss strict (atL (chcL (eventsB dss)) (n:Int))) vf va vx)
    case first=>
     have XP:Hid (TO w w3 (fun g=>P g∨(wu.heap.size≤g∧g<w3.heap.size)) vo ho (toldK dss strict n)∧FX w3 (fun g=>P g∨(wu.heap.size≤g∧g<w3.heap.size)) (eventsB dss) (chcL (eventsB dss)) (clsB (eventsB dss)) (baS dss strict) (plcL (eventsB dss)) ve vc vk vb vp∧HeldR w3 (fun g=>P g∨(wu.heap.size≤g∧g<w3.heap.size)) vf (atL (chcL (eventsB dss)) (n:Int))∧HeldR w3 (fun g=>P g∨(wu.heap.size≤g∧g<w3.heap.size)) va (fwL (eventsB dss) (atL (chcL (eventsB dss)) (n:Int)))∧HeldR w3 (fun g=>P g∨(wu.heap.size≤g∧g<w3.heap.size)) vm (owL (eventsB dss) (atL (chcL (eventsB dss)) (n:Int)))):=Lib.hid (by
      have k23:=XO2.out.2.trans XO3.out.2;have k13:=XO.out.2.trans k23;have s1:=XO.out.2.size;have s2:=XO2.out.2.size;have s3:=XO3.out.2.size
      exact⟨XT.out.wide k13,(XX.out.on (PStay.of_keep k13)).mono (fun _ => .inl),held_own (XO.out.1.keep k23) (fun g hg hl => .inr ⟨hg,hl⟩),(held_row XO2.out.1 (fun g hg hl => .inr ⟨by omega,by omega⟩)).on (PStay.of_keep XO3.out.2),held_row XO3.out.1 (fun g hg hl => .inr ⟨by omega,hl⟩)⟩)
     clear XT XX XO XO2 XO3;cases strict
     ·
      go_wp2;go_meet;case rel=>exact⟨_,_,rfl,XP.out.1,XP.out.2.1,XP.out.2.2.1,XP.out.2.2.2.1,XP.out.2.2.2.2⟩
     ·
      go_wp2;go_meet;case rel=>exact⟨_,_,rfl,XP.out.1,XP.out.2.1,XP.out.2.2.1,XP.out.2.2.2.1,XP.out.2.2.2.1⟩
    case rest=>
     obtain⟨vx,P',rfl,T3,F3,Y3⟩:=hcut;have XT3:=Lib.hid T3;have XF3:=Lib.hid F3;have XY3:=Lib.hid Y3;clear T3 F3 Y3 XT XX XO XO2 XO3;obtain⟨f,hf⟩:∃f,f=atL (chcL (eventsB dss)) (n:Int):=⟨_,rfl⟩;rw[←hf] at XY3;have XF:=Lib.hid hf;clear hf SF;go_wp2_with fail
     go_loopg [5,16,17,18] (rnS dss) (fun m s5 s16 _ _ wq=>∃(k:Nat) (vo:Value) (ho:List Value) (P:Nat→Prop),vo=s5∧s16 = .int .i64 (k:Int)∧rnS dss-k=m∧k≤rnS dss∧TO w wq P vo ho (toldR dss strict f (toldK dss strict n) k)∧FX wq P (eventsB dss) (chcL (eventsB dss)) (clsB (eventsB dss)) (baS dss strict) (plcL (eventsB dss)) ve vc vk vb vp∧FY wq P f (fwL (eventsB dss) f) (miS dss strict f) vf va vx)
     case atStart=>
      exact⟨0,_,_,_,rfl,rfl,by omega,Nat.zero_le _,XT3.out,XF3.out,XY3.out⟩
     case round=>
      obtain⟨k,vo,ho,P,rfl,rfl,hm,hkn,T4,F4,Y4⟩:=hrel;have XT4:=Lib.hid T4;have XF4:=Lib.hid F4;have XY4:=Lib.hid Y4;have XM:=Lib.hid (And.intro hm hkn);clear T4 F4 Y4 XT3 XF3 XY3 hm hkn;have hrn:((rnS dss:Nat):Int)=rcntL (eventsB dss):=by have:=(rcnt_in (eventsB_len9 dss)).1;show (((rcntL (eventsB dss)).toNat:Nat):Int)=_;omega
      by_cases hkl:k<rnS dss
      ·
       have hki:(k:Int)<rcntL (eventsB dss):=by omega
       have h6:rcntL (eventsB dss)≤373248000:=by have h:=(rcnt_six XB.out.ok).2;unfold rcntB at h;rw[if_pos XB.out.ok] at h;exact h
       have CR:=l9At_any wr ve _ (k:Int) XF4.out.E.rd XB.out.n9 XB.out.pl (by omega) (by omega);obtain⟨rows,hrows⟩:∃r,r=ratL (eventsB dss) (k:Int):=⟨_,rfl⟩;rw[←hrows] at CR;have XW:=Lib.hid (tale_bounds XB.out.ok n hkl XF.out hrows);have XR:=Lib.hid hrows;have XKL:=Lib.hid hkl;clear hrows hkl h6;go_wp2_with fail
       refine CR.mono ?_;rintro e w5 ⟨vr,rfl,o5,k5⟩;have XO5:=Lib.hid (And.intro o5 k5);clear CR o5 k5;obtain⟨aF,cF,rfl,-⟩:=id XY4.out.F.rd;obtain⟨aR,cR,rfl,-⟩:=id XO5.out.1.rd;obtain⟨w6,hw6⟩:∃W:World,W=w5.alloc (.cells #[nilS,nilS] 52):=⟨_,rfl⟩;have hz:w6.heap[w5.heap.size]? = some (.cells #[nilS,nilS] 52 (0,0)):=by rw[hw6];exact heap_alloc_new _ _
       have k6:Keep w5 w6:=by rw[hw6];exact (Keep.refl w5).alloc _
       have s6:w5.heap.size<w6.heap.size:=by rw[hw6,heap_size];omega
       have XK6:=Lib.hid (And.intro k6 s6);clear k6 s6;go_upto_region 22 with (first|(rw[←hw6];refine wpList_store_row rfl 52 _ _ rfl w5.heap.size _ rfl rfl 52 _ hz tale_infoX rfl (by simp[Value.oneCell']) ?_)|fail)
       have XD:Hid (Keep wr (w6.setRow w5.heap.size #[.slice aF f.length cF,.slice aR rows.length cR])):=Lib.hid ((XO5.out.2.trans XK6.out.1).grown (grown_row3 w6 w5.heap.size #[.slice aF f.length cF,.slice aR rows.length cR]) (fun q hq=>by have:=Option.some.inj hq;have:=XO5.out.2.size;omega));have g0:w5.heap.size<(w6.setRow w5.heap.size #[.slice aF f.length cF,.slice aR rows.length cR]).heap.size:=Nat.lt_of_lt_of_le XK6.out.2 (grown_row3 w6 w5.heap.size #[.slice aF f.length cF,.slice aR rows.length cR]).size;have hb7:=setRow_heap w6 w5.heap.size _ #[.slice aF f.length cF,.slice aR rows.length cR] _ _ hz
       have o7:Own (w6.setRow w5.heap.size #[.slice aF f.length cF,.slice aR rows.length cR]) wr.heap.size (.slice aR rows.length cR) rows:=by
        have o6:=XO5.out.1.keep XK6.out.1
        exact o6.kept (grown_row3 w6 w5.heap.size #[.slice aF f.length cF,.slice aR rows.length cR]) (by
         cases e:(Value.slice aR rows.length cR).ownBlock with
         |none=>exact .inl rfl
         |some q=>exact .inr (fun e'=>by have h1:=(World.ownsRow.lt XO5.out.1 q e).2;have:=Option.some.inj e';omega))
       obtain⟨w7,hw7⟩:∃W:World,W=w6.setRow w5.heap.size #[.slice aF f.length cF,.slice aR rows.length cR]:=⟨_,rfl⟩;obtain⟨D,hD⟩:∃D,D=w5.heap.size:=⟨_,rfl⟩;rw[←hw7] at XD hb7 g0 o7 ⊢;rw[←hD] at hb7 g0 ⊢;clear hw7 hD hw6 hz XK6 XO5;have q7:=XF4.out.E.rd.keep XD.out;have f7:=XY4.out.F.rd.keep XD.out;have C3:=Lib.hid (fun (U:World) (kU:Keep w7 U)=>l9Web_any U ve _ (eventsB dss) rows (q7.keep kU) (o7.rd.keep kU) XB.out.n12 XW.out.1.1 XW.out.1.2.1);have C4:=Lib.hid (fun (U:World) (kU:Keep w7 U)=>l10Against_any U ve _ _ (eventsB dss) f rows (q7.keep kU) (f7.keep kU) (o7.rd.keep kU) XB.out.n12 XW.out.1.1 XW.out.1.2.1 XW.out.2.1.1 XW.out.2.1.2);have HL:=Lib.hid (four_len (plc_line XB.out.n12).1 XW.out.2.2.2.1.fw XW.out.2.2.2.1.rw' XW.out.2.2.2.1.ag);have X7:=Lib.hid (And.intro q7 (And.intro f7 (And.intro o7.rd hb7)));have b0:w7.drew.cell? ⟨D,0,none⟩=some (.slice aF f.length cF):=cell_of_row w7.drew D 0 _ _ _ hb7;have b1:w7.drew.cell? ⟨D,1,none⟩=some (.slice aR rows.length cR):=cell_of_row w7.drew D 1 _ _ _ hb7;have K0:Keep w7 w7.drew:=(Keep.refl w7).drew;have z0:D<w7.drew.heap.size:=g0;clear q7 f7 o7 hb7;simp only[Act.put];go_cut [18] from 53 to 94 (fun s wx=>∃v2,v2=s∧Rd wx v2 (List.zipWith orI (rwL (eventsB dss) rows) (agL (eventsB dss) f rows))∧Keep w7 wx)
       case first=>
        clear XF4 XT4 XY4 X7 XD g0
        go_region_held3 (fun w'=>w'.cell? ⟨D,0,none⟩=some (.slice aF f.length cF)∧w'.cell? ⟨D,1,none⟩=some (.slice aR rows.length cR))
         (first|(go_keep;done)|(go_split_ands;refine⟨?_,?_⟩<;>(rw[kk.cell (by assumption)];assumption)))
         ((first
          | (go_at_call 103;refine (C3.out _ K0).mono ?_;rintro e w8 ⟨v8,rfl,o8,kk⟩;have z8:D<w8.heap.size:=Nat.lt_of_lt_of_le z0 kk.size;have K8:=K0.trans kk;have r8:=o8.rd;clear o8)
          | (go_at_call 104;refine (C4.out _ K8).mono ?_;clear kk;rintro e w9 ⟨v9,rfl,o9,kk⟩;have z9:D<w9.heap.size:=Nat.lt_of_lt_of_le z8 kk.size;have K9:=K8.trans kk;have r9:=o9.rd;replace r8:=r8.keep kk;clear o9)
          | (go_at_call 102;refine (l2Join_any _ _ _ _ _ r8 r9 HL.out.2.2.2.2.1 HL.out.2.1).mono ?_;clear kk;rintro e w10 ⟨v10,rfl,o10,kk⟩)))
        all_goals
         have XZ:=Lib.hid (And.intro o10.rd (K9.trans kk));go_wp2;go_meet;case rel=>exact⟨_,rfl,XZ.out.1,XZ.out.2⟩
       case rest=>
        obtain⟨v2,rfl,R2,K2⟩:=hcut;have XR2:=Lib.hid (And.intro R2 K2);clear R2 K2 C3 C4 K0 b0 b1 z0;have HW:=Lib.hid (told_webs strict XB.out.n12 XW.out.2.2.2.1);have HM:=Lib.hid (four_len HW.out.1 HW.out.2.1 XW.out.2.2.2.1.rw' XW.out.2.2.2.1.ag);have KC:=Lib.hid (XD.out.trans XR2.out.2);have E7:Hid (List.zipWith orI (List.zipWith orI (plcL (eventsB dss)) (fwL (eventsB dss) f)) (List.zipWith orI (rwL (eventsB dss) rows) (agL (eventsB dss) f rows))=pwL (eventsB dss) f rows):=Lib.hid HL.out.2.2.2.2.2.2.symm;have E8:Hid (List.zipWith orI (List.zipWith orI (baS dss strict) (miS dss strict f)) (List.zipWith orI (rwL (eventsB dss) rows) (agL (eventsB dss) f rows))=swS dss strict f rows):=Lib.hid (HM.out.2.2.2.2.2.2.symm.trans HW.out.2.2.2);have RC:=Lib.hid (And.intro (XF4.out.L.rd.keep KC.out) (And.intro (XY4.out.A.rd.keep KC.out) (And.intro (XF4.out.B.rd.keep KC.out) (And.intro (XY4.out.M.rd.keep KC.out) (XF4.out.K.rd.keep KC.out)))));go_upto_region 23 with fail
        go_cut [86] from 53 to 94 (fun c wx=>c = .bool (!(okT dss strict f rows))∧Keep wc wx)
        case first=>
         have XC1:=l2Join_any wc _ _ _ _ RC.out.1 RC.out.2.1 HL.out.2.2.2.1 HL.out.1;clear XF4 XT4 XY4 X7 XD g0;go_wp2_with fail
         refine XC1.mono ?_;rintro e w8 ⟨v8,rfl,o8,k8⟩;have XC2:=l2Join_any w8 _ _ _ _ o8.rd (XR2.out.1.keep k8) HL.out.2.2.2.2.2.1 HL.out.2.2.1;rw[E7.out] at XC2;have K8:=Lib.hid k8;clear XC1 o8 k8;go_wp2_with fail
         refine XC2.mono ?_;rintro e w9 ⟨v9,rfl,o9,k9⟩;have XC3:=l3Round_any w9 _ _ _ o9.row XW.out.2.2.2.2.1;have K9:=Lib.hid (K8.out.trans k9);clear XC2 o9 k9 K8;go_wp2_with fail
         refine XC3.mono ?_;rintro e w10 ⟨rfl,k10⟩;have K10:=Lib.hid (K9.out.trans k10);clear XC3 k10 K9;have hq2:Hid (okT dss strict f rows=(!roundB (pwL (eventsB dss) f rows)&&!roundB (liftL (swS dss strict f rows) (clsB (eventsB dss))))):=Lib.hid rfl;cases hq:roundB (pwL (eventsB dss) f rows)
         ·
          have hcl:(clsB (eventsB dss)).length=(eventsB dss).length:=by unfold clsB;rw[if_pos XB.out.n12,List.length_map]
          have hsw:=HW.out.2.2.1;have HLf:Hid ((clsB (eventsB dss)).map (fun c=>liftR (swS dss strict f rows) (clsB (eventsB dss)) c (swS dss strict f rows).length)=liftL (swS dss strict f rows) (clsB (eventsB dss))):=Lib.hid (by unfold liftL;rw[if_pos ⟨hsw.b,by rw[hcl,hsw.2.1]⟩]);have hlb:=Lib.hid ((web_lift hsw hcl).1.b);have HS:=Lib.hid (And.intro (show Web (swS dss strict f rows).length (swS dss strict f rows) by rw[hsw.2.1];exact hsw) (show (clsB (eventsB dss)).length=(swS dss strict f rows).length by rw[hcl,hsw.2.1]));have XQ:=Lib.hid hq;clear hsw hcl;have XC4:=l2Join_any w10 _ _ _ _ (RC.out.2.2.1.keep K10.out) (RC.out.2.2.2.1.keep K10.out) HM.out.2.2.2.1 HM.out.1;go_wp2_with fail
          refine XC4.mono ?_;rintro e w11 ⟨v11,rfl,o11,k11⟩;have K11:=Lib.hid (K10.out.trans k11);have XC5:=l2Join_any w11 _ _ _ _ o11.rd (XR2.out.1.keep K11.out) HM.out.2.2.2.2.2.1 HM.out.2.2.1;rw[E8.out] at XC5;clear XC4 o11 k11 K10;go_wp2_with fail
          refine XC5.mono ?_;rintro e w12 ⟨v12,rfl,o12,k12⟩;have K12:=Lib.hid (K11.out.trans k12);have XC6:=l3Lift_any w12 _ _ _ _ o12.rd (RC.out.2.2.2.2.keep K12.out) HS.out.1 HS.out.2;rw[HLf.out] at XC6;clear XC5 o12 k12 K11;go_wp2_with fail
          refine XC6.mono ?_;rintro e w13 ⟨v13,rfl,o13,k13⟩;have K13:=Lib.hid (K12.out.trans k13);have XC7:=l3Round_any w13 _ _ _ o13 hlb.out;clear XC6 o13 k13 K12;go_wp2_with fail
          refine XC7.mono ?_;rintro e w14 ⟨rfl,k14⟩;have K14:=Lib.hid (K13.out.trans k14);clear XC7 k14 K13;go_wp2;go_meet;case rel=>exact⟨by rw[hq2.out,XQ.out];simp,K14.out⟩
         ·
          have XQ:=Lib.hid hq;go_wp2;go_meet;case rel=>exact⟨by rw[hq2.out,XQ.out];rfl,K10.out⟩
        case rest=>
         obtain⟨rfl,K3⟩:=hcut;have XK3:=Lib.hid (XR2.out.2.trans K3);clear K3 RC E7 E8 HM HW HL KC XR2;have kr:=XD.out.trans XK3.out;have XKR:=Lib.hid kr;have hz7:=(Below.block XK3.out D g0).trans X7.out.2.2.2
         have hnk:wrap64 ((k:Int)+1)=((k+1:Nat):Int):=by
          have h6:rcntL (eventsB dss)≤373248000:=by have h:=(rcnt_six XB.out.ok).2;unfold rcntB at h;rw[if_pos XB.out.ok] at h;exact h
          rw[wrap64_small _ (by omega) (by omega)];omega
         have XNK:=Lib.hid hnk;clear kr hnk g0;cases hok:okT dss strict f rows
         ·
          have XO:=Lib.hid hok
          have XT5:Hid (TO w wc P vo ho (toldR dss strict f (toldK dss strict n) (k+1))):=Lib.hid (by
           rw[toldR,if_neg (by rw[←XR.out,XO.out];simp)]
           exact XT4.out.keep XKR.out)
          clear hok hz7;go_wp2;go_roundg (rnS dss-(k+1))
          case measure=>have:=XKL.out;have:=XM.out.1;omega
          case rel=>exact⟨k+1,vo,ho,P,rfl,by rw[XNK.out],rfl,by have:=XKL.out;omega,XT5.out,XF4.out.on (PStay.of_keep XKR.out),XY4.out.on (PStay.of_keep XKR.out)⟩
         ·
          have XO:=Lib.hid hok;clear hok;have CU:=l10Outcome_any wc ve _ _ (eventsB dss) f rows (XF4.out.E.rd.keep XKR.out) (X7.out.2.1.keep XK3.out) (X7.out.2.2.1.keep XK3.out) XB.out.n12 XW.out.1.1 XW.out.1.2.1 XW.out.1.2.2 XW.out.2.2.1.1 XW.out.2.2.1.2;go_wp2_with (first|refine wpList_load_row rfl 52 _ rfl D rfl 52 _ (0,0) _ hz7 Tryz.underlying52 rfl tale_infoX ?_|fail)
          refine CU.mono ?_;rintro e w8 ⟨u8,rfl,o8,k8⟩;have K8:=Lib.hid (XKR.out.trans k8);have T8:=Lib.hid (XT4.out.wide K8.out);have TS8:=Lib.hid (told_step (strict:=strict) XB.out.ok XL.out (k:=k) (Nat.le_of_lt XKL.out));rw[←XF.out] at TS8;have CP:=l16Put_any w8 _ w.heap.size vo u8 ho _ (ocL (eventsB dss) f rows) T8.out.o (fun g hg=>(T8.out.low g hg).2) o8.rd (fun g hg => .inr ⟨by have:=o8.ge g hg;have:=XKR.out.size;omega,(World.ownsRow.lt o8 g hg).2⟩) TS8.out.ord (by have:=TS8.out.len XB.out.ok;omega) (TS8.out.lens XB.out.ok) (T8.out.K.size);clear CU o8 k8 hz7;go_wp2_with fail
          refine CP.mono ?_;rintro e w9 ⟨v9,h9,rfl,o9,g9,-⟩;have T9:=Lib.hid (T8.out.put o9 g9)
          have XT5:Hid (TO w w9 (fun g=>P g∨(wr.heap.size≤g∧g<w8.heap.size)) v9 h9 (toldR dss strict f (toldK dss strict n) (k+1))):=Lib.hid (by
           rw[toldR,if_pos (by rw[←XR.out,XO.out]),←XR.out]
           exact T9.out.1)
          clear CP o9 g9;go_wp2;go_roundg (rnS dss-(k+1))
          case measure=>have:=XKL.out;have:=XM.out.1;omega
          case rel=>exact⟨k+1,v9,h9,_,rfl,by rw[XNK.out],rfl,by have:=XKL.out;omega,XT5.out,((XF4.out.on (PStay.of_keep K8.out)).mono (fun _ => .inl)).on T9.out.2,((XY4.out.on (PStay.of_keep K8.out)).mono (fun _ => .inl)).on T9.out.2⟩
      ·
       have hki:¬(k:Int)<rcntL (eventsB dss):=by omega
       have ek:k=rnS dss:=by have:=XM.out.2;omega
       have XT5:Hid (TO w wr P vo ho (toldK dss strict (n+1))):=Lib.hid (by
        have h:=XT4.out;rw[ek,XF.out] at h
        exact h)
       clear ek hrn XM XT4 XY4;go_wp2;go_roundg (cnS dss-(n+1))
       case measure=>have:=XL.out;have:=XK.out;omega
       case rel=>exact⟨n+1,_,_,_,rfl,by (have h1:=XN.out.1;have h2:=XN.out.2;rw[show wrap64 ((n:Int)+1)=((n+1:Nat):Int) from by rw[wrap64_small _ (by omega) (by omega)];omega]),rfl,by have:=XL.out;omega,XT5.out,XF4.out⟩
   ·
    have e:n=cnS dss:=by omega
    subst e;have hli:¬((cnS dss:Nat):Int)<((srcN (chcL (eventsB dss)) (chcL (eventsB dss)).length:Nat):Int):=by unfold cnS;omega
    have RR:=Lib.hid (XT.out.o.heldL XT.out.low);have e1:toldB dss strict=toldK dss strict (cnS dss):=by unfold toldB;rw[if_pos XB.out.ok]
    have KK:=XT.out.K;obtain⟨ao,co,rfl,-⟩:=id RR.out.rd;clear XT XX XK;go_wp2;go_ret;exact⟨_,rfl,by rw[e1];exact RR.out,KK⟩
end
theorem take_more {α:Type}(l:List α)(k:Nat)(z:α)(h:k<l.length):l.take (k+1)=l.take k++[l.getD k z]:=by
 rw[List.take_add_one,List.getElem?_eq_getElem h,List.getD_eq_getElem?_getD,List.getElem?_eq_getElem h];rfl
theorem all_more {α:Type}{f:α→Bool}{l:List α}{k:Nat}(z:α)(h:k<l.length)(h1:(l.take k).all f=true)(h2:f (l.getD k z)=true):(l.take (k+1)).all f=true:=by
 rw[take_more l k z h,List.all_append,h1];rw[List.all_cons,h2];rfl
theorem lenW_more (d:List Dd):∀l:List (List Dd),lenW (l++[d])=lenW l+d.length
 | []=>by simp[lenW]
 |x::r=>by rw[List.cons_append,lenW,lenW,lenW_more d r];omega
theorem workB_off {dss:List (List Dd)}{k:Nat}(hk:k<dss.length)(h:okL (dss.getD k [])=false):workB dss=false:=by
 rw[workB,all_not [] k hk h];simp
theorem specWorkOk_any (w:World)(v:Value)(dss:List (List Dd))(h:RdW w v dss)(hx:dss.length≤1048576)(hm:∀i,i<dss.length→(dss.getD i []).length≤1048576):
  Calls Tryz.prog 14 #[v] w fun e w'=>e = .returned (.bool (workB dss))∧Keep w w':=by
 have RW:=h;obtain⟨a,c,rfl,h⟩:=h;cases hb:inB (dss.length:Int) 1 3
 ·
  have HE:Hid (workB dss=false):=by
   refine Lib.hid ?_;simp[inB] at hb;rw[workB,decide_eq_false (by omega)];rfl
  go_enter Tryz.func14,Tryz.ntmps14
  go_wp2_with (go_at_call 43;refine (l1In_any _ _ _ _).mono ?_;rintro e w' ⟨rfl,rfl⟩)
  go_ret;exact⟨by rw[HE.out];rfl,Keep.refl _⟩
 ·
  have h13:1≤dss.length∧dss.length≤3:=by simp[inB] at hb;omega
  have HIN:=Lib.hid h13;have h3:=h13.2;clear h13;go_enter Tryz.func14,Tryz.ntmps14
  go_wp2_with (go_at_call 43;refine (l1In_any _ _ _ _).mono ?_;rintro e w' ⟨rfl,rfl⟩)
  clear hb;go_loopw [3,4] (fun n i wr=>∃k m:Nat,k≤dss.length∧n = .int .i64 m∧i = .int .i64 k∧Hid (m=lenW (dss.take k)∧(dss.take k).all okL=true)∧m≤5*k∧Keep w' wr) (fun _ i _=>dss.length-(intOf i).toNat)
  case atStart=>exact⟨0,0,Nat.zero_le _,rfl,rfl,Lib.hid (by simp[lenW]),by omega,Keep.refl _⟩
  case round=>
   obtain⟨k,m,hk,rfl,rfl,hM,m5,hK⟩:=hrel;by_cases hlt:k<dss.length
   ·
    rcases h with h|⟨b,o,rfl,hb,hc⟩
    · exfalso;rw[h] at hlt;simp at hlt
    obtain⟨u,e1,r1⟩:=hc k hlt;have hmk:=hm k hlt;clear hc hm RW;obtain⟨ds,hds⟩:∃ds,ds=dss.getD k []:=⟨_,rfl⟩;have HDS:=Lib.hid hds;rw[←hds] at r1 hmk;clear hds;obtain⟨ai,ci,rfl,r1⟩:=r1;have d1:=(hK.cell hb).trans e1;have i1:(0:Int)≤(k:Int):=Int.natCast_nonneg _;have i2:(k:Int)<(dss.length:Int):=by omega
    go_wp2;go_loopw [5] (fun i wq=>∃q:Nat,q≤ds.length∧i = .int .i64 q∧Hid ((ds.take q).all okD=true)∧Keep w' wq) (fun i _=>ds.length-(intOf i).toNat)
    case atStart=>exact⟨0,Nat.zero_le _,rfl,Lib.hid (by simp),hK⟩
    case round=>
     obtain⟨q,hq,rfl,hQ,hL⟩:=hrel;have d1:=(hL.cell hb).trans e1;by_cases hlq:q<ds.length
     ·
      rcases r1 with h|⟨b2,o2,rfl,hb2,hc2⟩
      · exfalso;rw[h] at hlq;simp at hlq
      have AT:=(hc2 q hlq).keep hb2 hL;clear hc2;have hbq:b<wr.heap.size:=Nat.lt_of_lt_of_le hb hL.size;have hb3:b2<wr.heap.size:=Nat.lt_of_lt_of_le hb2 hL.size;have j1:(0:Int)≤(q:Int):=Int.natCast_nonneg _;have j2:(q:Int)<(ds.length:Int):=by omega
      have HT:okD (ds.getD q zD)=true→Hid ((ds.take (q+1)).all okD=true):=fun e=>Lib.hid (all_more zD hlq hQ.out e)
      have HF:okD (ds.getD q zD)=false→Hid (workB dss=false):=fun e=>Lib.hid (workB_off hlt (by rw[←HDS.out,okL,all_not zD q hlq e];rfl))
      clear hQ;obtain⟨d,hd⟩:∃d,d=ds.getD q zD:=⟨_,rfl⟩;rw[←hd] at AT HT HF;clear hd;obtain⟨x0,x1,x2,x3⟩:=d;obtain⟨A0,A1,A2,A3⟩:=AT;simp only at A0 A1 A2 A3;unfold okD at HT HF;simp only at HT HF;cases hd:deedB x0 x1 x2 x3
      ·
       have HE:=HF hd;clear HT HF;go_wp2_with fail
       refine (specDeedOk_any _ _ _ _ _).mono ?_;rintro e wz ⟨rfl,kk⟩;go_wp2;go_ret;exact⟨by rw[HE.out];rfl,hL.trans kk⟩
      ·
       have HE:=HT hd;clear HT HF;go_wp2_with fail
       refine (specDeedOk_any _ _ _ _ _).mono ?_;rintro e wz ⟨rfl,kk⟩;go_wp2;go_roundw;case rel=>exact⟨q+1,by omega,by go_num,HE,hL.trans kk⟩
       case measure=>simp[intOf];omega
     ·
      obtain rfl:q=ds.length:=by omega
      rw[List.take_length] at hQ;by_cases h5:ds.length≤5
      ·
       have HE:Hid (m+ds.length=lenW (dss.take (k+1))∧(dss.take (k+1)).all okL=true):=by
        refine Lib.hid ⟨?_,all_more [] hlt hM.out.2 (by rw[←HDS.out,okL,hQ.out];simp[h5])⟩;rw[take_more dss k [] hlt,lenW_more,←HDS.out,hM.out.1]
       go_wp2;go_roundw;case rel=>exact⟨k+1,m+ds.length,by omega,by go_num,by go_num,HE,by omega,hL⟩
       case measure=>simp[intOf];omega
      ·
       have HE:Hid (workB dss=false):=Lib.hid (workB_off hlt (by rw[←HDS.out,okL];simp;omega));go_wp2;go_ret;exact⟨by rw[HE.out];rfl,hL⟩
   ·
    obtain rfl:k=dss.length:=by omega
    rw[List.take_length] at hM;have OKS:∀i,i<dss.length→okL (dss.getD i [])=true:=fun i hi=>all_get [] hM.out.2 i hi
    have HW:Hid (workB dss=(decide (m≤12)&&decide (evW dss dss.length≤6)&&grpB dss)):=by
     refine Lib.hid ?_;rw[workB,decide_eq_true HIN.out,hM.out.2,hM.out.1];rfl
    have rw1:=RW.keep hK;clear hM RW h hm;by_cases h12:m≤12
    ·
     have e12:decide ((m:Int)≤12)=true:=by simp;omega
     by_cases h6:evW dss dss.length≤6
     ·
      have HE:Hid (workB dss=grpB dss):=Lib.hid (by rw[HW.out];simp[h12,h6]);go_wp2_with fail
      refine (l5Events_any _ _ _ rw1 h3 OKS).mono ?_;rintro e wz ⟨rfl,kk⟩;have rw2:=rw1.keep kk;go_wp2_with fail
      refine (l5Groups_any _ _ _ rw2 h3 OKS).mono ?_;rintro e wy ⟨rfl,k2⟩;go_wp2;go_ret;exact⟨by rw[HE.out];rfl,(hK.trans kk).trans k2⟩
     ·
      have HE:Hid (workB dss=false):=Lib.hid (by rw[HW.out];simp[h6]);go_wp2_with fail
      refine (l5Events_any _ _ _ rw1 h3 OKS).mono ?_;rintro e wz ⟨rfl,kk⟩;go_wp2;go_ret;exact⟨by rw[HE.out];rfl,hK.trans kk⟩
    ·
     have HE:Hid (workB dss=false):=Lib.hid (by rw[HW.out];simp[h12]);go_wp2;go_ret;exact⟨by rw[HE.out];rfl,hK⟩
theorem specStrictTold_any (w:World)(v:Value)(dss:List (List Dd))(h:RdW w v dss)(hx:dss.length≤1048576)(hm:∀i,i<dss.length→(dss.getD i []).length≤1048576):
  Calls Tryz.prog 18 #[v] w fun e w'=>∃v' l,e = .returned v'∧HeldL w.heap.size w' v' l∧EndsOf dss true l∧Keep w w':=by
 have CW:=specWorkOk_any w v dss h hx hm;have HH:=Lib.hid h;obtain⟨av,cv,rfl,-⟩:=id h;clear h hm;go_enter Tryz.func18,Tryz.ntmps18
 go_wp2_with fail
 refine CW.mono ?_;rintro e w1 ⟨rfl,k1⟩;clear CW;cases hb:workB dss
 ·
  have HB:=Lib.hid hb;clear hb;go_wp2;go_ret;exact⟨_,[],rfl,heldL_nil _ _ _ _,⟨fun h=>(by rw[HB.out] at h;cases h),fun _=>rfl⟩,k1.alloc _⟩
 ·
  have HB:=Lib.hid hb;have CE:=l17Told_any w1 _ dss true (HH.out.keep k1) hb;clear hb;go_wp2_with fail
  refine CE.mono ?_;rintro e w2 ⟨v2,rfl,r2,k2⟩;have HI:=Lib.hid (told_ends HB.out true);clear CE;go_wp2;go_ret;exact⟨_,_,rfl,r2.low k1.size,⟨fun _=>HI.out,fun h=>(by rw[HB.out] at h;cases h)⟩,k1.trans k2⟩
end Go.Proofs.YtkmjmnljkidobaaGreat
