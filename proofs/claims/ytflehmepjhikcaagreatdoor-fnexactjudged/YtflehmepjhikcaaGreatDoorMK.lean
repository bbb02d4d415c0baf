/- Gathered texts. -/
import Derived.Test.YtflehmepjhikcaaGreatDoorMJ
import Derived.BigRegion
import Derived.Deep.CutRange
import Derived.Lib.Hide
import Derived.BigQuiet
import Derived.Deep.Cut
import Derived.Outline
import Derived.Laws.AppendOwnNone
import Derived.RegionTactic
import Derived.Deep.RegionLaw
set_option maxRecDepth 100000
set_option maxHeartbeats 8000000
namespace Go.Proofs.YtflehmepjhikcaaGreatDoor
open Go.ChangeShapes Go.WideShapes Go.ChangeAt Go.RowKit
abbrev KAS:=@List.setIfInBounds_toArray
abbrev KBV:=@AllReadyH.cons
abbrev KBc:=@AllReadyH.nil
abbrev KBm:=@wpAnyH_ready
abbrev KCI:=@World.ownsRow.alloc
abbrev KCd:=@wp_region_held_drew
theorem NN (g:Int)(n:Nat)(f:List Int):(Df g n f).length=f.length:=by unfold Df;split<;>simp
theorem EN (w:World)(v:Value)(AA:List (List Dd))(h:Fw w v AA)(hx:AA.length<=3)(hok:∀i,i<AA.length->GQ (AA.getD i [])=true):
  Calls Tryz.prog 34 #[v] w fun e w'=>∃v',e = .returned v'/\GV w' w.heap.size v' (BB AA AA.length)/\AC w w':=by
 obtain⟨a,c,rfl,h⟩:=h;obtain⟨i0,hi,hz0,hz1,hz2⟩:=KA3 Tryz.FM;obtain⟨j0,hj,hy0,hy1,hy2⟩:=KA3 Tryz.Z7;have A0:GV (w.alloc (.cells #[] 85)) w.heap.size (.slice (some ⟨w.heap.size,0,none⟩) 0 0) []:=Mw w;go_enter Tryz.func34,Tryz.ntmps34
 go_wp2;go_loopw [3,4] (fun v i wr=>∃k:Nat,∃m:Int,∃es:List Ev,k<=3/\i = .int .i64 m/\m=(k:Int)/\Hid (es=Ci.take k)/\es.length<=k/\GV wr w.heap.size v es/\AC w wr) (fun _ i _=>3-(intOf i).toNat)
 case atStart=>exact⟨0,0,[],KAb _,rfl,rfl,AI rfl,KAM _,A0,(AC.refl _).alloc _⟩
 case round=>
  obtain⟨k,m,es,hk,rfl,hm,hE,hel,ho,hK⟩:=hrel;clear A0;have hsz:=hK.size;by_cases hlt:k<3
  ·
   subst hm
   have HM:Hid (es++[((-1:Int),(-1:Int),false,(k:Int),0,(k:Int))]=Ci.take (k+1)):=AI (by
    rw[hE.out];have:k=0\/k=1\/k=2:=by omega
    rcases this with rfl|rfl|rfl<;>rfl)
   clear hE;go_wp2_with (at_builtin;refine KAe _ rfl _ _ 51 rfl w.heap.size 85 j0 (.agg #[.int .i64 0,.int .i64 0,.bool false,.int .i64 0,.int .i64 0,.int .i64 0]) 6 48 Tryz.underlying51 hj hy0 hy1 hy2 rfl (by decide) _ _ _ rfl (ho.keep ((AC.refl _).alloc _)) ⟨_,0,none⟩ 1 1 (cE ((-1:Int),(-1:Int),false,(k:Int),0,(k:Int))) rfl rfl ?c1 ?c2 ?c3 ?c4 ?c5 ?_)
   case c1=>exact M3 _ _ _ _ _ _ _
   case c2=>exact M4 _
   case c3=>unfold maxLen;omega
   case c4=>omega
   case c5=>simp;omega
   intro v' w1 hown' hgrow _ _;have hK1:AC w w1:=(hK.alloc _).grown hgrow ho.ge;have hA:=KN hown';clear hgrow hown';go_wp2;go_roundw;case rel=>exact⟨k+1,_,_,by omega,rfl,by omega,HM,by simp;omega,hA,hK1⟩
   case measure=>simp[intOf];omega
  obtain rfl:m=3:=by omega
  have HB:Hid (es=BB AA 0):=AI (by rw[hE.out,show k=3 by omega];rfl);clear hE hm;go_wp2;go_loopw [3,5] (fun v i wr=>∃k:Nat,∃es:List Ev,k<=AA.length/\i = .int .i64 k/\Hid (es=BB AA k)/\es.length<=3+10*k/\GV wr w.heap.size v es/\AC w wr) (fun _ i _=>AA.length-(intOf i).toNat)
  case atStart=>exact⟨0,es,KAb _,rfl,HB,by omega,ho,hK⟩
  case round=>
   clear HB hel ho hK hsz hlt hk;obtain⟨k,es,hk,rfl,hE,hel,ho,hK⟩:=hrel;have hsz:=hK.size;by_cases hlt:k<AA.length
   ·
    rcases h with h|⟨b,o,rfl,hb,hc⟩
    . exfalso;rw[h] at hlt;simp at hlt
    obtain⟨u,e1,r1⟩:=hc k hlt;have Mp:=hok k hlt;clear hc hok;obtain⟨ds,hds⟩:∃ds,ds=AA.getD k []:=⟨_,rfl⟩;have MR:=AI hds;rw[<-hds] at r1 Mp;clear hds;obtain⟨ai,ci,rfl,r1⟩:=r1;have d1:=(hK.cell hb).trans e1;have i1:(0:Int)<=(k:Int):=KAK _;have i2:(k:Int)<(AA.length:Int):=by omega
    have hl5:ds.length<=5:=by simp[GQ] at Mp;omega
    obtain⟨wo,hwo⟩:∃wo:World,wo=wr:=⟨_,rfl⟩;subst hwo;go_wp2_with (at_make;refine wpList_make_full _ rfl _ _ 25 rfl wo.heap.size 2 i0 (.int .i64 0) 1 Tryz.underlying25 hi hz0 hz1 .i64 .i64 _ _ 10 rfl rfl rfl rfl (by rw[hz2];omega) (by unfold maxLen;omega) (KAM _) ?_;intro w1 hown hgrow)
    have k1:AC wo w1:=(AC.refl wo).grown hgrow (by simp)
    have rb:Dk w1 wo.heap.size (List.replicate 10 0):=by
     have o:A8 w1 wo.heap.size (.slice (some ⟨wo.heap.size,0,none⟩) 10 10) (List.replicate 10 0):=by
      rw[Sp] at hown;unfold A8;simpa using hown
     rcases o.row with ⟨e,_⟩|⟨g,cap,e,_,hr⟩
     . cases e
     ·
      have e1:=KBf Value.ownBlock e;simp[Value.ownBlock] at e1;rw[e1];exact hr
    clear hgrow hown;have L0:lQ w w1 wo.heap.size _ es (List.replicate 10 0):=⟨ho.keep k1,rb,hK.trans k1,hsz,fun e=>by have:=(ho.lt _ e).2;omega⟩;go_loopw [3,7] (fun v i wq=>∃q:Nat,∃evs:List Ev,∃f:List Int,q<=ds.length/\i = .int .i64 q/\Hid (Bg k ds es q=(evs,f))/\Hid (f.length=10)/\evs.length<=3+10*k+2*q/\lQ w wq wo.heap.size v evs f) (fun _ i _=>ds.length-(intOf i).toNat)
    case atStart=>exact⟨0,es,_,KAb _,rfl,AI rfl,AI rfl,by omega,L0⟩
    case round=>
     clear L0 rb k1 w1 d1;obtain⟨q,evs,f,hq,rfl,hC,hfl,hev,hI⟩:=hrel;have d1:=(hI.keep.cell hb).trans e1;have hbq:b<wr.heap.size:=KAC hb hI.keep.size;by_cases hlq:q<ds.length
     ·
      rcases r1 with h|⟨b2,o2,rfl,hb2,hc2⟩
      . exfalso;rw[h] at hlq;simp at hlq
      have AT:=(hc2 q hlq).keep hb2 hI.keep
      have Vu:Fy (ds.getD q zD)=true:=by
       simp only[GQ,KAO] at Mp;exact Bm zD Mp.1 q hlq
      clear hc2 Mp;have hb3:b2<wr.heap.size:=KAC hb2 hI.keep.size;have HST:Hid (Bg k ds es (q+1)=FA k q (ds.getD q zD) (evs,f)):=AI (by rw[Bg,hC.out]);clear hC;obtain⟨d,hd⟩:∃d,d=ds.getD q zD:=⟨_,rfl⟩;rw[<-hd] at AT Vu HST;clear hd;have KD:=Cf Vu;have RD:=Cl Vu;obtain⟨x0,x1,x2,x3⟩:=d;obtain⟨A0,A1,A2,A3⟩:=AT;simp only at A0 A1 A2 A3 KD RD;obtain⟨-,-,r2,r3,r4⟩:=RD;obtain⟨g,rfl⟩:=KAn r2;have j1:(0:Int)<=(q:Int):=KAK _;have j2:(q:Int)<(ds.length:Int):=by omega
      have j3:(0:Int)<=(g:Int):=KAK _;have j4:(g:Int)<10:=by omega
      have hg9:g<10:=by omega
      clear r2 r3 Vu;obtain⟨av,cv,rfl⟩:=hI.app.shape;rcases KD with rfl|rfl|rfl|rfl
      ·
       obtain⟨f',hf'⟩:∃f',f'=Df (g:Int) evs.length f:=⟨_,rfl⟩;obtain⟨cl,hcl⟩:∃cl,cl=C9 (g:Int) evs.length f:=⟨_,rfl⟩;have HS:Hid (Bg k ds es (q+1)=(evs++[((k:Int),(q:Int),true,x1,0,cl)],f')):=AI (by rw[HST.out,hf',hcl];rfl);have hfl':Hid (f'.length=10):=AI (by rw[hf',NN];exact hfl.out);have HF:=AI hf';have HC:=AI hcl;clear HST hf' hcl;clear r4;go_upto_if 61 with fail
       have I1:=hI.boxes 1 x1 x2 (g:Int) (k:Int) (q:Int) true x1 0 (evs.length:Int);go_cut [] from 29 to 99 (fun wx=>Hh w wx wo.heap.size wr.heap.size (wr.heap.size+1) (.slice av evs.length cv) evs f 1 x1 x2 g k q true x1 0 evs.length)
       case first=>
        go_wp2;go_meet;case rel=>exact I1
       case rest=>
        clear I1 A0 A1 A2 A3 d1;have IH:=hcut;clear hcut;obtain⟨t0,t1,t2,t3⟩:=IH.deed;obtain⟨s0,s1,s2,s3,s4,s5⟩:=IH.event;have F2:=IH.free 2;have F4:=IH.free 4;have F5:=IH.free 5;obtain⟨z1,z2,z3⟩:=IH.lt;go_upto_if 67 with fail
        go_cut [] from 29 to 99 (fun wx=>Hh w wx wo.heap.size wr.heap.size (wr.heap.size+1) (.slice av evs.length cv) evs f' 1 x1 x2 g k q true x1 0 cl)
        case first=>
         by_cases g0:g=0
         ·
          have n0:(g:Int)<=0:=by omega
          have E1:Hid (f'=f):=AI (by rw[HF.out,Df,KAQ (by omega)]);have E2:Hid (cl=(evs.length:Int)):=AI (by rw[HC.out,C9,KAQ (by omega)]);go_wp2;go_meet;case rel=>rw[E1.out,E2.out];exact IH
         ·
          have n0:(0:Int)<(g:Int):=by omega
          have gg:Hid (f'.getD g 0=cl):=AI (by rw[HC.out,HF.out,C9,KAP n0,KAV]);have Zw:=IH.l.row.cell (j:=g) (by rw[hfl.out];exact hg9);obtain⟨y,hy⟩:∃y,y=f.getD g 0:=⟨_,rfl⟩;rw[<-hy] at Zw;have HY:=AI hy;have FG:=IH.l.row.free g;clear hy g0;go_upto_if 73 with fail
          go_cut [] from 29 to 99 (fun wx=>Hh w wx wo.heap.size wr.heap.size (wr.heap.size+1) (.slice av evs.length cv) evs f' 1 x1 x2 g k q true x1 0 evs.length)
          case first=>
           by_cases y0:y=0
           ·
            have E1:Hid (f'=f.set g (evs.length:Int)):=AI (by rw[HF.out,Df,KAV,KAP ⟨n0,by rw[<-HY.out];exact y0⟩]);subst y0;go_wp2;go_meet;case rel=>rw[E1.out];exact IH.wU g _
           ·
            have E1:Hid (f'=f):=AI (by rw[HF.out,Df,KAV,KAQ (fun e=>y0 (HY.out.trans e.2))]);have ey:(y==0)=false:=by simp[y0]
            clear y0;go_wp2;go_meet;case rel=>rw[E1.out];exact IH
          case rest=>
           clear t0 t1 t2 t3 s0 s1 s2 s3 s4 s5 F2 F4 F5 z1 z2 z3;clear Zw FG IH;have Zw:=hcut.l.row.cell (j:=g) (by rw[hfl'.out];exact hg9);rw[gg.out] at Zw;obtain⟨t0,t1,t2,t3⟩:=hcut.deed;obtain⟨s0,s1,s2,s3,s4,s5⟩:=hcut.event;have F2:=hcut.free 2;have F4:=hcut.free 4;have F5:=hcut.free 5;obtain⟨z1,z2,z3⟩:=hcut.lt;go_wp2;go_meet;case rel=>exact hcut.set5 _
        case rest=>
         clear t0 t1 t2 t3 s0 s1 s2 s3 s4 s5 F2 F4 F5 z1 z2 z3;clear IH hI;obtain⟨t0,t1,t2,t3⟩:=hcut.deed;obtain⟨s0,s1,s2,s3,s4,s5⟩:=hcut.event;have F2:=hcut.free 2;have F4:=hcut.free 4;have F5:=hcut.free 5;obtain⟨z1,z2,z3⟩:=hcut.lt;go_wp2_with (at_builtin;refine KAe _ rfl _ _ 51 rfl w.heap.size 85 j0 (.agg #[.int .i64 0,.int .i64 0,.bool false,.int .i64 0,.int .i64 0,.int .i64 0]) 6 48 Tryz.underlying51 hj hy0 hy1 hy2 rfl (by decide) _ _ _ rfl (hcut.l.app.keep ((AC.refl _).alloc _)) ⟨_,0,none⟩ 1 1 (cE ((k:Int),(q:Int),true,x1,0,cl)) rfl rfl ?a1 ?a2 ?a3 ?a4 ?a5 ?_)
         case a1=>exact M3 _ _ _ _ _ _ _
         case a2=>exact M4 _
         case a3=>unfold maxLen;omega
         case a4=>omega
         case a5=>simp;omega
         intro v' w5 hown' hgrow _ hbl;have I5:=hcut.hit ((k:Int),(q:Int),true,x1,0,cl) hown' hgrow hbl;clear hown' hgrow hbl;obtain⟨es1,h1⟩:∃es1,es1=evs++[((k:Int),(q:Int),true,x1,0,cl)]:=⟨_,rfl⟩;have l1:es1.length<=evs.length+1:=by rw[h1];simp
         rw[<-h1] at I5;clear t0 t1 t2 t3 s0 s1 s2 s3 s4 s5 F2 F4 F5 z1 z2 z3;clear hcut;obtain⟨t0,t1,t2,t3⟩:=I5.deed;obtain⟨s0,s1,s2,s3,s4,s5⟩:=I5.event;have F2:=I5.free 2;have F4:=I5.free 4;have F5:=I5.free 5;obtain⟨z1,z2,z3⟩:=I5.lt;have HS1:Hid (Bg k ds es (q+1)=(es1,f')):=AI (by rw[HS.out,h1]);clear h1 HS;go_wp2;go_roundw;case rel=>exact⟨q+1,es1,f',by omega,by go_num,HS1,hfl',by omega,I5.l⟩
         case measure=>simp[intOf];omega
      ·
       obtain⟨f',hf'⟩:∃f',f'=Df (g:Int) evs.length f:=⟨_,rfl⟩;obtain⟨cl,hcl⟩:∃cl,cl=C9 (g:Int) evs.length f:=⟨_,rfl⟩;have HS:Hid (Bg k ds es (q+1)=(evs++[((k:Int),(q:Int),false,x1,x2,cl)],f')):=AI (by rw[HST.out,hf',hcl];rfl);have hfl':Hid (f'.length=10):=AI (by rw[hf',NN];exact hfl.out);have HF:=AI hf';have HC:=AI hcl;clear HST hf' hcl;clear r4;go_upto_if 61 with fail
       have I1:=hI.boxes 2 x1 x2 (g:Int) (k:Int) (q:Int) false x1 x2 (evs.length:Int);go_cut [] from 29 to 99 (fun wx=>Hh w wx wo.heap.size wr.heap.size (wr.heap.size+1) (.slice av evs.length cv) evs f 2 x1 x2 g k q false x1 x2 evs.length)
       case first=>
        go_wp2;go_meet;case rel=>exact I1
       case rest=>
        clear I1 A0 A1 A2 A3 d1;have IH:=hcut;clear hcut;obtain⟨t0,t1,t2,t3⟩:=IH.deed;obtain⟨s0,s1,s2,s3,s4,s5⟩:=IH.event;have F2:=IH.free 2;have F4:=IH.free 4;have F5:=IH.free 5;obtain⟨z1,z2,z3⟩:=IH.lt;go_upto_if 67 with fail
        go_cut [] from 29 to 99 (fun wx=>Hh w wx wo.heap.size wr.heap.size (wr.heap.size+1) (.slice av evs.length cv) evs f' 2 x1 x2 g k q false x1 x2 cl)
        case first=>
         by_cases g0:g=0
         ·
          have n0:(g:Int)<=0:=by omega
          have E1:Hid (f'=f):=AI (by rw[HF.out,Df,KAQ (by omega)]);have E2:Hid (cl=(evs.length:Int)):=AI (by rw[HC.out,C9,KAQ (by omega)]);go_wp2;go_meet;case rel=>rw[E1.out,E2.out];exact IH
         ·
          have n0:(0:Int)<(g:Int):=by omega
          have gg:Hid (f'.getD g 0=cl):=AI (by rw[HC.out,HF.out,C9,KAP n0,KAV]);have Zw:=IH.l.row.cell (j:=g) (by rw[hfl.out];exact hg9);obtain⟨y,hy⟩:∃y,y=f.getD g 0:=⟨_,rfl⟩;rw[<-hy] at Zw;have HY:=AI hy;have FG:=IH.l.row.free g;clear hy g0;go_upto_if 73 with fail
          go_cut [] from 29 to 99 (fun wx=>Hh w wx wo.heap.size wr.heap.size (wr.heap.size+1) (.slice av evs.length cv) evs f' 2 x1 x2 g k q false x1 x2 evs.length)
          case first=>
           by_cases y0:y=0
           ·
            have E1:Hid (f'=f.set g (evs.length:Int)):=AI (by rw[HF.out,Df,KAV,KAP ⟨n0,by rw[<-HY.out];exact y0⟩]);subst y0;go_wp2;go_meet;case rel=>rw[E1.out];exact IH.wU g _
           ·
            have E1:Hid (f'=f):=AI (by rw[HF.out,Df,KAV,KAQ (fun e=>y0 (HY.out.trans e.2))]);have ey:(y==0)=false:=by simp[y0]
            clear y0;go_wp2;go_meet;case rel=>rw[E1.out];exact IH
          case rest=>
           clear t0 t1 t2 t3 s0 s1 s2 s3 s4 s5 F2 F4 F5 z1 z2 z3;clear Zw FG IH;have Zw:=hcut.l.row.cell (j:=g) (by rw[hfl'.out];exact hg9);rw[gg.out] at Zw;obtain⟨t0,t1,t2,t3⟩:=hcut.deed;obtain⟨s0,s1,s2,s3,s4,s5⟩:=hcut.event;have F2:=hcut.free 2;have F4:=hcut.free 4;have F5:=hcut.free 5;obtain⟨z1,z2,z3⟩:=hcut.lt;go_wp2;go_meet;case rel=>exact hcut.set5 _
        case rest=>
         clear t0 t1 t2 t3 s0 s1 s2 s3 s4 s5 F2 F4 F5 z1 z2 z3;clear IH hI;obtain⟨t0,t1,t2,t3⟩:=hcut.deed;obtain⟨s0,s1,s2,s3,s4,s5⟩:=hcut.event;have F2:=hcut.free 2;have F4:=hcut.free 4;have F5:=hcut.free 5;obtain⟨z1,z2,z3⟩:=hcut.lt;go_wp2_with (at_builtin;refine KAe _ rfl _ _ 51 rfl w.heap.size 85 j0 (.agg #[.int .i64 0,.int .i64 0,.bool false,.int .i64 0,.int .i64 0,.int .i64 0]) 6 48 Tryz.underlying51 hj hy0 hy1 hy2 rfl (by decide) _ _ _ rfl (hcut.l.app.keep ((AC.refl _).alloc _)) ⟨_,0,none⟩ 1 1 (cE ((k:Int),(q:Int),false,x1,x2,cl)) rfl rfl ?a1 ?a2 ?a3 ?a4 ?a5 ?_)
         case a1=>exact M3 _ _ _ _ _ _ _
         case a2=>exact M4 _
         case a3=>unfold maxLen;omega
         case a4=>omega
         case a5=>simp;omega
         intro v' w5 hown' hgrow _ hbl;have I5:=hcut.hit ((k:Int),(q:Int),false,x1,x2,cl) hown' hgrow hbl;clear hown' hgrow hbl;obtain⟨es1,h1⟩:∃es1,es1=evs++[((k:Int),(q:Int),false,x1,x2,cl)]:=⟨_,rfl⟩;have l1:es1.length<=evs.length+1:=by rw[h1];simp
         rw[<-h1] at I5;clear t0 t1 t2 t3 s0 s1 s2 s3 s4 s5 F2 F4 F5 z1 z2 z3;clear hcut;obtain⟨t0,t1,t2,t3⟩:=I5.deed;obtain⟨s0,s1,s2,s3,s4,s5⟩:=I5.event;have F2:=I5.free 2;have F4:=I5.free 4;have F5:=I5.free 5;obtain⟨z1,z2,z3⟩:=I5.lt;have HS1:Hid (Bg k ds es (q+1)=(es1,f')):=AI (by rw[HS.out,h1]);clear h1 HS;go_wp2;go_roundw;case rel=>exact⟨q+1,es1,f',by omega,by go_num,HS1,hfl',by omega,I5.l⟩
         case measure=>simp[intOf];omega
      ·
       obtain⟨f',hf'⟩:∃f',f'=Df (g:Int) evs.length f:=⟨_,rfl⟩;obtain⟨cl,hcl⟩:∃cl,cl=C9 (g:Int) evs.length f:=⟨_,rfl⟩;have HS:Hid (Bg k ds es (q+1)=(evs++[((k:Int),(q:Int),true,x1,0,cl),((k:Int),(q:Int),false,x1,x2,cl)],f')):=AI (by rw[HST.out,hf',hcl];rfl);have hfl':Hid (f'.length=10):=AI (by rw[hf',NN];exact hfl.out);have HF:=AI hf';have HC:=AI hcl;clear HST hf' hcl;have n0:(g:Int)<=0:=by have:=r4 (by omega);omega
       clear r4;go_upto_if 61 with fail
       have I1:=hI.boxes 3 x1 x2 (g:Int) (k:Int) (q:Int) true x1 0 (evs.length:Int);go_cut [] from 29 to 99 (fun wx=>Hh w wx wo.heap.size wr.heap.size (wr.heap.size+1) (.slice av evs.length cv) evs f 3 x1 x2 g k q true x1 0 evs.length)
       case first=>
        go_wp2;go_meet;case rel=>exact I1
       case rest=>
        clear I1 A0 A1 A2 A3 d1;have IH:=hcut;clear hcut;obtain⟨t0,t1,t2,t3⟩:=IH.deed;obtain⟨s0,s1,s2,s3,s4,s5⟩:=IH.event;have F2:=IH.free 2;have F4:=IH.free 4;have F5:=IH.free 5;obtain⟨z1,z2,z3⟩:=IH.lt;go_upto_if 67 with fail
        go_cut [] from 29 to 99 (fun wx=>Hh w wx wo.heap.size wr.heap.size (wr.heap.size+1) (.slice av evs.length cv) evs f' 3 x1 x2 g k q true x1 0 cl)
        case first=>
         have E1:Hid (f'=f):=AI (by rw[HF.out,Df,KAQ (by omega)]);have E2:Hid (cl=(evs.length:Int)):=AI (by rw[HC.out,C9,KAQ (by omega)]);go_wp2;go_meet;case rel=>rw[E1.out,E2.out];exact IH
        case rest=>
         clear t0 t1 t2 t3 s0 s1 s2 s3 s4 s5 F2 F4 F5 z1 z2 z3;clear IH hI;obtain⟨t0,t1,t2,t3⟩:=hcut.deed;obtain⟨s0,s1,s2,s3,s4,s5⟩:=hcut.event;have F2:=hcut.free 2;have F4:=hcut.free 4;have F5:=hcut.free 5;obtain⟨z1,z2,z3⟩:=hcut.lt;go_wp2_with (at_builtin;refine KAe _ rfl _ _ 51 rfl w.heap.size 85 j0 (.agg #[.int .i64 0,.int .i64 0,.bool false,.int .i64 0,.int .i64 0,.int .i64 0]) 6 48 Tryz.underlying51 hj hy0 hy1 hy2 rfl (by decide) _ _ _ rfl (hcut.l.app.keep ((AC.refl _).alloc _)) ⟨_,0,none⟩ 1 1 (cE ((k:Int),(q:Int),true,x1,0,cl)) rfl rfl ?a1 ?a2 ?a3 ?a4 ?a5 ?_)
         case a1=>exact M3 _ _ _ _ _ _ _
         case a2=>exact M4 _
         case a3=>unfold maxLen;omega
         case a4=>omega
         case a5=>simp;omega
         intro v' w5 hown' hgrow _ hbl;have I5:=hcut.hit ((k:Int),(q:Int),true,x1,0,cl) hown' hgrow hbl;clear hown' hgrow hbl;obtain⟨es1,h1⟩:∃es1,es1=evs++[((k:Int),(q:Int),true,x1,0,cl)]:=⟨_,rfl⟩;have l1:es1.length<=evs.length+1:=by rw[h1];simp
         rw[<-h1] at I5;clear t0 t1 t2 t3 s0 s1 s2 s3 s4 s5 F2 F4 F5 z1 z2 z3;clear hcut;obtain⟨t0,t1,t2,t3⟩:=I5.deed;obtain⟨s0,s1,s2,s3,s4,s5⟩:=I5.event;have F2:=I5.free 2;have F4:=I5.free 4;have F5:=I5.free 5;obtain⟨z1,z2,z3⟩:=I5.lt;have HS1:Hid (Bg k ds es (q+1)=(es1++[((k:Int),(q:Int),false,x1,x2,cl)],f')):=AI (by rw[HS.out,h1,KA2];rfl);clear h1 HS;go_upto_region 26 with fail
         have zz:w.heap.size<=w5.heap.size:=I5.l.keep.size;have I6:=I5.set2 false;clear t0 t1 t2 t3 s0 s1 s2 s3 s4 s5 F2 F4 F5 z1 z2 z3;obtain⟨t0,t1,t2,t3⟩:=I6.deed;obtain⟨s0,s1,s2,s3,s4,s5⟩:=I6.event;have F2:=I6.free 2;have F4:=I6.free 4;have F5:=I6.free 5;obtain⟨z1,z2,z3⟩:=I6.lt;go_upto_region 27 with fail
         have I7:=I6.set4 x2;clear t0 t1 t2 t3 s0 s1 s2 s3 s4 s5 F2 F4 F5 z1 z2 z3;obtain⟨t0,t1,t2,t3⟩:=I7.deed;obtain⟨s0,s1,s2,s3,s4,s5⟩:=I7.event;have F2:=I7.free 2;have F4:=I7.free 4;have F5:=I7.free 5;obtain⟨z1,z2,z3⟩:=I7.lt;go_wp2_with (at_builtin;refine KAe _ rfl _ _ 51 rfl w.heap.size 85 j0 (.agg #[.int .i64 0,.int .i64 0,.bool false,.int .i64 0,.int .i64 0,.int .i64 0]) 6 48 Tryz.underlying51 hj hy0 hy1 hy2 rfl (by decide) _ _ _ rfl (I7.l.app.keep ((AC.refl _).alloc _)) ⟨_,0,none⟩ 1 1 (cE ((k:Int),(q:Int),false,x1,x2,cl)) rfl rfl ?b1 ?b2 ?b3 ?b4 ?b5 ?_)
         case b1=>exact ZN _ _ (by simp) _ _ _ _ _ _
         case b2=>exact M4 _
         case b3=>unfold maxLen;omega
         case b4=>omega
         case b5=>simp;omega
         intro v' w5 hown' hgrow _ hbl;have I8:=I7.hit ((k:Int),(q:Int),false,x1,x2,cl) hown' hgrow (by simpa using hbl);clear hown' hgrow hbl;clear t0 t1 t2 t3 s0 s1 s2 s3 s4 s5 F2 F4 F5 z1 z2 z3;clear I5 I6 I7;go_wp2;go_roundw;case rel=>exact⟨q+1,_,f',by omega,by go_num,HS1,hfl',by simp;omega,I8.l⟩
         case measure=>simp[intOf];omega
      ·
       have HS:Hid (Bg k ds es (q+1)=(evs,f)):=AI (by rw[HST.out];rfl);clear HST r4;go_wp2;go_roundw;case rel=>exact⟨q+1,evs,f,by omega,by go_num,HS,hfl,by omega,hI.more ((AC.refl _).alloc _)⟩
       case measure=>simp[intOf];omega
     ·
      obtain rfl:q=ds.length:=by omega
      go_wp2;go_roundw;case rel=>exact⟨k+1,evs,by omega,by go_num,AI (by rw[BB,<-MR.out,<-hE.out,hC.out]),by omega,hI.app,hI.keep⟩
      case measure=>simp[intOf];omega
   ·
    obtain rfl:k=AA.length:=by omega
    go_wp2;go_ret;exact⟨_,rfl,by rw[<-hE.out];exact ho,hK⟩
theorem Cn (w:World)(v:Value)(es:List Ev)(h:Yu w v es)(hx:es.length<=1048576):
  Calls Tryz.prog 25 #[v] w fun e w'=>∃v',e = .returned v'/\A8 w' w.heap.size v' (AW Af es)/\AC w w':=by
 have hown0:A8 (w.alloc (.cells #[] 2)) w.heap.size (.slice (some ⟨w.heap.size,0,none⟩) 0 0) []:=KAo w #[] 0 (KAM _) (by decide) rfl;obtain⟨a,cap,rfl,h⟩:=h;by_cases hl:12<es.length
 ·
  have HE:Hid (AW Af es=[]):=AI (by unfold AW;rw[KAQ (by omega)]);have l1:(12:Int)<(es.length:Int):=by omega
  go_enter Tryz.func25,Tryz.ntmps25
  go_wp2;refine wp_loop_rounds 1 ?_;rw[rounds_succ];go_wp2;go_ret;exact⟨_,rfl,by rw[HE.out];exact hown0,(AC.refl _).alloc _⟩
 have l1:es.length<=12:=by omega
 clear hl;have HE:Hid (AW Af es=Bh Af es es.length):=AI (by unfold AW;rw[KAP l1]);obtain⟨i0,hi,hz0,hz1,hz2⟩:=KA3 Tryz.FM;go_enter Tryz.func25,Tryz.ntmps25
 go_wp2;go_loopw [3,4] (fun v i wr=>∃k:Nat,k<=es.length/\i = .int .i64 k/\A8 wr w.heap.size v (Bh Af es k)/\AC w wr) (fun _ i _=>es.length-(intOf i).toNat)
 case atStart=>exact⟨0,KAb _,rfl,hown0,(AC.refl _).alloc _⟩
 case round=>
  obtain⟨k,hk,rfl,ho,hK⟩:=hrel;clear hown0;by_cases hlt:k<es.length
  ·
   rcases h with h|⟨b,off,rfl,hb,hc⟩
   . exfalso;rw[h] at hlt;simp at hlt
   have AT:=(hc k _ (Mh hlt)).keep hb hK;have hbw:b<wr.heap.size:=KAC hb hK.size;clear hc;have hml:(Bh Af es k).length<=k:=E0 Af es k;have hsz:=hK.size;have i1:(0:Int)<=(k:Int):=KAK _;have i2:(k:Int)<(es.length:Int):=by omega
   have l2:(es.length:Int)<=12:=by omega
   have HP:Hid (Bh Af es (k+1)=if Af (es.getD k zE)=true then Bh Af es k++[(k:Int)] else Bh Af es k):=AI rfl;obtain⟨e,he⟩:∃e,e=es.getD k zE:=⟨_,rfl⟩;rw[<-he] at AT HP;clear he;obtain⟨x0,x1,x2,x3,x4,x5⟩:=e;obtain⟨-,-,A2,-,-,-⟩:=qw AT;clear AT;cases x2
   ·
    have HM:Hid (Bh Af es (k+1)=Bh Af es k):=AI (by rw[HP.out];rfl);clear HP;go_wp2;go_roundw;case rel=>exact⟨k+1,by omega,by go_num,by rw[HM.out];exact ho,hK⟩
    case measure=>simp[intOf];omega
   ·
    have HM:Hid (Bh Af es (k+1)=Bh Af es k++[(k:Int)]):=AI (by rw[HP.out];rfl);clear HP;go_wp2_with (at_builtin;refine KBu _ rfl _ _ 25 rfl w.heap.size 2 i0 (.int .i64 0) 1 8 Tryz.underlying25 hi hz0 hz1 hz2 rfl (by decide) _ _ _ rfl (KCI ho _) ⟨_,0,none⟩ 1 1 [.int .i64 k] rfl rfl ?c1 ?c2 ?c3 ?c4 ?c5 ?_)
    case c1=>
     intro j u hj
     match j,hj with
     | 0,hj=>simp at hj;subst hj;simp[Addr.add]
    case c2=>intro u hu;simp at hu;subst hu;rfl
    case c3=>unfold maxLen;omega
    case c4=>omega
    case c5=>simp;omega
    intro v' w1 hown' hgrow _;have hK1:AC w w1:=(hK.alloc _).grown hgrow ho.ge;clear hgrow;go_wp2;go_roundw;case rel=>exact⟨k+1,by omega,by go_num,by rw[HM.out];exact B8 hown',hK1⟩
    case measure=>simp[intOf];omega
  ·
   obtain rfl:k=es.length:=by omega
   go_wp2;go_ret;exact⟨_,rfl,by rw[HE.out];exact ho,hK⟩
theorem UW (n reads:Int)(h0:0<=reads)(h1:reads<=12)(w:World):
  Calls Tryz.prog 73 #[.int .i64 n,.int .i64 reads] w fun e w'=>e = .returned (.bool (MW n reads))/\w'=w:=by
 have hw:IntKind.i64.wrap (reads-1)=reads-1:=by rw[KAk];omega
 have C1:=fun W=>Gh n 0 (reads-1) W
 have C2:=fun W=>Gh n 100 102 W
 have HE:Hid (MW n reads=(Co n 0 (reads-1)||Co n 100 102)):=AI rfl;generalize Co n 0 (reads-1)=A at C1 HE;generalize Co n 100 102=B at C2 HE;go_enter Tryz.func73,Tryz.ntmps73
 go_wp2_with fail
 refine (C1 w).mono ?_;rintro e w1 ⟨rfl,rfl⟩;cases A
 ·
  go_wp2_with fail
  refine (C2 _).mono ?_;rintro e w2 ⟨rfl,rfl⟩;go_wp2;go_ret;exact⟨by rw[HE.out];rfl,rfl⟩
 ·
  go_wp2;go_ret;exact⟨by rw[HE.out];rfl,rfl⟩
theorem Xi (w:World)(vR vV:Value)(rs vs:List Int)(reads:Int)(hr:Rd w vR rs)(hv:Rd w vV vs)(h0:0<=reads)(h1:reads<=12)(lr:rs.length<=2097152):
  Calls Tryz.prog 38 #[.agg #[vR,vV],.int .i64 reads] w fun e w'=>e = .returned (.bool (Q0 reads rs vs))/\AC w w':=by
 obtain⟨aR,cR,rfl,hr⟩:=hr;obtain⟨aV,cV,rfl,hv⟩:=hv;have HE:Hid (Q0 reads rs vs=((decide (rs.length<=6)&&decide (rs.length=vs.length))&&II reads rs vs rs.length)):=AI rfl;have CK:=fun (n:Int) (W:World)=>UW n reads h0 h1 W
 have K1:AC w (w.alloc (.cells #[.slice aR rs.length cR,.slice aV vs.length cV] 27)):=(AC.refl w).alloc _;have HR:=AI hr;have HV:=AI hv;clear hr hv;obtain⟨wA,Ho⟩:∃W:World,W=w.alloc (.cells #[.slice aR rs.length cR,.slice aV vs.length cV] 27):=⟨_,rfl⟩;rw[<-Ho] at K1;have b0:wA.cell? ⟨w.heap.size,0,none⟩=some (.slice aR rs.length cR):=by rw[Ho];exact AO (AC.refl _) 0
 have b1:wA.cell? ⟨w.heap.size,1,none⟩=some (.slice aV vs.length cV):=by rw[Ho];exact AO (AC.refl _) 1
 by_cases h6:6<rs.length
 ·
  have d6:(6:Int)<(rs.length:Int):=by omega
  have HN:Hid (Q0 reads rs vs=false):=AI (by rw[HE.out,KAi (by omega)];rfl);go_enter Tryz.func38,Tryz.ntmps38
  go_upto_region 1 with fail
  rw[<-Ho];clear Ho;go_wp2;go_ret;exact⟨by rw[HN.out];rfl,K1⟩
 ·
  have d6:decide ((6:Int)<(rs.length:Int))=false:=by rw[decide_eq_false_iff_not];omega
  by_cases hl:rs.length=vs.length
  ·
   have XL:=AI hl;have hle:((rs.length:Int) != (vs.length:Int))=false:=by rw[hl];simp
   have HN:Hid (Q0 reads rs vs=II reads rs vs rs.length):=AI (by rw[HE.out,KAl (by omega),KAl hl];rfl);clear hl;go_enter Tryz.func38,Tryz.ntmps38
   go_upto_region 1 with fail
   rw[<-Ho];clear Ho;go_wp2;go_loop [5] (fun i=>∃k:Nat,k<=rs.length/\i = .int .i64 k/\Hid (II reads rs vs k=true)) (fun i=>rs.length-(intOf i).toNat)
   case atStart=>exact⟨0,KAb _,rfl,AI rfl⟩
   case round=>
    obtain⟨k,hk,rfl,hq⟩:=hrel;by_cases hlt:k<rs.length
    ·
     have hlt2:k<vs.length:=by have:=XL.out;omega
     rcases HR.out with q|⟨bR,oR,rfl,hbR,dR⟩
     . exfalso;rw[q] at hlt;simp at hlt
     rcases HV.out with q|⟨bV,oV,rfl,pM,dV⟩
     . exfalso;rw[q] at hlt2;simp at hlt2
     have e1:=(K1.cell hbR).trans (dR k hlt);have e2:=(K1.cell pM).trans (dV k hlt2);have i1:(0:Int)<=(k:Int):=KAK _;have i2:(k:Int)<(rs.length:Int):=by omega
     have i3:(k:Int)<(vs.length:Int):=by omega
     have XS:Hid (II reads rs vs (k+1)=(MW (rs.getD k 0) reads&&Co (vs.getD k 0) 0 9)):=AI (by
      show (II reads rs vs k&&_)=_
      rw[hq.out,KBi])
     have CI:=fun (W:World)=>Gh (vs.getD k 0) 0 9 W
     have CX:=fun (W:World)=>CK (rs.getD k 0) W
     generalize rs.getD k 0=x at e1 CX XS;generalize vs.getD k 0=y at e2 CI XS;generalize MW x reads=A at CX XS;generalize Co y 0 9=B at CI XS;clear dR dV hlt2;go_wp2_with fail
     refine (CX _).mono ?_;rintro e w1 ⟨rfl,rfl⟩;cases A
     ·
      clear CI;go_wp2;go_ret;exact⟨by rw[HN.out,IJ (k:=k+1) (by rw[XS.out];rfl) (by omega)];rfl,K1⟩
     ·
      go_wp2_with fail
      refine (CI _).mono ?_;rintro e w2 ⟨rfl,rfl⟩;cases B
      ·
       go_wp2;go_ret;exact⟨by rw[HN.out,IJ (k:=k+1) (by rw[XS.out];rfl) (by omega)];rfl,K1⟩
      ·
       go_wp2;go_round
       case rel=>exact⟨k+1,by omega,by go_num,AI (by rw[XS.out];rfl)⟩
       case measure=>simp[intOf];omega
    ·
     obtain rfl:k=rs.length:=by omega
     go_wp2;go_ret;exact⟨by rw[HN.out,hq.out];rfl,K1⟩
  ·
   have hle:((rs.length:Int) != (vs.length:Int))=true:=by simp;omega
   have HN:Hid (Q0 reads rs vs=false):=AI (by rw[HE.out,KAi hl,KDN,KCe]);clear hl;go_enter Tryz.func38,Tryz.ntmps38
   go_upto_region 1 with fail
   rw[<-Ho];clear Ho;go_wp2;go_ret;exact⟨by rw[HN.out];rfl,K1⟩
theorem GS (w:World)(v vR vV:Value)(AA:List (List Dd))(rs vs:List Int)(h:Fw w v AA)(hr:Rd w vR rs)(hv:Rd w vV vs)(hx:AA.length<=1048576)(hm:∀i,i<AA.length->(AA.getD i []).length<=1048576)(lr:rs.length<=1048576):
  Calls Tryz.prog 13 #[v,.agg #[vR,vV]] w fun e w'=>e = .returned (.bool (Db AA rs vs))/\AC w w':=by
 have CW:=fun (W:World) (kW:AC w W)=>EX W v AA (h.keep kW) hx hm
 have KK:AC w ((w.alloc (.cells #[vR,vV] 27)).drew):=((AC.refl w).alloc _).drew;have z1:w.heap.size<((w.alloc (.cells #[vR,vV] 27)).drew).heap.size:=by rw[Az,AD];omega
 have b0:((w.alloc (.cells #[vR,vV] 27)).drew).cell? ⟨w.heap.size,0,none⟩=some vR:=AO (AC.refl _) 0;have b1:((w.alloc (.cells #[vR,vV] 27)).drew).cell? ⟨w.heap.size,1,none⟩=some vV:=AO (AC.refl _) 1;cases hb:AL AA
 ·
  have HE:Hid (Db AA rs vs=false):=AI (by rw[Db,hb];rfl);rw[hb] at CW;obtain⟨aR,cR,rfl,-⟩:=hr;obtain⟨aV,cV,rfl,-⟩:=hv;obtain⟨av,cv,rfl,-⟩:=h;go_enter Tryz.func13,Tryz.ntmps13
  go_wp2;refine KCd (S:=(fun w'=>w'.cell? ⟨w.heap.size,0,none⟩=some (.slice aR rs.length cR)/\w'.cell? ⟨w.heap.size,1,none⟩=some (.slice aV vs.length cV))) (by kernel_rfl) ?_ (fun hHeld=>?_)
  . go_keep
  refine Ax 0 5 (v:=?_) ?_ ?_;rotate_left
  ·
   intro wx hSw;go_simp;with_reducible rfl
  simp only[Act.put,KAS,KAa,KAc];refine KBm (rs:=[1]) (by kernel_rfl) (by simp) ?_;refine KBV rfl (fun K hK=>?_) KBc;go_simp;refine (CW _ KK).mono ?_;rintro e wz ⟨rfl,kk⟩;have z0:=z1;have KK:=KK.trans kk;have z1:=KAC z1 kk.size;go_wp2_with fail
  refine hK.out _ _ ?_ (fun hHeld=>?_)
  . exact⟨(kk.cell z0).trans hHeld.1,(kk.cell z0).trans hHeld.2⟩
  clear hK K;refine Ax 2 7 (v:=?_) ?_ ?_;rotate_left
  ·
   intro wx hSw;go_simp;with_reducible rfl
  simp only[Act.put,KAS,KAa,KAc];refine DY 3 8 rfl rfl (by kernel_rfl) (by kernel_rfl) (by kernel_rfl) (fun _ _ _ h=>h) (by rfl) (by assumption) ?_;simp only[Act.put,KAS,KAa,KAc];refine DY 4 9 rfl rfl (by kernel_rfl) (by kernel_rfl) (by kernel_rfl) (fun _ _ _ h=>h) (by rfl) (by assumption) ?_;simp only[Act.put,KAS,KAa,KAc];refine DY 5 10 rfl rfl (by kernel_rfl) (by kernel_rfl) (by kernel_rfl) (fun _ _ _ h=>h) (by rfl) (by assumption) ?_;simp only[Act.put,KAS,KAa,KAc];refine DY 6 11 rfl rfl (by kernel_rfl) (by kernel_rfl) (by kernel_rfl) (fun _ _ _ h=>h) (by rfl) (by assumption) ?_;simp only[Act.put,KAS,KAa,KAc];refine DY 7 12 rfl rfl (by kernel_rfl) (by kernel_rfl) (by kernel_rfl) (fun _ _ _ h=>h) (by rfl) (by assumption) ?_;simp only[Act.put,KAS,KAa,KAc];refine DY 8 13 rfl rfl (by kernel_rfl) (by kernel_rfl) (by kernel_rfl) (fun _ _ _ h=>h) (by rfl) (by assumption) ?_;refine Ax 9 14 (v:=?_) ?_ ?_;rotate_left
  ·
   intro wx hSw;go_simp;with_reducible rfl
  refine Ax 10 4 (v:=?_) ?_ ?_;rotate_left
  ·
   intro wx hSw;go_simp;with_reducible rfl
  simp only[Act.put,KAS,KAa,KAc];refine wpAnyH_done (by kernel_rfl) ?_ _;go_wp2;go_ret;exact⟨by rw[HE.out];rfl,KK⟩
 ·
  have CO:=fun (W:World) (kW:AC w W)=>Xi W vR vV rs vs (Oc AA) (hr.keep kW) (hv.keep kW) (GM AA).1 (GM AA).2 (by omega)
  obtain⟨u1,u2⟩:=BM hb;have hq9:(BB AA AA.length).length<=1048576:=by have:=Zg hb;omega
  have HE:Hid (Db AA rs vs=Q0 (Oc AA) rs vs):=AI (by rw[Db,hb,KBi]);rw[hb] at CW;generalize Q0 (Oc AA) rs vs=A at CO HE;obtain⟨aR,cR,rfl,-⟩:=hr;obtain⟨aV,cV,rfl,-⟩:=hv;obtain⟨av,cv,rfl,-⟩:=id h;go_enter Tryz.func13,Tryz.ntmps13
  go_wp2;refine KCd (S:=(fun w'=>w'.cell? ⟨w.heap.size,0,none⟩=some (.slice aR rs.length cR)/\w'.cell? ⟨w.heap.size,1,none⟩=some (.slice aV vs.length cV))) (by kernel_rfl) ?_ (fun hHeld=>?_)
  . go_keep
  refine Ax 0 5 (v:=?_) ?_ ?_;rotate_left
  ·
   intro wx hSw;go_simp;with_reducible rfl
  simp only[Act.put,KAS,KAa,KAc];refine KBm (rs:=[1]) (by kernel_rfl) (by simp) ?_;refine KBV rfl (fun K hK=>?_) KBc;go_simp;refine (CW _ KK).mono ?_;rintro e wz ⟨rfl,kk⟩;have z0:=z1;have KK:=KK.trans kk;have z1:=KAC z1 kk.size;go_wp2_with fail
  refine hK.out _ _ ?_ (fun hHeld=>?_)
  . exact⟨(kk.cell z0).trans hHeld.1,(kk.cell z0).trans hHeld.2⟩
  clear hK K;refine Ax 2 7 (v:=?_) ?_ ?_;rotate_left
  ·
   intro wx hSw;go_simp;with_reducible rfl
  refine Ax 3 8 (v:=?_) ?_ ?_;rotate_left
  ·
   intro wx hSw;go_simp;with_reducible rfl
  refine Ax 4 9 (v:=?_) ?_ ?_;rotate_left
  ·
   intro wx hSw;go_simp;with_reducible rfl
  simp only[Act.put,KAS,KAa,KAc];refine KBm (rs:=[5]) (by kernel_rfl) (by simp) ?_;refine KBV rfl (fun K hK=>?_) KBc;go_simp;refine (EN _ _ _ (h.keep KK) u1 u2).mono ?_;rintro e wz ⟨v2,rfl,a2,kk⟩;have z0:=z1;have KK:=KK.trans kk;have z1:=KAC z1 kk.size;have a2r:=a2.rd;obtain⟨ae,ce,rfl,-⟩:=id a2r;go_wp2_with fail
  refine hK.out _ _ ?_ (fun hHeld=>?_)
  . exact⟨(kk.cell z0).trans hHeld.1,(kk.cell z0).trans hHeld.2⟩
  clear hK K;refine KBm (rs:=[6]) (by kernel_rfl) (by simp) ?_;refine KBV rfl (fun K hK=>?_) KBc;go_simp;refine (Cn _ _ _ a2r hq9).mono ?_;rintro e wz ⟨v3,rfl,o3,kk⟩;have z0:=z1;have KK:=KK.trans kk;have z1:=KAC z1 kk.size;obtain⟨a3,c3,rfl,-⟩:=o3.rd;go_wp2_with fail
  refine hK.out _ _ ?_ (fun hHeld=>?_)
  . exact⟨(kk.cell z0).trans hHeld.1,(kk.cell z0).trans hHeld.2⟩
  clear hK K;refine Ax 7 12 (v:=?_) ?_ ?_;rotate_left
  ·
   intro wx hSw;go_simp;with_reducible rfl
  simp only[Act.put,KAS,KAa,KAc];refine KBm (rs:=[8]) (by kernel_rfl) (by simp) ?_;refine KBV rfl (fun K hK=>?_) KBc;go_simp;refine (CO _ KK).mono ?_;rintro e wz ⟨rfl,kk⟩;have z0:=z1;have KK:=KK.trans kk;have z1:=KAC z1 kk.size;go_wp2_with fail
  refine hK.out _ _ ?_ (fun hHeld=>?_)
  . exact⟨(kk.cell z0).trans hHeld.1,(kk.cell z0).trans hHeld.2⟩
  clear hK K;refine Ax 9 14 (v:=?_) ?_ ?_;rotate_left
  ·
   intro wx hSw;go_simp;with_reducible rfl
  refine Ax 10 4 (v:=?_) ?_ ?_;rotate_left
  ·
   intro wx hSw;go_simp;with_reducible rfl
  simp only[Act.put,KAS,KAa,KAc];refine wpAnyH_done (by kernel_rfl) ?_ _;go_wp2;go_ret;exact⟨by rw[HE.out];rfl,KK⟩
theorem Ko (w:World)(vR vV vo:Value)(rs vs one:List Int)(hr:Rd w vR rs)(hv:Rd w vV vs)(ho:Rd w vo one)(l6:rs.length<=6)(hl:rs.length=vs.length)(lo:one.length<=1048576)(ha:∀i,i<rs.length->(0<=rs.getD i 0/\rs.getD i 0<=102)/\0<=Gv one.length (rs.getD i 0)/\Gv one.length (rs.getD i 0)<(one.length:Int)):
  Calls Tryz.prog 33 #[.agg #[vR,vV],vo] w fun e w'=>e = .returned (.bool (DF rs vs one))/\AC w w':=by
 obtain⟨aR,cR,rfl,hr⟩:=hr;obtain⟨aV,cV,rfl,hv⟩:=hv;obtain⟨ao,co,rfl,ho⟩:=ho;have HE:Hid (DF rs vs one=Gi rs vs one rs.length):=AI rfl;have K1:AC w (w.alloc (.cells #[.slice aR rs.length cR,.slice aV vs.length cV] 27)):=(AC.refl w).alloc _;have HR:=AI hr;have HV:=AI hv;have HO:=AI ho;have HA:=AI ha;have XL:=AI hl;clear hr hv ho ha hl;obtain⟨wA,Ho⟩:∃W:World,W=w.alloc (.cells #[.slice aR rs.length cR,.slice aV vs.length cV] 27):=⟨_,rfl⟩;rw[<-Ho] at K1;have b0:wA.cell? ⟨w.heap.size,0,none⟩=some (.slice aR rs.length cR):=by rw[Ho];exact AO (AC.refl _) 0
 have b1:wA.cell? ⟨w.heap.size,1,none⟩=some (.slice aV vs.length cV):=by rw[Ho];exact AO (AC.refl _) 1
 have s1:w.heap.size<wA.heap.size:=by rw[Ho,AD];omega
 go_enter Tryz.func33,Tryz.ntmps33
 go_upto_region 1 with fail
 rw[<-Ho];clear Ho;have w3:IntKind.i64.wrap ((one.length:Int)-3)=(one.length:Int)-3:=by rw[KAk];omega
 obtain⟨n,hn⟩:∃n,n=one.length:=⟨_,rfl⟩;have XN:=AI hn;rw[<-hn] at w3 lo ⊢;clear hn;go_wp2;go_loopw [6,7] (fun i s7 wr=>∃k:Nat,k<=rs.length/\i = .int .i64 k/\(∃u,s7=u)/\Hid (Gi rs vs one k=true)/\Hid (AC wA wr)) (fun i _ _=>rs.length-(intOf i).toNat)
 case atStart=>exact⟨0,KAb _,rfl,⟨_,rfl⟩,AI rfl,AI (AC.refl _)⟩
 case round=>
  obtain⟨k,hk,rfl,⟨u7,rfl⟩,hq,hK⟩:=hrel;have f0:=(hK.out.cell s1).trans b0;have f1:=(hK.out.cell s1).trans b1;by_cases hlt:k<rs.length
  ·
   have hlt2:k<vs.length:=by have:=XL.out;omega
   rcases HR.out with q|⟨bR,oR,rfl,hbR,dR⟩
   . exfalso;rw[q] at hlt;simp at hlt
   rcases HV.out with q|⟨bV,oV,rfl,pM,dV⟩
   . exfalso;rw[q] at hlt2;simp at hlt2
   obtain⟨⟨g0,g1⟩,g2,g3⟩:=HA.out k hlt;rcases HO.out with q|⟨bo,oo,rfl,hbo,dO⟩
   ·
    exfalso;have:one.length=0:=by rw[q];rfl
    omega
   have e1:=((K1.trans hK.out).cell hbR).trans (dR k hlt);have e2:=((K1.trans hK.out).cell pM).trans (dV k hlt2);have e3:=((K1.trans hK.out).cell hbo).trans (dO (Gv one.length (rs.getD k 0)).toNat (by omega));have i1:(0:Int)<=(k:Int):=KAK _;have i2:(k:Int)<(rs.length:Int):=by omega
   have i3:(k:Int)<(vs.length:Int):=by omega
   have XS:Hid (Gi rs vs one (k+1)=decide (one.getD (Gv one.length (rs.getD k 0)).toNat 0=vs.getD k 0)):=AI (by
    show (Gi rs vs one k&&_)=_
    rw[hq.out,KBi])
   have hat:Gv one.length (rs.getD k 0)=if 100<=rs.getD k 0 then (one.length:Int)-3+rs.getD k 0-100 else rs.getD k 0:=rfl
   generalize one.getD (Gv one.length (rs.getD k 0)).toNat 0=z at e3 XS;generalize vs.getD k 0=y at e2 XS;generalize rs.getD k 0=x at e1 g0 g1 g2 g3 e3 hat;rw[<-XN.out] at g2 g3 e3 hat;clear dR dV dO hlt2;by_cases hg:100<=x
   ·
    rw[KAP hg] at hat;have w1:IntKind.i64.wrap ((n:Int)-3+x)=(n:Int)-3+x:=by rw[KAk];omega
    have w2:IntKind.i64.wrap ((n:Int)-3+x-100)=(n:Int)-3+x-100:=by rw[KAk];omega
    go_upto_region 8 with fail
    rw[<-hat];generalize Gv n x=at_ at g2 g3 e3 hat ⊢;have XT:=AI g2;clear hat w1 w2;obtain⟨q,hqe⟩:∃q:Nat,at_=(q:Int):=⟨at_.toNat,by omega⟩;rw[hqe] at g2 g3 e3 XT ⊢;rw[KAV] at e3;clear hqe;by_cases hzy:z=y
    ·
     subst hzy;go_wp2;go_quiet (fail)
     go_wp2;go_roundw;case rel=>exact⟨k+1,by omega,by go_num,⟨_,rfl⟩,AI (by rw[XS.out];simp),AI (hK.out.drewN _)⟩
     case measure=>simp[intOf];omega
    ·
     go_wp2;go_quiet (fail)
     go_wp2;go_ret;exact⟨by rw[HE.out,JE (k:=k+1) (by rw[XS.out,KAi hzy]) (by omega)];rfl,(K1.trans hK.out).drewN _⟩
   ·
    rw[KAQ hg] at hat;have hd:decide ((100:Int)<=x)=false:=KAi hg;go_upto_region 8 with fail
    rw[hat] at g2 g3 e3;clear hat hg hd;obtain⟨at_,hx⟩:∃a,a=x:=⟨_,rfl⟩;rw[<-hx] at g2 g3 e3 e1 ⊢;have XT:=AI g2;clear hx;obtain⟨q,hqe⟩:∃q:Nat,at_=(q:Int):=⟨at_.toNat,by omega⟩;rw[hqe] at g2 g3 e3 XT ⊢;rw[KAV] at e3;clear hqe;by_cases hzy:z=y
    ·
     subst hzy;go_wp2;go_quiet (fail)
     go_wp2;go_roundw;case rel=>exact⟨k+1,by omega,by go_num,⟨_,rfl⟩,AI (by rw[XS.out];simp),AI (hK.out.drewN _)⟩
     case measure=>simp[intOf];omega
    ·
     go_wp2;go_quiet (fail)
     go_wp2;go_ret;exact⟨by rw[HE.out,JE (k:=k+1) (by rw[XS.out,KAi hzy]) (by omega)];rfl,(K1.trans hK.out).drewN _⟩
  ·
   obtain rfl:k=rs.length:=by omega
   go_wp2;go_ret;exact⟨by rw[HE.out,hq.out];rfl,K1.trans hK.out⟩
section
structure EI (w0 w:World)(P:Nat->Prop)(AA:List (List Dd))(E Sn:List (List Int))(O:List Bd)(ve vs vo:Value)(he hs:List Value)(ho:List BV):Prop where
 low:∀g,P g->w0.heap.size<=g/\g<w.heap.size
 e:Gu w P w0.heap.size ve he E
 s:Gu w P w0.heap.size vs hs Sn
 o:Fd w P w0.heap.size vo ho AA O
 es:∀g,ve.ownBlock=some g->vs.ownBlock≠some g
 eo:∀g,ve.ownBlock=some g->vo.ownBlock≠some g
 so:∀g,vs.ownBlock=some g->vo.ownBlock≠some g
 K:AC w0 w
section
variable {w0 w w':World} {P:Nat->Prop} {AA:List (List Dd)} {E E' Sn Sn':List (List Int)} {O:List Bd} {ve vs vo v':Value} {he hs h':List Value} {ho:List BV}
theorem EI.keep (h:EI w0 w P AA E Sn O ve vs vo he hs ho)(k:AC w w'):EI w0 w' P AA E Sn O ve vs vo he hs ho:=
 ⟨fun g hg=>⟨(h.low g hg).1,KAC (h.low g hg).2 k.size⟩,h.e.kept k.grownBy (by simp),h.s.kept k.grownBy (by simp),h.o.kept k.grownBy (by simp),h.es,h.eo,h.so,h.K.trans k⟩
theorem EI.wide (h:EI w0 w P AA E Sn O ve vs vo he hs ho)(k:AC w w'):EI w0 w' (fun g=>P g\/(w.heap.size<=g/\g<w'.heap.size)) AA E Sn O ve vs vo he hs ho:=by
 have h1:=h.keep k
 have no:∀ {v:Value},(∀g,v.ownBlock=some g->¬P g)->(∀g,v.ownBlock=some g->g<w.heap.size)->∀g,v.ownBlock=some g->¬(P g\/(w.heap.size<=g/\g<w'.heap.size)):=fun q1 q2 g hg hp=>by
  rcases hp with hp|hp
  . exact q1 g hg hp
  . have:=q2 g hg;omega
 refine⟨fun g hg=>?_,h1.e.mono (fun _ => .inl) (no h.e.np (fun g hg=>(h.e.lt g hg).2)),h1.s.mono (fun _ => .inl) (no h.s.np (fun g hg=>(h.s.lt g hg).2)),h1.o.mono (fun _ => .inl) (no h.o.np (fun g hg=>(h.o.lt g hg).2)),h.es,h.eo,h.so,h1.K⟩;rcases hg with hg|hg
 . exact h1.low g hg
 . exact⟨KAU h.K.size hg.1,hg.2⟩
theorem JI {v v':Value}{w:World}(hb:v'.ownBlock=v.ownBlock\/∃g,v'.ownBlock=some g/\w.heap.size<=g){u:Value}(ha:∀g,v.ownBlock=some g->u.ownBlock≠some g)(hu:∀g,u.ownBlock=some g->g<w.heap.size):∀g,v'.ownBlock=some g->u.ownBlock≠some g:=fun g hg=>by
 rcases hb with e|⟨q,e,hq⟩
 . exact ha g (e ▸ hg)
 ·
  intro hug;have:=hu g hug;rw[e] at hg;have:=KAI hg;omega
theorem JF {u v:Value}(h:∀g,u.ownBlock=some g->v.ownBlock≠some g):∀g,v.ownBlock=some g->u.ownBlock≠some g:=fun g hv hu=>h g hu hv
theorem EI.jv (h:EI w0 w P AA E Sn O ve vs vo he hs ho)(o:Gu w' P w0.heap.size v' h' Sn')(hg:w.grownBy w' vs.ownBlock)(hb:v'.ownBlock=vs.ownBlock\/∃g,v'.ownBlock=some g/\w.heap.size<=g):EI w0 w' P AA E Sn' O ve v' vo he h' ho/\BA P w w':=
 ⟨⟨fun g hp=>⟨(h.low g hp).1,KAC (h.low g hp).2 hg.size⟩,h.e.kept hg (fun g hr=>⟨h.s.np g hr,fun q=>h.es g q hr⟩),o,h.o.kept hg (fun g hr=>⟨h.s.np g hr,fun q=>h.so g hr q⟩),
  JF (JI hb (JF h.es) (fun g hv=>(h.e.lt g hv).2)),h.eo,JI hb h.so (fun g hv=>(h.o.lt g hv).2),h.K.grown hg (fun g hr=>(h.s.lt g hr).1)⟩,BA.Dn hg h.s.np⟩
theorem EI.putE (h:EI w0 w P AA E Sn O ve vs vo he hs ho)(o:Gu w' P w0.heap.size v' h' E')(hg:w.grownBy w' ve.ownBlock)(hb:v'.ownBlock=ve.ownBlock\/∃g,v'.ownBlock=some g/\w.heap.size<=g):EI w0 w' P AA E' Sn O v' vs vo h' hs ho/\BA P w w':=
 ⟨⟨fun g hp=>⟨(h.low g hp).1,KAC (h.low g hp).2 hg.size⟩,o,h.s.kept hg (fun g hr=>⟨h.e.np g hr,fun q=>h.es g hr q⟩),h.o.kept hg (fun g hr=>⟨h.e.np g hr,fun q=>h.eo g hr q⟩),
  JI hb h.es (fun g hv=>(h.s.lt g hv).2),JI hb h.eo (fun g hv=>(h.o.lt g hv).2),h.so,h.K.grown hg (fun g hr=>(h.e.lt g hr).1)⟩,BA.Dn hg h.e.np⟩
theorem EI.pop {l:List Bd}{b:Bd}(h:EI w0 w P AA E Sn (l++[b]) ve vs vo he hs ho):
  ∃g cap bv,vo = .slice (some ⟨g,0,none⟩) (l.length+1) cap/\l.length+1<=cap/\DJ w P bv AA b/\EI w0 w P AA E Sn l ve vs (.slice (some ⟨g,0,none⟩) l.length cap) he hs (ho.take l.length)/\g<w.heap.size/\∀j,j<8->w.cell? ⟨g,l.length*8+j,none⟩=(cB bv)[j]?:=by
 obtain⟨g,cap,bv,rfl,h1,h2,h3,h4⟩:=h.o.pop;exact⟨g,cap,bv,rfl,h1,h2,⟨h.low,h.e,h.s,h3,h.es,h.eo,h.so,h.K⟩,(h.o.lt g rfl).2,h4⟩
theorem EI.push {b:Bd}{bv:BV}(h:EI w0 w P AA E Sn O ve vs vo he hs ho)(hb:DJ w P bv AA b)(o:w'.ownsRow w0.heap.size 103 8 v' (O.length+1) (ho.flatMap cB++cB bv))(hg:w.grownBy w' vo.ownBlock)(hn:v'.ownBlock=vo.ownBlock\/∃g,v'.ownBlock=some g/\w.heap.size<=g):EI w0 w' P AA E Sn (O++[b]) ve vs v' he hs (ho++[bv])/\BA P w w':=
 ⟨⟨fun g hp=>⟨(h.low g hp).1,KAC (h.low g hp).2 hg.size⟩,h.e.kept hg (fun g hr=>⟨h.o.np g hr,fun q=>h.eo g q hr⟩),h.s.kept hg (fun g hr=>⟨h.o.np g hr,fun q=>h.so g q hr⟩),
  h.o.push hb o hg (fun g hv hp=>by
   rcases hn with e|⟨q,e,hq⟩
   . exact h.o.np g (e ▸ hv) hp
   ·
    rw[e] at hv;have:=KAI hv;have:=(h.low g hp).2
    omega),h.es,JF (JI hn (JF h.eo) (fun g hv=>(h.e.lt g hv).2)),JF (JI hn (JF h.so) (fun g hv=>(h.s.lt g hv).2)),h.K.grown hg (fun g hr=>(h.o.lt g hr).1)⟩,BA.Dn hg h.o.np⟩
end
structure SG (AA:List (List Dd))(quick:Bool)(E Sn:List (List Int))(O:List Bd):Prop where
 si:SI AA quick ⟨E,Sn,O⟩
 yg:fw AA O
 len:E.length<=Sn.length
theorem qU {AA:List (List Dd)}(hb:AL AA=true)(quick:Bool):SG AA quick [] [] [C5 AA]:=⟨qV AA quick,kT hb,KAM _⟩
theorem SG.lens {AA:List (List Dd)}{quick:Bool}{E Sn:List (List Int)}{O:List Bd}(h:SG AA quick E Sn O)(hb:AL AA=true):E.length<=1099511627776/\Sn.length<=1099511627776/\O.length<=125:=by
 have h1:=eT hb h.si;have h2:=kS h.yg;have h3:=h.len;have h4:Jd<=1099511627776:=by decide
 exact⟨KAU h3 (KAU h1 h4),KAU h1 h4,h2⟩
theorem JD {l:List Bd}{b:Bd}:(l++[b]).getLast? = some b/\(l++[b]).dropLast=l:=⟨List.getLast?_concat,KCq⟩
theorem SG.old {AA:List (List Dd)}{quick:Bool}{E Sn:List (List Int)}{l:List Bd}{b:Bd}(h:SG AA quick E Sn (l++[b]))(hb:AL AA=true)(hs:Qn Sn (Ct b)=true):SG AA quick E Sn l/\KE AA l<KE AA (l++[b]):=by
 have e:J1 AA (AB AA) quick ⟨E,Sn,l++[b]⟩=⟨E,Sn,l⟩:=by
  unfold J1;simp only[JD.1,JD.2,hs,KCT]
 have h1:=Uu h.si;have h2:=RX hb h.si h.yg;have h3:=U6 hb h.si (by simp);rw[e] at h1 h2 h3;exact⟨⟨h1,h2,h.len⟩,h3⟩
theorem SG.end {AA:List (List Dd)}{quick:Bool}{E Sn:List (List Int)}{l:List Bd}{b:Bd}(h:SG AA quick E Sn (l++[b]))(hb:AL AA=true)(hs:Qn Sn (Ct b)=false)(he:Dl AA b=true):SG AA quick (Ek E (An b)) (Ek Sn (Ct b)) l/\KE AA l<KE AA (l++[b]):=by
 have e:J1 AA (AB AA) quick ⟨E,Sn,l++[b]⟩=⟨Ek E (An b),Ek Sn (Ct b),l⟩:=by
  unfold J1;simp only[JD.1,JD.2,hs,he,KCT];rfl
 have h1:=Uu h.si;have h2:=RX hb h.si h.yg;have h3:=U6 hb h.si (by simp);have h4:=Kb (AA:=AA) (es:=AB AA) (quick:=quick) (S:=⟨E,Sn,l++[b]⟩) h.len;rw[e] at h1 h2 h3 h4;exact⟨⟨h1,h2,h4⟩,h3⟩
theorem SG.on {AA:List (List Dd)}{quick:Bool}{E Sn:List (List Int)}{l:List Bd}{b:Bd}(h:SG AA quick E Sn (l++[b]))(hb:AL AA=true)(hs:Qn Sn (Ct b)=false)(he:Dl AA b=false):SG AA quick E (Ek Sn (Ct b)) (l++Bp AA (AB AA) quick b)/\KE AA (l++Bp AA (AB AA) quick b)<KE AA (l++[b]):=by
 have e:J1 AA (AB AA) quick ⟨E,Sn,l++[b]⟩=⟨E,Ek Sn (Ct b),l++Bp AA (AB AA) quick b⟩:=by
  unfold J1;simp only[JD.1,JD.2,hs,he];rfl
 have h1:=Uu h.si;have h2:=RX hb h.si h.yg;have h3:=U6 hb h.si (by simp);have h4:=Kb (AA:=AA) (es:=AB AA) (quick:=quick) (S:=⟨E,Sn,l++[b]⟩) h.len;rw[e] at h1 h2 h3 h4;exact⟨⟨h1,h2,h4⟩,h3⟩
def DV (AA:List (List Dd))(es:List Ev)(quick:Bool)(b:Bd)(i:Nat):List Bd:=
 (((Aq AA b).take i).filter (fun s=>!(quick&&decide (10<=s)))).map (fun s=>if quick=true then CZ AA es b s.toNat else Ar AA es b s)
theorem Ue (AA:List (List Dd))(es:List Ev)(quick:Bool)(b:Bd):DV AA es quick b (Aq AA b).length=Bp AA es quick b:=by
 unfold DV Bp;rw[KBK]
theorem Ia (AA:List (List Dd))(es:List Ev)(quick:Bool)(b:Bd){i:Nat}(hi:i<(Aq AA b).length):DV AA es quick b (i+1)=DV AA es quick b i++if (quick&&decide (10<=(Aq AA b).getD i 0))=true then [] else [if quick=true then CZ AA es b ((Aq AA b).getD i 0).toNat else Ar AA es b ((Aq AA b).getD i 0)]:=by
 unfold DV;rw[FY _ _ hi,List.filter_append,KBB]
 congr 1
 by_cases h:(quick&&decide (10<=(Aq AA b).getD i 0))=true
 ·
  rw[KAP h];simp only[KDE,h];rfl
 ·
  rw[KAQ h];simp only[Bool.not_eq_true] at h;simp only[KDE,h];rfl
theorem Ns (AA:List (List Dd))(es:List Ev)(quick:Bool)(b:Bd)(i:Nat):(DV AA es quick b i).length<=i:=by
 unfold DV;rw[KAj];exact KAU (KBj _ _) (by rw[KAz];omega)
theorem YA {AA:List (List Dd)}(hb:AL AA=true)(b:Bd):(Aq AA b).length<=6:=by
 have hl3:=Da hb;unfold Aq;rw[KAJ,KAj,KAj];have h1:=KBj (Ce AA b) (List.range AA.length);have h2:=KBj (fun c=>!(b.AJ.getD c []).isEmpty) (List.range AA.length);rw[KB5] at h1 h2;omega
end
theorem Dv (w:World)(v:Value)(zs:List Int)(h:Rd w v zs)(hn:zs.length<=1048576):
  Calls Tryz.prog 93 #[v] w fun e w'=>∃v',e = .returned v'/\A8 w' w.heap.size v' zs/\AC w w':=by
 have ho:A8 (w.alloc (.cells #[] 2)) w.heap.size (.slice (some ⟨w.heap.size,0,none⟩) 0 0) []:=KAo w #[] 0 (KAM _) (by decide) rfl;have hK:AC w (w.alloc (.cells #[] 2)):=(AC.refl w).alloc _;obtain⟨i0,hi,hz0,hz1,hz2⟩:=KA3 Tryz.FM;obtain⟨a,cap,rfl,h⟩:=h;rcases h with rfl|⟨g,off,rfl,hg,hc⟩
 ·
  cases a with
  |none=>
   go_enter Tryz.func93,Tryz.ntmps93
   go_wp2;go_ret;exact⟨_,rfl,ho,hK⟩
  |some x=>
   go_enter Tryz.func93,Tryz.ntmps93
   go_wp2_with (at_builtin;refine KBu _ rfl _ _ 25 rfl w.heap.size 2 i0 (.int .i64 0) 1 8 Tryz.underlying25 hi hz0 hz1 hz2 rfl (by decide) _ _ _ rfl ho x 0 cap [] rfl rfl ?c1 ?c2 ?c3 ?c4 ?c5 ?_)
   case c1=>intro j u hj;simp at hj
   case c2=>intro u hu;simp at hu
   case c3=>simp
   case c4=>simp
   case c5=>simp
   intro v' w1 hown' hgrow _;have k1:AC w w1:=hK.grown hgrow ho.ge;have o1:A8 w1 w.heap.size v' []:=by unfold A8;simpa using hown'
   clear hgrow hown';go_wp2;go_ret;exact⟨_,rfl,o1,k1⟩
 ·
  have C:=TE (w:=w.alloc (.cells #[] 2)) (b:=g) (off:=off) (zs:=zs) (fun i hi=>(hK.cell hg).trans (hc i hi));go_enter Tryz.func93,Tryz.ntmps93
  go_wp2_with (at_builtin;refine KBu _ rfl _ _ 25 rfl w.heap.size 2 i0 (.int .i64 0) 1 8 Tryz.underlying25 hi hz0 hz1 hz2 rfl (by decide) _ _ _ rfl ho ⟨g,off,none⟩ zs.length cap (zs.map (Value.int .i64)) rfl (by simp) ?c1 ?c2 ?c3 ?c4 ?c5 ?_)
  case c1=>exact C
  case c2=>exact aC zs
  case c3=>simp;unfold maxLen;omega
  case c4=>simp;omega
  case c5=>simp
  intro v' w1 hown' hgrow _;have k1:AC w w1:=hK.grown hgrow ho.ge;have o1:A8 w1 w.heap.size v' zs:=by unfold A8;simpa using hown'
  clear hgrow hown';go_wp2;go_ret;exact⟨_,rfl,o1,k1⟩
theorem Iv {w:World}{ops:Array Oper}{o:Oper}{a:Act}{K:Act->World->Prop}{Q:Exit->Act->World->Prop}{E:Prop}(hgd:o.guard=none)(s x:Operand)
  (ho:o.op = .call { callee:= .builtin .append,args:=#[s,x],argTypes:=#[25,25] })
  (base:Nat) (v:Value) (zs:List Int) (hs:a.eval s=v) (hown:A8 w base v zs)
  (vx:Value) (hx:a.eval x=vx) (ys:List Int) (hr:Rd w vx ys) (hz:zs.length<=1048576) (hy:ys.length<=1048576) (hb:base<=w.heap.size)
  (h:∀v' w',A8 w' base v' (zs++ys)->w.grownBy w' v.ownBlock->K (a.put o.dst v') w'):
  if Region.wanted o (yielded ops a.tmps)=true then Oper.wp Tryz.prog o a w K Q else E:=by
 have hw:Region.wanted o (yielded ops a.tmps)=true:=by simp[Region.wanted,hgd]
 rw[KAP hw];exact C8 s x ho base v zs hs hown vx hx ys hr hz hy hb (fun v' w' h1 h2 _=>h v' w' h1 h2)
theorem SX {l:List (List Nt)}(h:∀n∈l,n.length<=100):(Gf l).length<=101*l.length:=by
 induction l with
 |nil=>simp[Gf]
 |cons n l ih=>
  have h1:=h n (by simp);have h2:=ih (fun m hm=>h m (KBT _ hm));unfold Gf at h2 ⊢;rw[KBH,KAJ,KBJ,KAj,KBJ];omega
theorem W8 (l:List (List Nt))(k:Nat)(h:k<l.length):Gf (l.take (k+1))=Gf (l.take k)++-2::(l.getD k []).map (fun x=>x.2.2):=by
 rw[KBQ,IT,KAH h];unfold Gf;rw[KB7];simp
theorem af (ns:List Nt)(k:Nat)(h:k<ns.length):(ns.take (k+1)).map (fun x=>x.2.2)=(ns.take k).map (fun x=>x.2.2)++[(ns.getD k zN).2.2]:=by
 rw[KBQ,IT,KAH h,KBB];rfl
theorem WA (w:World)(x:Int):Rd (w.alloc (.cells #[.int .i64 x] 2)) (.slice (some ⟨w.heap.size,0,none⟩) 1 1) [x]:=by
 refine⟨_,_,rfl,.inr ⟨w.heap.size,0,rfl,by rw[AD];omega,fun i hi=>?_⟩⟩;obtain rfl:i=0:=by simp at hi;omega
 rw[KAL _ _ 0 _ _ _ (KAX w _)];rfl
theorem UV (w:World)(v:BV)(AA:List (List Dd))(b:Bd)(h:Cw w v AA b)(hx:b.AK.length<=3)(hl:b.AQ.length<=3)(hs:b.sn.length<=12)(hn:b.AJ.length<=3)(hq:∀n∈b.AJ,n.length<=100):
  Calls Tryz.prog 58 #[v.agg] w fun e w'=>∃v',e = .returned v'/\A8 w' w.heap.size v' (Ct b)/\AC w w':=by
 obtain⟨aW,aP,aL,aN,aX,aS,aF,aR,cW,cP,cL,cN,cX,cS,cF,cR,rfl⟩:=h.shapes;obtain⟨W0,hW0⟩:∃W:World,W=w.alloc (.cells #[.slice aW AA.length cW,.slice aP b.AM.length cP,.slice aL b.AQ.length cL,.slice aN b.AJ.length cN,.slice aX b.AK.length cX,.slice aS b.sn.length cS,.slice aF b.fr.length cF,.slice aR b.rws.length cR] 103):=⟨_,rfl⟩;have K0:AC w W0:=by rw[hW0];exact (AC.refl w).alloc _
 have hD:W0.heap[w.heap.size]? = some (.cells #[.slice aW AA.length cW,.slice aP b.AM.length cP,.slice aL b.AQ.length cL,.slice aN b.AJ.length cN,.slice aX b.AK.length cX,.slice aS b.sn.length cS,.slice aF b.fr.length cF,.slice aR b.rws.length cR] 103 (0,0)):=by rw[hW0];exact KAX _ _
 have s0:w.heap.size<W0.heap.size:=by rw[hW0,AD];omega
 have KD:AC W0 W0.drew:=(AC.refl W0).drew;have c2:W0.drew.cell? ⟨w.heap.size,2,none⟩=some (.slice aL b.AQ.length cL):=by rw[KD.cell s0,KAL _ _ 2 _ _ _ hD];rfl
 have c4:W0.drew.cell? ⟨w.heap.size,4,none⟩=some (.slice aX b.AK.length cX):=by rw[KD.cell s0,KAL _ _ 4 _ _ _ hD];rfl
 have c5:W0.drew.cell? ⟨w.heap.size,5,none⟩=some (.slice aS b.sn.length cS):=by rw[KD.cell s0,KAL _ _ 5 _ _ _ hD];rfl
 have c3:W0.cell? ⟨w.heap.size,3,none⟩=some (.slice aN b.AJ.length cN):=by rw[KAL _ _ 3 _ _ _ hD];rfl
 have HX:=AI (h.X.keep (K0.trans KD));have HL:=AI (h.L.keep (K0.trans KD));have HS:=AI (h.S.keep (K0.trans KD));have HN:=h.N.keep K0;clear h hD;go_enter Tryz.func58,Tryz.ntmps58
 go_upto_region 1 with fail
 rw[<-hW0];clear hW0;go_cut [3] from 6 (fun s3 wx=>∃v3,v3=s3/\A8 wx W0.heap.size v3 (b.AK++b.AQ++b.sn)/\AC W0 wx)
 case first=>
  clear HN c3;go_wp2
  go_region_law ((first
   | (refine Iv rfl (.tmp 11) (.tmp 13) rfl W0.heap.size _ (b.AK++b.AQ) rfl O2 _ rfl b.sn (HS.out.keep zI) (by simp;omega) (by omega) KW2.size ?_;intro v3 w3 O3 g3;have K3:=KW2.grown g3 (fun k hk=>O2.ge k hk);clear g3)
   | (refine Iv rfl (.tmp 8) (.tmp 10) rfl W0.heap.size _ b.AK rfl O1 _ rfl b.AQ (HL.out.keep sI) (by omega) (by omega) KW1.size ?_;intro v2 w2 O2 g2;have zI:=sI.grown g2 (fun k hk=>by have:=O1.ge k hk;rw[Az];exact this);have KW2:=KD.trans zI;have c5'':=(zI.cell (by rw[Az];exact s0)).trans c5;clear g2)
   | (go_simp;refine (Dv _ _ b.AK HX.out (by omega)).mono ?_;rintro e w1 ⟨v1,rfl,O1,sI⟩;have KW1:=KD.trans sI;have c2':=(sI.cell (by rw[Az];exact s0)).trans c2;have c5':=(sI.cell (by rw[Az];exact s0)).trans c5)))
  all_goals
   go_wp2;go_meet;exact⟨_,rfl,O3,K3⟩
 case rest=>
  obtain⟨v3,rfl,O3,K3⟩:=hcut;clear c2 c4 c5 HX HL HS KD;obtain⟨a',c',he',hN⟩:=HN;simp only[KAT,KA8] at he';obtain⟨rfl,rfl⟩:=he';obtain⟨A,hA⟩:∃A,A=b.AK++b.AQ++b.sn:=⟨_,rfl⟩;have hA15:A.length<=18:=by rw[hA];simp;omega
  have HK:Hid (Ct b=A++Gf b.AJ):=AI (by rw[hA];rfl);rw[<-hA] at O3;clear hA hx hl hs;have HQ:=AI hq;clear hq;go_wp2;go_loopw [3,4,5] (fun s3 s4 _ wr=>∃(i:Nat) (v:Value),v=s3/\i<=b.AJ.length/\s4 = .int .i64 (i:Int)/\A8 wr W0.heap.size v (A++Gf (b.AJ.take i))/\AC W0 wr) (fun _ s4 _ _=>b.AJ.length-(intOf s4).toNat)
  case atStart=>exact⟨0,_,rfl,KAb _,rfl,by simpa [Gf] using O3,K3⟩
  case round=>
   obtain⟨i,v,rfl,hi,rfl,ho,hK⟩:=hrel;clear O3 K3;have d3:=(hK.cell s0).trans c3;by_cases hlt:i<b.AJ.length
   ·
    rcases hN with h0|⟨bn,on,rfl,hbn,hcn⟩
    . exfalso;rw[h0] at hlt;simp at hlt
    obtain⟨vi,e1,rn⟩:=hcn i hlt;obtain⟨ai,ci,rfl,rn⟩:=rn;have hml:=HQ.out (b.AJ.getD i []) (by rw[IT,KAH hlt];exact KBI hlt);have hfl:=SX (l:=b.AJ.take i) (fun n hn=>HQ.out n (List.mem_of_mem_take hn));rw[KAz,KBh hi] at hfl;have HF:=AI (W8 b.AJ i hlt);obtain⟨Fi,yM⟩:∃F,F=A++Gf (b.AJ.take i):=⟨_,rfl⟩;have hFl:Fi.length<=400:=by rw[yM,KAJ];omega
    rw[<-yM] at ho;have HFI:=AI yM;clear yM hfl hcn;have OM:=AI (WA wr (-2));go_wp2_with (at_builtin;refine BG rfl _ _ rfl W0.heap.size _ Fi rfl (ho.keep ((AC.refl wr).alloc _)) _ rfl [-2] OM.out (by omega) (by simp) (by rw[AD];have:=hK.size;omega) ?_)
    intro v5 w5 o5 g5 _;have K5:=(hK.alloc (.cells #[.int .i64 (-2)] 2)).grown g5 (fun k hk=>ho.ge k hk);clear g5 ho OM;generalize b.AJ.getD i []=ns at *;go_wp2;go_loopw [3,5] (fun s3 s5 wq=>∃(k:Nat) (v:Value),v=s3/\k<=ns.length/\s5 = .int .i64 (k:Int)/\A8 wq W0.heap.size v (Fi++[-2]++(ns.take k).map (fun x=>x.2.2))/\AC W0 wq) (fun _ s5 _=>ns.length-(intOf s5).toNat)
    case atStart=>exact⟨0,_,rfl,KAb _,rfl,by simpa using o5,K5⟩
    case round=>
     obtain⟨k,v,rfl,hk,rfl,ho,hq2⟩:=hrel;have d3':=(hq2.cell s0).trans c3;have e1':=(hq2.cell hbn).trans e1;by_cases hlk:k<ns.length
     ·
      rcases rn with h0|⟨bb,oo,rfl,hbb,hcb⟩
      . exfalso;rw[h0] at hlk;simp at hlk
      have g2:=(hq2.cell hbb).trans (yD (hcb k _ (Ky hlk))).2.2;have HM:=AI (af ns k hlk);generalize (ns.getD k zN).2.2=ev at g2 HM;obtain⟨Gk,yO⟩:∃F,F=Fi++[-2]++(ns.take k).map (fun x=>x.2.2):=⟨_,rfl⟩;have hGl:Gk.length<=600:=by rw[yO];simp;omega
      rw[<-yO] at ho;have HGK:=AI yO;clear yO hcb;have j1:(0:Int)<=(k:Int):=KAK _;have j2:(k:Int)<(ns.length:Int):=by omega
      have i1:(0:Int)<=(i:Int):=KAK _;have i2:(i:Int)<(b.AJ.length:Int):=by omega
      have OM:=AI (WA wr ev);go_wp2_with (at_builtin;refine BG rfl _ _ rfl W0.heap.size _ Gk rfl (ho.keep ((AC.refl wr).alloc _)) _ rfl [ev] OM.out (by omega) (by simp) (by rw[AD];have:=hq2.size;omega) ?_)
      intro v6 w6 o6 g6 _;have K6:=(hq2.alloc (.cells #[.int .i64 ev] 2)).grown g6 (fun k hk=>ho.ge k hk);clear g6 ho OM;go_wp2;go_roundw;case rel=>exact⟨k+1,_,rfl,by omega,by go_num,by rw[HM.out,<-KA2,<-HGK.out];exact o6,K6⟩
      case measure=>simp[intOf];omega
     ·
      obtain rfl:k=ns.length:=by omega
      rw[KBK] at ho;have i1:(0:Int)<=(i:Int):=KAK _;have i2:(i:Int)<(b.AJ.length:Int):=by omega
      go_wp2;go_roundw;case rel=>exact⟨i+1,_,rfl,by omega,by go_num,by rw[HF.out,<-KA2,<-HFI.out];simpa using ho,hq2⟩
      case measure=>simp[intOf];omega
   ·
    obtain rfl:i=b.AJ.length:=by omega
    rw[KBK,<-HK.out] at ho;go_wp2;go_ret;exact⟨_,rfl,ho.BK (by omega),K0.trans hK⟩
theorem TG {AA:List (List Dd)}(hb:AL AA=true){quick:Bool}{b:Bd}(h:Br AA quick b):Ap AA b=true:=by
 obtain⟨a,_,_,_,M,_⟩:=BF hb h;exact IZ hb M
structure Yj (AA:List (List Dd))(b:Bd):Prop where
 ok:Ap AA b=true
 x:b.AK.length<=3
 l:b.AQ.length<=3
 s:b.sn.length<=12
 n:b.AJ.length<=3
 q:∀n∈b.AJ,n.length<=100
 p:b.AM.length=3
 d:AA.length<=3
 dx:AA.length<=b.AK.length
 dn:AA.length<=b.AJ.length
theorem N1 {AA:List (List Dd)}(hb:AL AA=true){quick:Bool}{b:Bd}(h:Br AA quick b):Yj AA b:=by
 have hB:=TG hb h;obtain⟨_,h1,h2,_,h4,h5,h6,_,_,h9⟩:=Iy hB;have h3:=Da hb;refine⟨hB,by omega,by omega,h6,by omega,fun n hn=>?_,h1,h3,by omega,by omega⟩;obtain⟨i,hi,e⟩:=KBk hn;have:=h9 i (by omega);rw[IT,KAH hi] at this;simp only[KBR] at this;rw[e] at this;omega
theorem Yj.key {AA:List (List Dd)}{b:Bd}(h:Yj AA b):(Ct b).length<=400:=by
 have h1:=SX h.q;have h2:=h.x;have h3:=h.l;have h4:=h.s;have h5:=h.n;unfold Ct;simp only[KAJ];omega
theorem Yj.shown {AA:List (List Dd)}{b:Bd}(h:Yj AA b):(An b).length<=15:=by
 have h1:=h.s;have h2:=h.p;unfold An;simp only[KAJ];omega
theorem SG.reach {AA:List (List Dd)}{quick:Bool}{E Sn:List (List Int)}{O:List Bd}{b:Bd}(h:SG AA quick E Sn (O++[b])):Br AA quick b:=h.si.opn b (by simp)
theorem SG.wR {AA:List (List Dd)}(hb:AL AA=true){quick:Bool}{E Sn:List (List Int)}{O:List Bd}(h:SG AA quick E Sn O):∀i,i<Sn.length->(Sn.getD i []).length<=1048576:=fun i hi=>by
 have hm:Sn.getD i []∈Sn:=by rw[IT,KAH hi];exact KBI hi
 obtain⟨b,hr,e,-⟩:=h.si.seen _ hm;rw[<-e];have:=(N1 hb hr).key;omega
theorem SG.endl {AA:List (List Dd)}(hb:AL AA=true){quick:Bool}{E Sn:List (List Int)}{O:List Bd}(h:SG AA quick E Sn O):∀i,i<E.length->(E.getD i []).length<=15:=fun i hi=>by
 have hm:E.getD i []∈E:=by rw[IT,KAH hi];exact KBI hi
 obtain⟨b,hr,_,e⟩:=h.si.ends _ hm;rw[e];exact (N1 hb hr).shown
abbrev two (w:World):World:=(w.alloc (.cells #[] 25)).alloc (.cells #[] 25)
theorem fO (w:World):(two w).heap.size=w.heap.size+2:=by rw[AD,AD]
theorem P8 {w w':World}{g:Nat}{t:TypeId}{base size:Nat}(hb:base<=g)(hg:w.heap[g]? = some (.cells #[] t (0,0)))(hk:w'.heap[g]? = w.heap[g]?):w'.ownsRow base t size (.slice (some ⟨g,0,none⟩) 0 0) 0 []:=
 ⟨by simp,.inr ⟨g,0,#[],rfl,hb,hk.trans hg,KAM _,by decide,by simp,by simp⟩⟩
theorem om {w w1:World}{AA:List (List Dd)}{b:Bd}{bv:BV}{nv rv:List Value}{bs N:Nat}(K:AC (two w) w1)(h:BT w1 (two w).heap.size bv nv rv bs N AA b)(hm:(two w).heap.size<=bs):
  EI w (w1.alloc (.cells bv.arr 103)) (fun g=>(two w).heap.size<=g/\g<w1.heap.size) AA [] [] [b] (.slice (some ⟨w.heap.size,0,none⟩) 0 0) (.slice (some ⟨w.heap.size+1,0,none⟩) 0 0) (.slice (some ⟨w1.heap.size,0,none⟩) 1 1) [] [] [bv]:=by
 have e2:=fO w;have s1:=K.size;have k1:AC w (two w):=((AC.refl w).alloc _).alloc _;have k2:AC w1 (w1.alloc (.cells bv.arr 103)):=(AC.refl w1).alloc _
 have b0:(two w).heap[w.heap.size]? = some (.cells #[] 25 (0,0)):=by
  have q:=KAW ((AC.refl (w.alloc (.cells #[] 25))).alloc (.cells #[] 25)) w.heap.size (by rw[AD];omega);exact q.trans (KAX w _)
 have b1:(two w).heap[w.heap.size+1]? = some (.cells #[] 25 (0,0)):=by
  have q:=KAX (w.alloc (.cells #[] 25)) (.cells #[] 25)
  rwa [AD] at q
 have kk:=K.trans k2;refine⟨fun g hg=>⟨by omega,by rw[AD];omega⟩,⟨P8 (KAM _) b0 (KAW kk _ (by omega)),fun g hg=>?_,fun i hi=>by simp at hi⟩,⟨P8 (by omega) b1 (KAW kk _ (by omega)),fun g hg=>?_,fun i hi=>by simp at hi⟩,⟨?_,fun g hg=>?_,fun i hi=>?_⟩,fun g hg hv=>?_,fun g hg hv=>?_,fun g hg hv=>?_,k1.trans kk⟩
 ·
  have:=KAI hg;simp only at this;omega
 ·
  have:=KAI hg;simp only at this;omega
 . exact⟨by simp[cB],.inr ⟨w1.heap.size,1,bv.arr,rfl,by omega,KAX w1 _,KAM _,by decide,rfl,by simp[cB]⟩⟩
 ·
  have:=KAI hg;simp only at this;omega
 ·
  obtain rfl:i=0:=by simp at hi;omega
  exact (h.held hm).on (BA.B7 k2)
 ·
  have e1:=KAI hg;have e3:=KAI hv;simp only at e1 e3;omega
 ·
  have e1:=KAI hg;have e3:=KAI hv;simp only at e1 e3;omega
 ·
  have e1:=KAI hg;have e3:=KAI hv;simp only at e1 e3;omega
theorem Fd.shape {w:World}{P:Nat->Prop}{base:Nat}{v:Value}{vs:List BV}{AA:List (List Dd)}{l:List Bd}(h:Fd w P base v vs AA l):∃a c,v = .slice a l.length c:=by
 rcases h.row.2 with ⟨rfl,hz⟩|⟨g,cap,cur,rfl,_⟩
 . exact⟨none,0,by rw[hz]⟩
 . exact⟨_,_,rfl⟩
structure KI (w:World)(P:Nat->Prop)(D:Nat)(bv:BV)(AA:List (List Dd))(b:Bd)(vp:Value)(ps:List Int):Prop where
 box:w.heap[D]? = some (.cells bv.arr 103 (0,0))
 pD:P D
 held:DJ w P bv AA b
 rp:Rd w vp ps
 pp:∀g,vp.ownBlock=some g->P g
theorem KI.on {w w':World}{P:Nat->Prop}{D:Nat}{bv:BV}{AA:List (List Dd)}{b:Bd}{vp:Value}{ps:List Int}(h:KI w P D bv AA b vp ps)(k:BA P w w'):KI w' P D bv AA b vp ps:=
 ⟨(k.blk D (KAm.1 h.box).1 h.pD).trans h.box,h.pD,h.held.on k,RF h.rp k.size (fun g hg hl=>k.blk g hl (h.pp g hg)),h.pp⟩
theorem KI.mono {w:World}{P P':Nat->Prop}{D:Nat}{bv:BV}{AA:List (List Dd)}{b:Bd}{vp:Value}{ps:List Int}(h:KI w P D bv AA b vp ps)(hp:∀g,P g->P' g):KI w P' D bv AA b vp ps:=
 ⟨h.box,hp _ h.pD,h.held.mono hp,h.rp,fun g hg=>hp g (h.pp g hg)⟩
end Go.Proofs.YtflehmepjhikcaaGreatDoor
