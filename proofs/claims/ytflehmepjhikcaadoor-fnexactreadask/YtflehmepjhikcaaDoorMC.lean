/- Gathered texts. -/
import Derived.Test.YtflehmepjhikcaaDoorRows
import Derived.Test.YtflehmepjhikcaaDoorMA
import Derived.OpenShut
import Derived.Deep.Slices
import Derived.Lib.SmallJoins
import Derived.BigRegion
import Derived.Lib.Hide
import Derived.Deep.CutRange
import Derived.BigQuiet
import Derived.Lib.Strings
import Derived.Outline
import Derived.RegionTactic
import Derived.Deep.Cut
import Derived.Deep.AppendLies
import Derived.Maps.AppendAt
set_option maxRecDepth 100000
set_option maxHeartbeats 8000000
namespace Go.Proofs.YtflehmepjhikcaaDoor
open Go.ChangeShapes Go.WideShapes Go.ChangeAt Go.RowKit
theorem l1In_any (x lo hi:Int)(w:World):
  Calls Tryd.prog 37 #[.int .i64 x,.int .i64 lo,.int .i64 hi] w fun e w'=>e = .returned (.bool (inB x lo hi))∧w'=w:=by
 go_enter Tryd.func37,Tryd.ntmps37
 go_wp2
 all_goals
  go_ret;exact⟨ret_bool (by rw[Bool.eq_iff_iff];unfold inB;simp;omega),rfl⟩
abbrev deedV (k p v g:Int):Value:= .agg #[.int .i64 k,.int .i64 p,.int .i64 v,.int .i64 g]
abbrev dV (d:Dd):Value:=deedV d.1 d.2.1 d.2.2.1 d.2.2.2
def AtD (w:World)(b o:Nat)(d:Dd):Prop:=
 w.cell? ⟨b,o,none⟩=some (.int .i64 d.1)∧w.cell? ⟨b,o+1,none⟩=some (.int .i64 d.2.1)∧w.cell? ⟨b,o+2,none⟩=some (.int .i64 d.2.2.1)∧w.cell? ⟨b,o+3,none⟩=some (.int .i64 d.2.2.2)
def RdD (w:World)(v:Value)(ds:List Dd):Prop:=
 ∃(a:Option Addr) (cap:Nat),v = .slice a ds.length (ds.length+cap) ∧
  (ds=[]∨∃b off,a=some ⟨b,off,none⟩∧b<w.heap.size∧∀i,i<ds.length→AtD w b (off+i*4) (ds.getD i zD))
def RdW (w:World)(v:Value)(dss:List (List Dd)):Prop:=
 ∃(a:Option Addr) (cap:Nat),v = .slice a dss.length cap ∧
  (dss=[]∨∃b off,a=some ⟨b,off,none⟩∧b<w.heap.size∧∀i,i<dss.length→∃vi,w.cell? ⟨b,off+i,none⟩=some vi∧RdD w vi (dss.getD i []))
theorem AtD.keep {w w':World}{b o:Nat}{d:Dd}(h:AtD w b o d)(hb:b<w.heap.size)(k:Keep w w'):AtD w' b o d:=
 ⟨(k.cell hb).trans h.1,(k.cell hb).trans h.2.1,(k.cell hb).trans h.2.2.1,(k.cell hb).trans h.2.2.2⟩
theorem RdD.keep {w w':World}{v:Value}{ds:List Dd}(h:RdD w v ds)(k:Keep w w'):RdD w' v ds:=by
 obtain⟨a,cap,hv,h⟩:=h;refine⟨a,cap,hv,?_⟩;rcases h with h|⟨b,off,ha,hb,hc⟩
 · exact .inl h
 · exact .inr ⟨b,off,ha,Nat.lt_of_lt_of_le hb k.size,fun i hi=>(hc i hi).keep hb k⟩
theorem RdW.keep {w w':World}{v:Value}{dss:List (List Dd)}(h:RdW w v dss)(k:Keep w w'):RdW w' v dss:=by
 obtain⟨a,cap,hv,h⟩:=h;refine⟨a,cap,hv,?_⟩;rcases h with h|⟨b,off,ha,hb,hc⟩
 · exact .inl h
 ·
  refine .inr ⟨b,off,ha,Nat.lt_of_lt_of_le hb k.size,fun i hi=>?_⟩;obtain⟨vi,h1,h2⟩:=hc i hi;exact⟨vi,(k.cell hb).trans h1,h2.keep k⟩
theorem Keep.set {w wr:World}(h:Keep w wr){g:Nat}(hg:w.heap.size≤g)(i:Nat)(x:Value):Keep w (wr.setCell ⟨g,i,none⟩ x):=
 h.grown (row:=some g) ⟨rfl,rfl,rfl,by simp,fun k _ hk=>heap_setCell_other wr ⟨g,i,none⟩ k x (fun e=>hk (by simp[e]))⟩ (fun k hk=>by simp at hk;omega)
section
abbrev dC (k p v g:Int):Obj:= .cells #[.int .i64 k,.int .i64 p,.int .i64 v,.int .i64 g] 96
abbrev eC (i k:Int)(r:Bool)(p v c:Int):Obj:= .cells #[.int .i64 i,.int .i64 k,.bool r,.int .i64 p,.int .i64 v,.int .i64 c] 99
structure InL (w wr:World)(F:Nat)(out:Value)(es:List Ev)(f:List Int):Prop where
 app:AppE wr w.heap.size out es
 row:RowAt wr F f
 keep:Keep w wr
 hF:w.heap.size≤F
 oF:out.ownBlock≠some F
structure InE (w wr:World)(F D X:Nat)(out:Value)(es:List Ev)(f:List Int)(k p v g:Int)(i q:Int)(r:Bool)(pl vl c:Int):Prop where
 l:InL w wr F out es f
 box:wr.heap[D]? = some (dC k p v g)
 ev:wr.heap[X]? = some (eC i q r pl vl c)
 hD:w.heap.size≤D
 hX:w.heap.size≤X
 DX:D≠X
 FD:F≠D
 FX:F≠X
 oD:out.ownBlock≠some D
 oX:out.ownBlock≠some X
variable {w wr:World} {F D X:Nat} {out:Value} {es:List Ev} {f:List Int} {k p v g i q pl vl c:Int} {r:Bool}
theorem InE.lt (h:InE w wr F D X out es f k p v g i q r pl vl c):D<wr.heap.size∧X<wr.heap.size∧F<wr.heap.size:=
 ⟨(Array.getElem?_eq_some_iff.1 h.box).1,(Array.getElem?_eq_some_iff.1 h.ev).1,h.l.row.lt⟩
theorem InE.free (h:InE w wr F D X out es f k p v g i q r pl vl c)(j:Nat):wr.frozen? ⟨X,j,none⟩=false:=frozen_of_row wr X j _ _ h.ev
end
theorem l18Key_any (n reads:Int)(h0:0≤reads)(h1:reads≤12)(w:World):
  Calls Tryd.prog 59 #[.int .i64 n,.int .i64 reads] w fun e w'=>e = .returned (.bool (keyB n reads))∧w'=w:=by
 have hw:IntKind.i64.wrap (reads-1)=reads-1:=by rw[IntKind.wrap_i64];omega
 have C1:=fun W=>l1In_any n 0 (reads-1) W
 have C2:=fun W=>l1In_any n 100 102 W
 have HE:Hid (keyB n reads=(inB n 0 (reads-1)||inB n 100 102)):=Lib.hid rfl;generalize inB n 0 (reads-1)=A at C1 HE;generalize inB n 100 102=B at C2 HE;go_enter Tryd.func59,Tryd.ntmps59
 go_wp2_with fail
 refine (C1 w).mono ?_;rintro e w1 ⟨rfl,rfl⟩;cases A
 ·
  go_wp2_with fail
  refine (C2 _).mono ?_;rintro e w2 ⟨rfl,rfl⟩;go_wp2;go_ret;exact⟨by rw[HE.out];rfl,rfl⟩
 ·
  go_wp2;go_ret;exact⟨by rw[HE.out];rfl,rfl⟩
theorem l18Ok_any (w:World)(vR vV:Value)(rs vs:List Int)(reads:Int)(hr:Rd w vR rs)(hv:Rd w vV vs)(h0:0≤reads)(h1:reads≤12)(lr:rs.length≤2097152):
  Calls Tryd.prog 38 #[.agg #[vR,vV],.int .i64 reads] w fun e w'=>e = .returned (.bool (okA reads rs vs))∧Keep w w':=by
 obtain⟨aR,cR,rfl,hr⟩:=hr;obtain⟨aV,cV,rfl,hv⟩:=hv;have HE:Hid (okA reads rs vs=((decide (rs.length≤6)&&decide (rs.length=vs.length))&&askP reads rs vs rs.length)):=Lib.hid rfl;have CK:=fun (n:Int) (W:World)=>l18Key_any n reads h0 h1 W
 have K1:Keep w (w.alloc (.cells #[.slice aR rs.length cR,.slice aV vs.length cV] 27)):=(Keep.refl w).alloc _;have HR:=Lib.hid hr;have HV:=Lib.hid hv;clear hr hv;obtain⟨wA,hwA⟩:∃W:World,W=w.alloc (.cells #[.slice aR rs.length cR,.slice aV vs.length cV] 27):=⟨_,rfl⟩;rw[←hwA] at K1;have b0:wA.cell? ⟨w.heap.size,0,none⟩=some (.slice aR rs.length cR):=by rw[hwA];exact box_cell (Keep.refl _) 0
 have b1:wA.cell? ⟨w.heap.size,1,none⟩=some (.slice aV vs.length cV):=by rw[hwA];exact box_cell (Keep.refl _) 1
 by_cases h6:6<rs.length
 ·
  have d6:(6:Int)<(rs.length:Int):=by omega
  have HN:Hid (okA reads rs vs=false):=Lib.hid (by rw[HE.out,decide_eq_false (by omega)];rfl);go_enter Tryd.func38,Tryd.ntmps38
  go_upto_region 1 with fail
  rw[←hwA];clear hwA;go_wp2;go_ret;exact⟨by rw[HN.out];rfl,K1⟩
 ·
  have d6:decide ((6:Int)<(rs.length:Int))=false:=by rw[decide_eq_false_iff_not];omega
  by_cases hl:rs.length=vs.length
  ·
   have XL:=Lib.hid hl;have hle:((rs.length:Int) != (vs.length:Int))=false:=by rw[hl];simp
   have HN:Hid (okA reads rs vs=askP reads rs vs rs.length):=Lib.hid (by rw[HE.out,decide_eq_true (by omega),decide_eq_true hl];rfl);clear hl;go_enter Tryd.func38,Tryd.ntmps38
   go_upto_region 1 with fail
   rw[←hwA];clear hwA;go_wp2;go_loop [5] (fun i=>∃k:Nat,k≤rs.length∧i = .int .i64 k∧Hid (askP reads rs vs k=true)) (fun i=>rs.length-(intOf i).toNat)
   case atStart=>exact⟨0,Nat.zero_le _,rfl,Lib.hid rfl⟩
   case round=>
    obtain⟨k,hk,rfl,hq⟩:=hrel;by_cases hlt:k<rs.length
    ·
     have hlt2:k<vs.length:=by have:=XL.out;omega
     rcases HR.out with q|⟨bR,oR,rfl,hbR,dR⟩
     · exfalso;rw[q] at hlt;simp at hlt
     rcases HV.out with q|⟨bV,oV,rfl,hbV,dV⟩
     · exfalso;rw[q] at hlt2;simp at hlt2
     have e1:=(K1.cell hbR).trans (dR k hlt);have e2:=(K1.cell hbV).trans (dV k hlt2);have i1:(0:Int)≤(k:Int):=Int.natCast_nonneg _;have i2:(k:Int)<(rs.length:Int):=by omega
     have i3:(k:Int)<(vs.length:Int):=by omega
     have XS:Hid (askP reads rs vs (k+1)=(keyB (rs.getD k 0) reads&&inB (vs.getD k 0) 0 9)):=Lib.hid (by
      show (askP reads rs vs k&&_)=_
      rw[hq.out,Bool.true_and])
     have CI:=fun (W:World)=>l1In_any (vs.getD k 0) 0 9 W
     have CX:=fun (W:World)=>CK (rs.getD k 0) W
     generalize rs.getD k 0=x at e1 CX XS;generalize vs.getD k 0=y at e2 CI XS;generalize keyB x reads=A at CX XS;generalize inB y 0 9=B at CI XS;clear dR dV hlt2;go_wp2_with fail
     refine (CX _).mono ?_;rintro e w1 ⟨rfl,rfl⟩;cases A
     ·
      clear CI;go_wp2;go_ret;exact⟨by rw[HN.out,askP_off (k:=k+1) (by rw[XS.out];rfl) (by omega)];rfl,K1⟩
     ·
      go_wp2_with fail
      refine (CI _).mono ?_;rintro e w2 ⟨rfl,rfl⟩;cases B
      ·
       go_wp2;go_ret;exact⟨by rw[HN.out,askP_off (k:=k+1) (by rw[XS.out];rfl) (by omega)];rfl,K1⟩
      ·
       go_wp2;go_round
       case rel=>exact⟨k+1,by omega,by go_num,Lib.hid (by rw[XS.out];rfl)⟩
       case measure=>simp[intOf];omega
    ·
     obtain rfl:k=rs.length:=by omega
     go_wp2;go_ret;exact⟨by rw[HN.out,hq.out];rfl,K1⟩
  ·
   have hle:((rs.length:Int) != (vs.length:Int))=true:=by simp;omega
   have HN:Hid (okA reads rs vs=false):=Lib.hid (by rw[HE.out,decide_eq_false hl,Bool.and_false,Bool.false_and]);clear hl;go_enter Tryd.func38,Tryd.ntmps38
   go_upto_region 1 with fail
   rw[←hwA];clear hwA;go_wp2;go_ret;exact⟨by rw[HN.out];rfl,K1⟩
theorem get_at (l:List UInt8)(k:Nat)(hk:k<(⟨l.toArray⟩:ByteArray).size):(⟨l.toArray⟩:ByteArray)[k]'hk=byteAt l k:=by
 have hk':k<l.length:=by simpa [ByteArray.size] using hk
 unfold byteAt;rw[List.getD_eq_getElem?_getD,List.getElem?_eq_getElem hk'];rfl
theorem size_at (l:List UInt8):(⟨l.toArray⟩:ByteArray).size=l.length:=by simp[ByteArray.size]
theorem ext_at (l:List UInt8)(f k:Nat):(⟨l.toArray⟩:ByteArray).extract f k=⟨(segL l f k).toArray⟩:=Lib.extract_eq ⟨l.toArray⟩ f k
theorem u8_beq (a b:UInt8):((a.toNat:Int)==(b.toNat:Int))=decide (a=b):=by
 rw[Bool.eq_iff_iff];simp only[beq_iff_eq,decide_eq_true_eq];constructor
 · intro h;exact UInt8.toNat.inj (by omega)
 · rintro rfl;rfl
theorem l1Split_any (b:UInt8)(l:List UInt8)(w:World)(hl:l.length≤1048576):
  Calls Tryd.prog 34 #[strV l,.int .u8 (b.toNat:Int)] w fun e w'=>∃v',e = .returned v'∧OwnS w' w.heap.size v' (splitL b l)∧Keep w w':=by
 have hown0:OwnS (w.alloc (.cells #[] 9)) w.heap.size (.slice (some ⟨w.heap.size,0,none⟩) 0 0) []:=World.ownsRow_lit w #[] 0 (Nat.le_refl _) (by decide) rfl;obtain⟨i0,hi,hz0,hz1,hz2⟩:=info_parts Tryd.infoS;go_enter Tryd.func34,Tryd.ntmps34
 go_wp2;go_loopw [5,6,7] (fun v f i wr=>∃(k g:Nat) (ws:List (List UInt8)),k≤l.length+1∧i = .int .i64 k∧f = .int .i64 g∧splitInv b l ws g k∧ws.length≤k∧OwnS wr w.heap.size v ws∧Keep w wr) (fun _ _ i _=>l.length+1-(intOf i).toNat)
 case atStart=>exact⟨0,0,[],Nat.zero_le _,rfl,rfl,splitInv_start b l,Nat.le_refl _,hown0,(Keep.refl _).alloc _⟩
 case round=>
  obtain⟨k,g,ws,hk,rfl,rfl,hinv,hwl,ho,hK⟩:=hrel;clear hown0;have hsz:=hK.size;by_cases hlt:k≤l.length
  ·
   have hg:g≤k:=splitInv_from hinv hlt;have hext:=ext_at l g k;by_cases hlast:k=l.length
   ·
    have HN:Hid (splitInv b l (ws++[segL l g k]) (k+1) (k+1)):=by subst hlast;exact Lib.hid (splitInv_last hinv)
    have hke:((k:Int)==(l.length:Int))=true:=by simp[hlast]
    have hk1:l.length≤k:=by omega
    clear hlast
    ·
     clear hinv;go_wp2_with (at_builtin;refine wpList_append_own _ rfl _ _ 31 rfl w.heap.size 9 i0 (.string ⟨#[]⟩) 1 16 Tryd.underlying31 hi hz0 hz1 hz2 rfl (by decide) _ _ _ rfl (World.ownsRow.alloc ho _) ⟨_,0,none⟩ 1 1 [strV (segL l g k)] rfl rfl ?c1 ?c2 ?c3 ?c4 ?c5 ?_)
     case c1=>
      intro j u hj
      match j,hj with
      | 0,hj=>simp at hj;subst hj;simp[Addr.add]
     case c2=>intro u hu;simp at hu;subst hu;rfl
     case c3=>unfold maxLen;omega
     case c4=>omega
     case c5=>simp;omega
     intro v' w1 hown' hgrow _;have hK1:Keep w w1:=(hK.alloc _).grown hgrow ho.ge;clear hgrow;go_wp2;go_roundw;case rel=>exact⟨k+1,k+1,ws++[segL l g k],by omega,by go_num,by go_num,HN.out,by simp;omega,ownS_hit hown',hK1⟩
     case measure=>simp[intOf];omega
   ·
    have hkl:k<l.length:=by omega
    have hke:((k:Int)==(l.length:Int))=false:=by simp;omega
    have hget:=get_at l k (by rw[size_at];exact hkl);by_cases hb:byteAt l k=b
    ·
     have HN:Hid (splitInv b l (ws++[segL l g k]) (k+1) (k+1)):=Lib.hid (splitInv_hit hinv hkl hb);have hbb:(((byteAt l k).toNat:Int)==(b.toNat:Int))=true:=by rw[u8_beq];simpa using hb
     clear hb hinv;go_wp2_with (at_builtin;refine wpList_append_own _ rfl _ _ 31 rfl w.heap.size 9 i0 (.string ⟨#[]⟩) 1 16 Tryd.underlying31 hi hz0 hz1 hz2 rfl (by decide) _ _ _ rfl (World.ownsRow.alloc ho _) ⟨_,0,none⟩ 1 1 [strV (segL l g k)] rfl rfl ?c1 ?c2 ?c3 ?c4 ?c5 ?_)
     case c1=>
      intro j u hj
      match j,hj with
      | 0,hj=>simp at hj;subst hj;simp[Addr.add]
     case c2=>intro u hu;simp at hu;subst hu;rfl
     case c3=>unfold maxLen;omega
     case c4=>omega
     case c5=>simp;omega
     intro v' w1 hown' hgrow _;have hK1:Keep w w1:=(hK.alloc _).grown hgrow ho.ge;clear hgrow;go_wp2;go_roundw;case rel=>exact⟨k+1,k+1,ws++[segL l g k],by omega,by go_num,by go_num,HN.out,by simp;omega,ownS_hit hown',hK1⟩
     case measure=>simp[intOf];omega
    ·
     have HN:Hid (splitInv b l ws g (k+1)):=Lib.hid (splitInv_miss hinv hkl hb);have hbb:(((byteAt l k).toNat:Int)==(b.toNat:Int))=false:=by rw[u8_beq];simpa using hb
     clear hb hinv;go_wp2;go_roundw;case rel=>exact⟨k+1,g,ws,by omega,by go_num,rfl,HN.out,by omega,ho,hK⟩
     case measure=>simp[intOf];omega
  ·
   have HE:=Lib.hid (splitInv_end hinv (by omega));go_wp2;go_ret;exact⟨_,rfl,by rw[←HE.out];exact ho,hK⟩
def numR (l:List UInt8):Value:= .tuple #[.int .i64 ((readO l).getD 0),.bool (readO l).isSome]
theorem minus_at {l:List UInt8}{b:Bool}(h:negR l=b)(h1:1≤l.length):(((byteAt l 0).toNat:Int)==45)=b:=by
 rw[negR_at] at h;have e:=u8_beq (byteAt l 0) 45;rw[←h,←e];simp[h1]
theorem l1Read_plus (l:List UInt8)(w:World)(hl:l.length≤1048576)(hneg:negR l=false):
  Calls Tryd.prog 35 #[strV l] w fun e w'=>e = .returned (numR l)∧w'=w:=by
 have HI:Hid (0=if negR l=true then 1 else 0):=Lib.hid (by rw[hneg];rfl);by_cases hs:l.length-0<1∨9<l.length-0
 ·
  have HR:Hid (readO l=none):=Lib.hid (readO_short HI.out (by simpa using hs));have HV:Hid (numR l = .tuple #[.int .i64 0,.bool false]):=Lib.hid (by unfold numR;rw[HR.out];rfl);by_cases h0:l.length<1
  ·
   obtain rfl:l=[]:=List.eq_nil_of_length_eq_zero (by omega);clear hneg hs;go_enter Tryd.func35,Tryd.ntmps35
   go_wp2;go_ret2
   exact⟨by rw[HV.out];rfl,rfl⟩
  ·
   have hle:l.isEmpty=false:=by cases l with|nil=>simp at h0|cons _ _=>rfl
   have hget0:=get_at l 0 (by rw[size_at];omega);have hm:(((byteAt l 0).toNat:Int)==45)=false:=minus_at hneg (by omega);have h10:9<l.length:=by omega
   clear hneg hs;go_enter Tryd.func35,Tryd.ntmps35
   go_wp2;go_ret2
   exact⟨by rw[HV.out];rfl,rfl⟩
 ·
  have h1:0+1≤l.length:=by omega
  have h9:l.length≤0+9:=by omega
  clear hs;have hle:l.isEmpty=false:=by cases l with|nil=>simp at h1|cons _ _=>rfl
  have hget0:=get_at l 0 (by rw[size_at];omega);have hm:(((byteAt l 0).toNat:Int)==45)=false:=minus_at hneg (by omega);have HNEG:=Lib.hid hneg;clear hneg;go_enter Tryd.func35,Tryd.ntmps35
  go_wp2;go_loop [6,7] (fun n k=>∃(q:Nat) (x:Int),q≤l.length∧k = .int .i64 q∧n = .int .i64 x∧readQ l 0 q x) (fun _ k=>l.length-(intOf k).toNat)
  case atStart=>exact⟨0,0,by omega,rfl,rfl,readQ_start l 0⟩
  case round=>
   obtain⟨q,x,hq,rfl,rfl,hr⟩:=hrel;obtain⟨x0,x1⟩:=readQ_bound hr hq (by omega);by_cases hlt:q<l.length
   ·
    have hget:=get_at l q (by rw[size_at];omega);have hc9:((byteAt l q).toNat:Int)≤255:=by have:=(byteAt l q).toNat_lt;omega
    cases hd:isDig (byteAt l q)
    ·
     have HR:Hid (readO l=none):=Lib.hid (readO_bad HI.out (readQ_bad hr hlt hd));have HV:Hid (numR l = .tuple #[.int .i64 0,.bool false]):=Lib.hid (by unfold numR;rw[HR.out];rfl)
     have hd':((byteAt l q).toNat:Int)<48∨57<((byteAt l q).toNat:Int):=by
      simp only[isDig,decide_eq_false_iff_not] at hd;omega
     clear hr;rcases hd' with hd'|hd'
     ·
      go_wp2;go_ret2
      exact⟨by rw[HV.out];rfl,rfl⟩
     ·
      have hd2:¬((byteAt l q).toNat:Int)<48:=by omega
      go_wp2;go_ret2
      exact⟨by rw[HV.out];rfl,rfl⟩
    ·
     have HN:=Lib.hid (readQ_hit hr hlt hd)
     have hd':48≤((byteAt l q).toNat:Int)∧((byteAt l q).toNat:Int)≤57:=by
      simp only[isDig,decide_eq_true_eq] at hd;omega
     obtain⟨d0,d1⟩:=hd';clear hr;go_wp2;go_round
     case rel=>exact⟨q+1,_,by omega,by go_num,by go_num,HN.out⟩
     case measure=>simp[intOf];omega
   ·
    obtain rfl:q=l.length:=by omega
    have HE:=Lib.hid (readQ_end hr);clear hr;by_cases h0:byteAt l 0=48
    ·
     have hz:(((byteAt l 0).toNat:Int)==48)=true:=by rw[h0];rfl
     by_cases h2:1<l.length
     ·
      have HR:Hid (readO l=none):=Lib.hid (readO_zero HI.out (by omega) h0 (.inr h2));have HV:Hid (numR l = .tuple #[.int .i64 0,.bool false]):=Lib.hid (by unfold numR;rw[HR.out];rfl);go_wp2;go_ret2
      exact⟨by rw[HV.out];rfl,rfl⟩
     ·
      have HR:=Lib.hid (readO_ok HI.out (by omega) (by omega) HE.out (fun h=>by
       rcases h.2 with h|h
       ·
        have:=HI.out;rw[if_pos h] at this;omega
       · omega))
      have HV:Hid (numR l = .tuple #[.int .i64 x,.bool true]):=Lib.hid (by unfold numR;rw[HR.out];simp[HNEG.out]);go_wp2;go_ret2
      exact⟨by rw[HV.out];rfl,rfl⟩
    ·
     have hz:(((byteAt l 0).toNat:Int)==48)=false:=by
      have:=u8_beq (byteAt l 0) 48;rw[decide_eq_false h0] at this;exact this
     have HR:=Lib.hid (readO_ok HI.out (by omega) (by omega) HE.out (fun h=>h0 h.1));have HV:Hid (numR l = .tuple #[.int .i64 (x),.bool true]):=Lib.hid (by unfold numR;rw[HR.out];simp[HNEG.out]);go_wp2;go_ret2
     exact⟨by rw[HV.out];rfl,rfl⟩
theorem l1Read_minus (l:List UInt8)(w:World)(hl:l.length≤1048576)(hneg:negR l=true):
  Calls Tryd.prog 35 #[strV l] w fun e w'=>e = .returned (numR l)∧w'=w:=by
 have HI:Hid (1=if negR l=true then 1 else 0):=Lib.hid (by rw[hneg];rfl);by_cases hs:l.length-1<1∨9<l.length-1
 ·
  have HR:Hid (readO l=none):=Lib.hid (readO_short HI.out (by simpa using hs));have HV:Hid (numR l = .tuple #[.int .i64 0,.bool false]):=Lib.hid (by unfold numR;rw[HR.out];rfl);by_cases h0:l.length<2
  ·
   have hle:l.isEmpty=false:=by cases l with|nil=>simp[negR] at hneg|cons _ _=>rfl
   have hn1:1≤l.length:=by cases l with|nil=>simp[negR] at hneg|cons _ _=>simp
   have hget0:=get_at l 0 (by rw[size_at];omega);have hm:(((byteAt l 0).toNat:Int)==45)=true:=minus_at hneg (by omega);clear hneg hs;go_enter Tryd.func35,Tryd.ntmps35
   go_wp2;go_ret2
   exact⟨by rw[HV.out];rfl,rfl⟩
  ·
   have hle:l.isEmpty=false:=by cases l with|nil=>simp[negR] at hneg|cons _ _=>rfl
   have hget0:=get_at l 0 (by rw[size_at];omega);have hm:(((byteAt l 0).toNat:Int)==45)=true:=minus_at hneg (by omega);have h10:10<l.length:=by omega
   clear hneg hs;go_enter Tryd.func35,Tryd.ntmps35
   go_wp2;go_ret2
   exact⟨by rw[HV.out];rfl,rfl⟩
 ·
  have h1:1+1≤l.length:=by omega
  have h9:l.length≤1+9:=by omega
  clear hs;have hle:l.isEmpty=false:=by cases l with|nil=>simp at h1|cons _ _=>rfl
  have hget0:=get_at l 0 (by rw[size_at];omega);have hget1:=get_at l 1 (by rw[size_at];omega);have hm:(((byteAt l 0).toNat:Int)==45)=true:=minus_at hneg (by omega);have HNEG:=Lib.hid hneg;clear hneg;go_enter Tryd.func35,Tryd.ntmps35
  go_wp2;go_loop [6,7] (fun n k=>∃(q:Nat) (x:Int),q≤l.length∧k = .int .i64 q∧n = .int .i64 x∧readQ l 1 q x) (fun _ k=>l.length-(intOf k).toNat)
  case atStart=>exact⟨1,0,by omega,rfl,rfl,readQ_start l 1⟩
  case round=>
   obtain⟨q,x,hq,rfl,rfl,hr⟩:=hrel;obtain⟨x0,x1⟩:=readQ_bound hr hq (by omega);by_cases hlt:q<l.length
   ·
    have hget:=get_at l q (by rw[size_at];omega);have hc9:((byteAt l q).toNat:Int)≤255:=by have:=(byteAt l q).toNat_lt;omega
    cases hd:isDig (byteAt l q)
    ·
     have HR:Hid (readO l=none):=Lib.hid (readO_bad HI.out (readQ_bad hr hlt hd));have HV:Hid (numR l = .tuple #[.int .i64 0,.bool false]):=Lib.hid (by unfold numR;rw[HR.out];rfl)
     have hd':((byteAt l q).toNat:Int)<48∨57<((byteAt l q).toNat:Int):=by
      simp only[isDig,decide_eq_false_iff_not] at hd;omega
     clear hr;rcases hd' with hd'|hd'
     ·
      go_wp2;go_ret2
      exact⟨by rw[HV.out];rfl,rfl⟩
     ·
      have hd2:¬((byteAt l q).toNat:Int)<48:=by omega
      go_wp2;go_ret2
      exact⟨by rw[HV.out];rfl,rfl⟩
    ·
     have HN:=Lib.hid (readQ_hit hr hlt hd)
     have hd':48≤((byteAt l q).toNat:Int)∧((byteAt l q).toNat:Int)≤57:=by
      simp only[isDig,decide_eq_true_eq] at hd;omega
     obtain⟨d0,d1⟩:=hd';clear hr;go_wp2;go_round
     case rel=>exact⟨q+1,_,by omega,by go_num,by go_num,HN.out⟩
     case measure=>simp[intOf];omega
   ·
    obtain rfl:q=l.length:=by omega
    have HE:=Lib.hid (readQ_end hr);clear hr;by_cases h0:byteAt l 1=48
    ·
     have hz:(((byteAt l 1).toNat:Int)==48)=true:=by rw[h0];rfl
     have HR:Hid (readO l=none):=Lib.hid (readO_zero HI.out (by omega) h0 (.inr (by omega)));have HV:Hid (numR l = .tuple #[.int .i64 0,.bool false]):=Lib.hid (by unfold numR;rw[HR.out];rfl);go_wp2;go_ret2
     exact⟨by rw[HV.out];rfl,rfl⟩
    ·
     have hz:(((byteAt l 1).toNat:Int)==48)=false:=by
      have:=u8_beq (byteAt l 1) 48;rw[decide_eq_false h0] at this;exact this
     have HR:=Lib.hid (readO_ok HI.out (by omega) (by omega) HE.out (fun h=>h0 h.1));have HV:Hid (numR l = .tuple #[.int .i64 (-x),.bool true]):=Lib.hid (by unfold numR;rw[HR.out];simp[HNEG.out]);go_wp2;go_ret2
     exact⟨by rw[HV.out];rfl,rfl⟩
theorem l1Read_any (l:List UInt8)(w:World)(hl:l.length≤1048576):
  Calls Tryd.prog 35 #[strV l] w fun e w'=>e = .returned (numR l)∧w'=w:=by
 cases h:negR l
 · exact l1Read_plus l w hl h
 · exact l1Read_minus l w hl h
theorem l4Place_any (l:List UInt8)(w:World):
  Calls Tryd.prog 36 #[strV l] w fun e w'=>e = .returned (.int .i64 (placeNo l))∧Keep w w':=by
 by_cases h0:l=[120]
 ·
  subst h0;go_enter Tryd.func36,Tryd.ntmps36
  go_wp2;refine wp_loop_rounds 1 ?_;rw[rounds_succ];go_wp2;go_ret;exact⟨rfl,(Keep.refl w).alloc _⟩
 by_cases h1:l=[121]
 ·
  subst h1;clear h0;go_enter Tryd.func36,Tryd.ntmps36
  go_wp2;refine wp_loop_rounds 2 ?_;rw[rounds_succ];go_wp2;rw[rounds_succ];go_wp2;go_ret;exact⟨rfl,((Keep.refl w).alloc _).alloc _⟩
 by_cases h2:l=[122]
 ·
  subst h2;clear h0 h1;go_enter Tryd.func36,Tryd.ntmps36
  go_wp2;refine wp_loop_rounds 3 ?_;rw[rounds_succ];go_wp2;rw[rounds_succ];go_wp2;rw[rounds_succ];go_wp2;go_ret;exact⟨rfl,(((Keep.refl w).alloc _).alloc _).alloc _⟩
 have HP:Hid (placeNo l=-1):=Lib.hid (by unfold placeNo;rw[if_neg h0,if_neg h1,if_neg h2]);have b0:(l==[120])=false:=by simpa using h0
 have b1:(l==[121])=false:=by simpa using h1
 have b2:(l==[122])=false:=by simpa using h2
 clear h0 h1 h2;go_enter Tryd.func36,Tryd.ntmps36
 go_wp2;refine wp_loop_rounds 4 ?_;rw[rounds_succ];go_wp2;rw[rounds_succ];go_wp2;rw[rounds_succ];go_wp2;rw[rounds_succ];go_wp2;go_ret;exact⟨by rw[HP.out];rfl,(((Keep.refl w).alloc _).alloc _).alloc _⟩
theorem rd_nilK (w:World):Rd w nilVK []:=⟨none,0,rfl,.inl rfl⟩
theorem placeNo_in (x:List UInt8):-1≤placeNo x∧placeNo x≤2:=by unfold placeNo;split<;>(try split)<;>(try split)<;>omega
theorem specReadAsk_any (l:List UInt8)(w:World)(hl:l.length≤1048576):
  Calls Tryd.prog 10 #[strV l] w fun e w'=>∃uR uV,e = .returned (.tuple #[.agg #[uR,uV],.bool (raT l)])∧Rd w' uR (raR l)∧Rd w' uV (raV l)∧Keep w w':=by
 have A0:=Lib.hid (AK.start w);go_enter Tryd.func10,Tryd.ntmps10
 go_wp2_with fail
 refine (l1Split_any 32 l _ hl).mono ?_;rintro e w1 ⟨vw,rfl,ow,k1⟩;have A1:=Lib.hid (A0.out w1 k1);have hlen:=splitL_len 32 l;have hword:=Lib.hid (splitL_word 32 l);obtain⟨ws,hws⟩:∃ws,ws=wsA l:=⟨_,rfl⟩;have HW:=Lib.hid hws;have XO:Hid (RdS w1 vw ws):=Lib.hid (by rw[hws];exact ow.rd);have XG:Hid (∀q,vw.ownBlock=some q→w.heap.size+2≤q):=Lib.hid (fun q hq=>by have:=ow.ge q hq;rw[heap_size,heap_size] at this;omega);replace hlen:ws.length≤l.length+1:=by rw[hws];exact hlen
 have HX:Hid (∀k,k<ws.length→(ws.getD k []).length≤1048576):=Lib.hid (fun k hk=>Nat.le_trans (hword.out _ (by rw[←show ws=splitL 32 l from hws,List.getD_eq_getElem?_getD,List.getElem?_eq_getElem hk];exact List.getElem_mem hk)) hl);clear A0 ow k1 hws hword;obtain⟨aw,cw,rfl,-⟩:=id XO.out;go_wp2;go_loopw [6] (fun i wr=>∃(k:Nat) (uR uV:Value),k≤ws.length∧i = .int .i64 k∧Hid (AK w w1 wr uR uV ((ws.take k).map pAt) ((ws.take k).map pVl))∧Hid (∀i,i<k→pOk (ws.getD i [])=true)) (fun i _=>ws.length-(intOf i).toNat)
 case atStart=>exact⟨0,_,_,Nat.zero_le _,rfl,A1,Lib.hid (fun i hi=>absurd hi (Nat.not_lt_zero _))⟩
 case round=>
  obtain⟨k,uR,uV,hk,rfl,hA,hq⟩:=hrel;by_cases hlt:k<ws.length
  ·
   obtain⟨aw',cw',ew,hr⟩:=XO.out
   obtain⟨b,off,hae,hb,hc⟩:∃b off,aw=some ⟨b,off,none⟩∧b<w1.heap.size∧∀i,i<ws.length→w1.cell? ⟨b,off+i,none⟩=some (strV (ws.getD i [])):=by
    simp only[Value.slice.injEq] at ew;obtain⟨e1,-,-⟩:=ew;rcases hr with h|h
    · exfalso;rw[h] at hlt;simp at hlt
    ·
     obtain⟨b,off,h1,h2,h3⟩:=h;exact⟨b,off,e1.trans h1,h2,h3⟩
   have hbne:b≠w.heap.size+1:=by
    subst hae;have:=XG.out b rfl;omega
   have d0:=(hA.out.cell (a:=⟨b,off+k,none⟩) hb hbne).trans (hc k hlt);subst hae;have i1:(0:Int)≤(k:Int):=Int.natCast_nonneg _;have i2:(k:Int)<(ws.length:Int):=by omega
   have hx:=HX.out k hlt;have HF:Hid (pOk (ws.getD k [])=false→raT l=false):=Lib.hid (fun h=>raT_off (k:=k) (by rw[←HW.out];exact hlt) (by rw[←HW.out];exact h));have HM1:Hid ((ws.take (k+1)).map pAt=(ws.take k).map pAt++[pAt (ws.getD k [])]):=Lib.hid (map_take ws hlt);have HM2:Hid ((ws.take (k+1)).map pVl=(ws.take k).map pVl++[pVl (ws.getD k [])]):=Lib.hid (map_take ws hlt)
   have HQ:Hid (pOk (ws.getD k [])=true→∀i,i<k+1→pOk (ws.getD i [])=true):=Lib.hid (fun h i hi=>by
    by_cases e:i=k
    · rw[e];exact h
    · exact hq.out i (by omega))
   obtain⟨x,hxe⟩:∃x,x=ws.getD k []:=⟨_,rfl⟩;rw[←hxe] at d0 hx HF HM1 HM2 HQ;obtain⟨rsk,hrs⟩:∃r,r=(ws.take k).map pAt:=⟨_,rfl⟩;obtain⟨vsk,hvs⟩:∃r,r=(ws.take k).map pVl:=⟨_,rfl⟩;have HLR:Hid (rsk.length≤1048577):=Lib.hid (by rw[hrs,List.length_map,List.length_take];omega);have HLV:Hid (vsk.length≤1048577):=Lib.hid (by rw[hvs,List.length_map,List.length_take];omega);rw[←hrs,←hvs] at hA;have HRS:=Lib.hid hrs;have HVS:=Lib.hid hvs;clear hxe hc hr ew hrs hvs hbne;have CS:=l1Split_any 61 x wr hx;have hw2:=Lib.hid (splitL_word 61 x);have HPO:Hid (pOk x=(pTw x&&(pIs x&&(readO (p1R x)).isSome))):=Lib.hid rfl;have HPT:Hid (pTw x=decide ((splitL 61 x).length=2)):=Lib.hid rfl;go_wp2_with fail
   refine CS.mono ?_;rintro e w2 ⟨v2,rfl,o2,k2⟩;have XR:=Lib.hid o2.rd;have hA2:=Lib.hid (hA.out.keep k2);obtain⟨a2,c2,rfl,-⟩:=id XR.out;clear CS o2 k2 hA d0;by_cases h2:(splitL 61 x).length=2
   ·
    have HPT2:Hid (pTw x=true):=Lib.hid (by rw[HPT.out,decide_eq_true h2])
    obtain⟨bp,op,hap,hbp,e0,e1⟩:∃b off,a2=some ⟨b,off,none⟩∧b<w2.heap.size∧w2.cell? ⟨b,off,none⟩=some (strV (p0R x))∧w2.cell? ⟨b,off+1,none⟩=some (strV (p1R x)):=by
     obtain⟨a3,c3,e3,hr⟩:=XR.out;simp only[Value.slice.injEq] at e3;obtain⟨e3,-,-⟩:=e3;rcases hr with h|⟨b,off,h1,h3,h4⟩
     · exfalso;rw[h] at h2;simp at h2
     · exact⟨b,off,e3.trans h1,h3,h4 0 (by omega),h4 1 (by omega)⟩
    have hp0:(p0R x).length≤1048576:=Nat.le_trans (hw2.out _ (by unfold p0R;rw[List.getD_eq_getElem?_getD,List.getElem?_eq_getElem (by omega)];exact List.getElem_mem (by omega))) hx;have hp1:(p1R x).length≤1048576:=Nat.le_trans (hw2.out _ (by unfold p1R;rw[List.getD_eq_getElem?_getD,List.getElem?_eq_getElem (by omega)];exact List.getElem_mem (by omega))) hx;subst hap;have h2':((splitL 61 x).length:Int)=2:=by omega
    have hne:(((splitL 61 x).length:Int) != 2)=false:=by rw[h2'];rfl
    have i3:(0:Int)<((splitL 61 x).length:Int):=by omega
    have i4:(1:Int)<((splitL 61 x).length:Int):=by omega
    have CR0:=l1Read_any (p0R x) w2 hp0;unfold numR at CR0;have CP:=l4Place_any (p0R x) w2;have hpl:=placeNo_in (p0R x);have HAT0:Hid (pAt x=if 0≤placeNo (p0R x) then 100+placeNo (p0R x) else (readO (p0R x)).getD 0):=Lib.hid rfl;have HIS0:Hid (pIs x=(decide (0≤placeNo (p0R x))||((readO (p0R x)).isSome&&inB ((readO (p0R x)).getD 0) 0 5))):=Lib.hid rfl;obtain⟨pn,hpn⟩:∃q,q=placeNo (p0R x):=⟨_,rfl⟩;obtain⟨rn,hrn⟩:∃q,q=(readO (p0R x)).getD 0:=⟨_,rfl⟩;obtain⟨rb,hrb⟩:∃q,q=(readO (p0R x)).isSome:=⟨_,rfl⟩;rw[←hpn] at CP hpl HAT0 HIS0;rw[←hrn,←hrb] at CR0;rw[←hrn] at HAT0 HIS0;rw[←hrb] at HIS0;clear hpn hrn hrb h2 h2' hw2 XR hp0;go_wp2_with fail
    refine CR0.mono ?_;rintro e wv ⟨rfl,hwv⟩;rw[hwv];clear hwv;clear CR0;go_wp2_with fail
    refine CP.mono ?_;rintro e w3 ⟨rfl,k3⟩;have hA3:=Lib.hid (hA2.out.keep k3);have e2:=(k3.cell hbp).trans e1;clear CP e0 e1 k3 hA2;by_cases hp:0≤pn
    ·
     have HIS:Hid (pIs x=true):=Lib.hid (by rw[HIS0.out,decide_eq_true hp,Bool.true_or]);obtain⟨pt,hpt⟩:∃q,q=100+pn:=⟨_,rfl⟩;have HAT:Hid (pt=pAt x):=Lib.hid (by rw[HAT0.out,if_pos hp,hpt]);have hw1:IntKind.i64.wrap (100+pn)=pt:=by rw[hpt,IntKind.wrap_i64];omega
     clear HIS0 HAT0 hpt;have CR1:=l1Read_any (p1R x) w3 hp1;unfold numR at CR1;have HV0:Hid (pVl x=(readO (p1R x)).getD 0):=Lib.hid rfl;obtain⟨fine,hfine⟩:∃b,b=(readO (p1R x)).isSome:=⟨_,rfl⟩;obtain⟨pv,hpv⟩:∃b,b=(readO (p1R x)).getD 0:=⟨_,rfl⟩;rw[←hfine,←hpv] at CR1;rw[←hpv] at HV0;rw[←hfine] at HPO;clear hfine hpv;go_wp2_with fail
     refine CR1.mono ?_;rintro e wv ⟨rfl,hwv⟩;rw[hwv];clear hwv;clear CR1 e2;cases fine
     ·
      have HT:Hid (raT l=false):=Lib.hid (HF.out (by rw[HPO.out,HPT2.out,HIS.out];rfl));have SR:StK w3 w3 w.heap.size nilVK nilVK:=⟨hA3.out.res,World.grownBy.refl _ _⟩;obtain⟨r0,r1⟩:=SR.cells;have g0:=SR.free 0;have g1:=SR.free 1;have KF:=Lib.hid hA3.out.K;have HRn:Hid (raR l=[]):=Lib.hid (by rw[raR,HT.out];rfl);have HVn:Hid (raV l=[]):=Lib.hid (by rw[raV,HT.out];rfl);go_wp2;have hZ:=(SR.set0 nilVK).set1 nilVK;refine bodyPost_ret (results_row_tmp (by rfl) _ _ w.heap.size _ _ (0,0) _ (.bool false) rfl hZ.1 rfl Tryd.underlying27 rfl (by kernel_rfl)) rfl ?_;exact⟨nilVK,nilVK,by rw[HT.out],by rw[HRn.out];exact rd_nilK _,by rw[HVn.out];exact rd_nilK _,KF.out.grown hZ.2 (fun q hq=>by have:=Option.some.inj hq;omega)⟩
     ·
      have HO:Hid (pOk x=true):=Lib.hid (by rw[HPO.out,HPT2.out,HIS.out];rfl);obtain⟨i0,hi0,hz0,hz1,hz2⟩:=info_parts Tryd.infoI;obtain⟨b0,b1⟩:=hA3.out.cells;have hN:=heap_alloc_new w3 (.cells #[.int .i64 pt] 2);obtain⟨wnA,hwn⟩:∃W:World,W=w3.alloc (.cells #[.int .i64 pt] 2):=⟨_,rfl⟩;have kn:Keep w3 wnA:=by rw[hwn];exact (Keep.refl _).alloc _
      rw[←hwn] at hN;have sN:wnA.heap.size=w3.heap.size+1:=by rw[hwn,heap_size]
      have hrow:wnA.ownsRow w1.heap.size 2 1 uR rsk.length (rsk.map (Value.int .i64)):=hA3.out.R.keep kn;have hbs:w1.heap.size≤wnA.heap.size:=Nat.le_trans hA3.out.size kn.size;have hlr:=HLR.out;go_wp2_with ((at_builtin;rw[←hwn];refine wpList_append_own_at _ rfl _ _ 25 rfl w1.heap.size 2 i0 (.int .i64 0) 1 8 Tryd.underlying25 hi0 hz0 hz1 hz2 rfl (by decide) _ _ _ rfl hrow ⟨w3.heap.size,0,none⟩ 1 1 [.int .i64 pt] rfl rfl (World.news_of_block (cs:=#[.int .i64 pt]) (t:=2) (fr:=(0,0)) hN) (by simp[Value.oneCell']) ?e3A ?e4A ?e5A ?_))
      case e3A=>unfold maxLen;omega
      case e4A=>omega
      case e5A=>exact hbs
      intro vA wA hown hgrow _ hblk;rw[←hwn] at hgrow;have oA:=own_hit hown;have Bx:wA.heap[w.heap.size+1]? = some (askC uR uV):=(hgrow.block _ (by have:=hA3.out.lt;have:=kn.size;omega) (ne_own hA3.out.R hA3.out.low)).trans ((Below.block kn _ hA3.out.lt).trans hA3.out.box);have qA:=cell_of_row wA _ 0 _ _ (0,0) Bx;have fA:=frozen_of_row wA _ 0 _ _ Bx;have ANA:=Lib.hid (hA3.out.pushR kn oA hgrow (by rw[sN];exact hblk));obtain⟨aA,cA,hvA,-⟩:=oA.rd;subst hvA;obtain⟨mA,hmA⟩:∃m,m=(rsk++[pt]).length:=⟨_,rfl⟩;rw[←hmA] at ANA ⊢;clear hmA;clear sN hown hgrow hblk oA Bx hrow hN hwn kn b0 b1 hbs hlr;obtain⟨wp,hwp⟩:∃W:World,W=wA.setCell ⟨w.heap.size+1,0,none⟩ (.slice aA mA cA):=⟨_,rfl⟩;rw[←hwp] at ANA;go_upto_region 20 with fail
      rw[←hwp];clear hwp qA fA;obtain⟨b0,b1⟩:=ANA.out.cells;have hN:=heap_alloc_new wp (.cells #[.int .i64 pv] 2);obtain⟨wnB,hwn⟩:∃W:World,W=wp.alloc (.cells #[.int .i64 pv] 2):=⟨_,rfl⟩;have kn:Keep wp wnB:=by rw[hwn];exact (Keep.refl _).alloc _
      rw[←hwn] at hN;have sN:wnB.heap.size=wp.heap.size+1:=by rw[hwn,heap_size]
      have hrow:wnB.ownsRow w1.heap.size 2 1 uV vsk.length (vsk.map (Value.int .i64)):=ANA.out.V.keep kn;have hbs:w1.heap.size≤wnB.heap.size:=Nat.le_trans ANA.out.size kn.size;have hlr:=HLV.out;go_wp2_with ((at_builtin;rw[←hwn];refine wpList_append_own_at _ rfl _ _ 25 rfl w1.heap.size 2 i0 (.int .i64 0) 1 8 Tryd.underlying25 hi0 hz0 hz1 hz2 rfl (by decide) _ _ _ rfl hrow ⟨wp.heap.size,0,none⟩ 1 1 [.int .i64 pv] rfl rfl (World.news_of_block (cs:=#[.int .i64 pv]) (t:=2) (fr:=(0,0)) hN) (by simp[Value.oneCell']) ?e3B ?e4B ?e5B ?_))
      case e3B=>unfold maxLen;omega
      case e4B=>omega
      case e5B=>exact hbs
      intro vB wB hown hgrow _ hblk;rw[←hwn] at hgrow;have oB:=own_hit hown;have Bx:wB.heap[w.heap.size+1]? = some (askC (.slice aA mA cA) uV):=(hgrow.block _ (by have:=ANA.out.lt;have:=kn.size;omega) (ne_own ANA.out.V ANA.out.low)).trans ((Below.block kn _ ANA.out.lt).trans ANA.out.box);have qB:=cell_of_row wB _ 1 _ _ (0,0) Bx;have fB:=frozen_of_row wB _ 1 _ _ Bx;have ANB:=Lib.hid (ANA.out.pushV kn oB hgrow (by rw[sN];exact hblk));obtain⟨aB,cB,hvB,-⟩:=oB.rd;subst hvB;obtain⟨mB,hmB⟩:∃m,m=(vsk++[pv]).length:=⟨_,rfl⟩;rw[←hmB] at ANB ⊢;clear hmB;clear sN hown hgrow hblk oB Bx hrow hN hwn kn b0 b1 hbs hlr;obtain⟨wq,hwq⟩:∃W:World,W=wB.setCell ⟨w.heap.size+1,1,none⟩ (.slice aB mB cB):=⟨_,rfl⟩;rw[←hwq] at ANB;go_upto_region 5 with fail
      rw[←hwq];clear hwq qB fB;go_wp2;go_roundw;case rel=>exact⟨k+1,_,_,by omega,by go_num,Lib.hid (by rw[HM1.out,HM2.out,←HRS.out,←HVS.out,←HAT.out,HV0.out];exact ANB.out),Lib.hid (HQ.out HO.out)⟩
      case measure=>simp[intOf];omega
    ·
     have hd:decide ((0:Int)≤pn)=false:=decide_eq_false hp;have CI:=l1In_any rn 0 5 w3;obtain⟨ib,hib⟩:∃q,q=inB rn 0 5:=⟨_,rfl⟩;rw[←hib] at CI HIS0;clear hib;go_wp2_with fail
     refine CI.mono ?_;rintro e wv ⟨rfl,hwv⟩;rw[hwv];clear hwv;clear CI;obtain⟨pt,hpt⟩:∃q,q=rn:=⟨_,rfl⟩;have HAT:Hid (pt=pAt x):=Lib.hid (by rw[HAT0.out,if_neg (by omega),hpt]);rw[←hpt];clear HAT0 hpt;have HIS1:Hid (pIs x=(rb&&ib)):=Lib.hid (by rw[HIS0.out,hd,Bool.false_or]);clear HIS0;cases ib
     ·
      have HT:Hid (raT l=false):=Lib.hid (HF.out (by rw[HPO.out,HIS1.out,Bool.and_false,Bool.false_and,Bool.and_false]));have CR1:=l1Read_any (p1R x) w3 hp1;unfold numR at CR1;go_wp2_with fail
      refine CR1.mono ?_;rintro e wu ⟨rfl,hwu⟩;rw[hwu];clear hwu;clear CR1 e2;have SR:StK w3 w3 w.heap.size nilVK nilVK:=⟨hA3.out.res,World.grownBy.refl _ _⟩;obtain⟨r0,r1⟩:=SR.cells;have g0:=SR.free 0;have g1:=SR.free 1;have KF:=Lib.hid hA3.out.K;have HRn:Hid (raR l=[]):=Lib.hid (by rw[raR,HT.out];rfl);have HVn:Hid (raV l=[]):=Lib.hid (by rw[raV,HT.out];rfl);go_wp2;have hZ:=(SR.set0 nilVK).set1 nilVK;refine bodyPost_ret (results_row_tmp (by rfl) _ _ w.heap.size _ _ (0,0) _ (.bool false) rfl hZ.1 rfl Tryd.underlying27 rfl (by kernel_rfl)) rfl ?_;exact⟨nilVK,nilVK,by rw[HT.out],by rw[HRn.out];exact rd_nilK _,by rw[HVn.out];exact rd_nilK _,KF.out.grown hZ.2 (fun q hq=>by have:=Option.some.inj hq;omega)⟩
     ·
      cases rb
      ·
       have HT:Hid (raT l=false):=Lib.hid (HF.out (by rw[HPO.out,HIS1.out,Bool.false_and,Bool.false_and,Bool.and_false]));have CR1:=l1Read_any (p1R x) w3 hp1;unfold numR at CR1;go_wp2_with fail
       refine CR1.mono ?_;rintro e wu ⟨rfl,hwu⟩;rw[hwu];clear hwu;clear CR1 e2;have SR:StK w3 w3 w.heap.size nilVK nilVK:=⟨hA3.out.res,World.grownBy.refl _ _⟩;obtain⟨r0,r1⟩:=SR.cells;have g0:=SR.free 0;have g1:=SR.free 1;have KF:=Lib.hid hA3.out.K;have HRn:Hid (raR l=[]):=Lib.hid (by rw[raR,HT.out];rfl);have HVn:Hid (raV l=[]):=Lib.hid (by rw[raV,HT.out];rfl);go_wp2;have hZ:=(SR.set0 nilVK).set1 nilVK;refine bodyPost_ret (results_row_tmp (by rfl) _ _ w.heap.size _ _ (0,0) _ (.bool false) rfl hZ.1 rfl Tryd.underlying27 rfl (by kernel_rfl)) rfl ?_;exact⟨nilVK,nilVK,by rw[HT.out],by rw[HRn.out];exact rd_nilK _,by rw[HVn.out];exact rd_nilK _,KF.out.grown hZ.2 (fun q hq=>by have:=Option.some.inj hq;omega)⟩
      ·
       have HIS:Hid (pIs x=true):=Lib.hid (by rw[HIS1.out];rfl);clear HIS1;have CR1:=l1Read_any (p1R x) w3 hp1;unfold numR at CR1;have HV0:Hid (pVl x=(readO (p1R x)).getD 0):=Lib.hid rfl;obtain⟨fine,hfine⟩:∃b,b=(readO (p1R x)).isSome:=⟨_,rfl⟩;obtain⟨pv,hpv⟩:∃b,b=(readO (p1R x)).getD 0:=⟨_,rfl⟩;rw[←hfine,←hpv] at CR1;rw[←hpv] at HV0;rw[←hfine] at HPO;clear hfine hpv;go_wp2_with fail
       refine CR1.mono ?_;rintro e wv ⟨rfl,hwv⟩;rw[hwv];clear hwv;clear CR1 e2;cases fine
       ·
        have HT:Hid (raT l=false):=Lib.hid (HF.out (by rw[HPO.out,HPT2.out,HIS.out];rfl));have SR:StK w3 w3 w.heap.size nilVK nilVK:=⟨hA3.out.res,World.grownBy.refl _ _⟩;obtain⟨r0,r1⟩:=SR.cells;have g0:=SR.free 0;have g1:=SR.free 1;have KF:=Lib.hid hA3.out.K;have HRn:Hid (raR l=[]):=Lib.hid (by rw[raR,HT.out];rfl);have HVn:Hid (raV l=[]):=Lib.hid (by rw[raV,HT.out];rfl);go_wp2;have hZ:=(SR.set0 nilVK).set1 nilVK;refine bodyPost_ret (results_row_tmp (by rfl) _ _ w.heap.size _ _ (0,0) _ (.bool false) rfl hZ.1 rfl Tryd.underlying27 rfl (by kernel_rfl)) rfl ?_;exact⟨nilVK,nilVK,by rw[HT.out],by rw[HRn.out];exact rd_nilK _,by rw[HVn.out];exact rd_nilK _,KF.out.grown hZ.2 (fun q hq=>by have:=Option.some.inj hq;omega)⟩
       ·
        have HO:Hid (pOk x=true):=Lib.hid (by rw[HPO.out,HPT2.out,HIS.out];rfl);obtain⟨i0,hi0,hz0,hz1,hz2⟩:=info_parts Tryd.infoI;obtain⟨b0,b1⟩:=hA3.out.cells;have hN:=heap_alloc_new w3 (.cells #[.int .i64 pt] 2);obtain⟨wnA,hwn⟩:∃W:World,W=w3.alloc (.cells #[.int .i64 pt] 2):=⟨_,rfl⟩;have kn:Keep w3 wnA:=by rw[hwn];exact (Keep.refl _).alloc _
        rw[←hwn] at hN;have sN:wnA.heap.size=w3.heap.size+1:=by rw[hwn,heap_size]
        have hrow:wnA.ownsRow w1.heap.size 2 1 uR rsk.length (rsk.map (Value.int .i64)):=hA3.out.R.keep kn;have hbs:w1.heap.size≤wnA.heap.size:=Nat.le_trans hA3.out.size kn.size;have hlr:=HLR.out;go_wp2_with ((at_builtin;rw[←hwn];refine wpList_append_own_at _ rfl _ _ 25 rfl w1.heap.size 2 i0 (.int .i64 0) 1 8 Tryd.underlying25 hi0 hz0 hz1 hz2 rfl (by decide) _ _ _ rfl hrow ⟨w3.heap.size,0,none⟩ 1 1 [.int .i64 pt] rfl rfl (World.news_of_block (cs:=#[.int .i64 pt]) (t:=2) (fr:=(0,0)) hN) (by simp[Value.oneCell']) ?e3A ?e4A ?e5A ?_))
        case e3A=>unfold maxLen;omega
        case e4A=>omega
        case e5A=>exact hbs
        intro vA wA hown hgrow _ hblk;rw[←hwn] at hgrow;have oA:=own_hit hown;have Bx:wA.heap[w.heap.size+1]? = some (askC uR uV):=(hgrow.block _ (by have:=hA3.out.lt;have:=kn.size;omega) (ne_own hA3.out.R hA3.out.low)).trans ((Below.block kn _ hA3.out.lt).trans hA3.out.box);have qA:=cell_of_row wA _ 0 _ _ (0,0) Bx;have fA:=frozen_of_row wA _ 0 _ _ Bx;have ANA:=Lib.hid (hA3.out.pushR kn oA hgrow (by rw[sN];exact hblk));obtain⟨aA,cA,hvA,-⟩:=oA.rd;subst hvA;obtain⟨mA,hmA⟩:∃m,m=(rsk++[pt]).length:=⟨_,rfl⟩;rw[←hmA] at ANA ⊢;clear hmA;clear sN hown hgrow hblk oA Bx hrow hN hwn kn b0 b1 hbs hlr;obtain⟨wp,hwp⟩:∃W:World,W=wA.setCell ⟨w.heap.size+1,0,none⟩ (.slice aA mA cA):=⟨_,rfl⟩;rw[←hwp] at ANA;go_upto_region 20 with fail
        rw[←hwp];clear hwp qA fA;obtain⟨b0,b1⟩:=ANA.out.cells;have hN:=heap_alloc_new wp (.cells #[.int .i64 pv] 2);obtain⟨wnB,hwn⟩:∃W:World,W=wp.alloc (.cells #[.int .i64 pv] 2):=⟨_,rfl⟩;have kn:Keep wp wnB:=by rw[hwn];exact (Keep.refl _).alloc _
        rw[←hwn] at hN;have sN:wnB.heap.size=wp.heap.size+1:=by rw[hwn,heap_size]
        have hrow:wnB.ownsRow w1.heap.size 2 1 uV vsk.length (vsk.map (Value.int .i64)):=ANA.out.V.keep kn;have hbs:w1.heap.size≤wnB.heap.size:=Nat.le_trans ANA.out.size kn.size;have hlr:=HLV.out;go_wp2_with ((at_builtin;rw[←hwn];refine wpList_append_own_at _ rfl _ _ 25 rfl w1.heap.size 2 i0 (.int .i64 0) 1 8 Tryd.underlying25 hi0 hz0 hz1 hz2 rfl (by decide) _ _ _ rfl hrow ⟨wp.heap.size,0,none⟩ 1 1 [.int .i64 pv] rfl rfl (World.news_of_block (cs:=#[.int .i64 pv]) (t:=2) (fr:=(0,0)) hN) (by simp[Value.oneCell']) ?e3B ?e4B ?e5B ?_))
        case e3B=>unfold maxLen;omega
        case e4B=>omega
        case e5B=>exact hbs
        intro vB wB hown hgrow _ hblk;rw[←hwn] at hgrow;have oB:=own_hit hown;have Bx:wB.heap[w.heap.size+1]? = some (askC (.slice aA mA cA) uV):=(hgrow.block _ (by have:=ANA.out.lt;have:=kn.size;omega) (ne_own ANA.out.V ANA.out.low)).trans ((Below.block kn _ ANA.out.lt).trans ANA.out.box);have qB:=cell_of_row wB _ 1 _ _ (0,0) Bx;have fB:=frozen_of_row wB _ 1 _ _ Bx;have ANB:=Lib.hid (ANA.out.pushV kn oB hgrow (by rw[sN];exact hblk));obtain⟨aB,cB,hvB,-⟩:=oB.rd;subst hvB;obtain⟨mB,hmB⟩:∃m,m=(vsk++[pv]).length:=⟨_,rfl⟩;rw[←hmB] at ANB ⊢;clear hmB;clear sN hown hgrow hblk oB Bx hrow hN hwn kn b0 b1 hbs hlr;obtain⟨wq,hwq⟩:∃W:World,W=wB.setCell ⟨w.heap.size+1,1,none⟩ (.slice aB mB cB):=⟨_,rfl⟩;rw[←hwq] at ANB;go_upto_region 5 with fail
        rw[←hwq];clear hwq qB fB;go_wp2;go_roundw;case rel=>exact⟨k+1,_,_,by omega,by go_num,Lib.hid (by rw[HM1.out,HM2.out,←HRS.out,←HVS.out,←HAT.out,HV0.out];exact ANB.out),Lib.hid (HQ.out HO.out)⟩
        case measure=>simp[intOf];omega
   ·
    have HT:Hid (raT l=false):=Lib.hid (HF.out (by rw[HPO.out,HPT.out,decide_eq_false h2];rfl));have hne:(((splitL 61 x).length:Int) != 2)=true:=by simp;omega
    have SR:StK w2 w2 w.heap.size nilVK nilVK:=⟨hA2.out.res,World.grownBy.refl _ _⟩;obtain⟨r0,r1⟩:=SR.cells;have g0:=SR.free 0;have g1:=SR.free 1;have KF:=Lib.hid hA2.out.K;have HRn:Hid (raR l=[]):=Lib.hid (by rw[raR,HT.out];rfl);have HVn:Hid (raV l=[]):=Lib.hid (by rw[raV,HT.out];rfl);clear h2 XR;go_wp2;have hZ:=(SR.set0 nilVK).set1 nilVK;refine bodyPost_ret (results_row_tmp (by rfl) _ _ w.heap.size _ _ (0,0) _ (.bool false) rfl hZ.1 rfl Tryd.underlying27 rfl (by kernel_rfl)) rfl ?_;exact⟨nilVK,nilVK,by rw[HT.out],by rw[HRn.out];exact rd_nilK _,by rw[HVn.out];exact rd_nilK _,KF.out.grown hZ.2 (fun q hq=>by have:=Option.some.inj hq;omega)⟩
  ·
   obtain rfl:k=ws.length:=by omega
   have HE:Hid (raT l=okA 6 (ws.map pAt) (ws.map pVl)):=Lib.hid (by rw[HW.out];exact raT_end (fun i hi=>by rw[←HW.out] at hi ⊢;exact hq.out i hi));rw[List.take_length] at hA;obtain⟨b0,b1⟩:=hA.out.cells;have CO:=l18Ok_any wr uR uV (ws.map pAt) (ws.map pVl) 6 hA.out.R.rd hA.out.V.rd (by decide) (by decide) (by rw[List.length_map];omega);obtain⟨A,hAe⟩:∃A,A=okA 6 (ws.map pAt) (ws.map pVl):=⟨_,rfl⟩;rw[←hAe] at CO HE;obtain⟨RL,hRL⟩:∃r,r=ws.map pAt:=⟨_,rfl⟩;obtain⟨VL,hVL⟩:∃r,r=ws.map pVl:=⟨_,rfl⟩;rw[←hRL] at hA;rw[←hVL] at hA;have XRL:=Lib.hid hRL;have XVL:=Lib.hid hVL;clear hRL hVL;obtain⟨aR,cR,hR,-⟩:=hA.out.R.rd;obtain⟨aV,cV,hV,-⟩:=hA.out.V.rd;subst hR;subst hV;clear hAe;go_wp2_with fail
   refine CO.mono ?_;rintro e w3 ⟨rfl,k3⟩;have hA3:=Lib.hid (hA.out.keep k3);clear CO k3 b0 b1 hA;cases A
   ·
    have HT:=HE;have SR:StK w3 w3 w.heap.size nilVK nilVK:=⟨hA3.out.res,World.grownBy.refl _ _⟩;obtain⟨r0,r1⟩:=SR.cells;have g0:=SR.free 0;have g1:=SR.free 1;have KF:=Lib.hid hA3.out.K;have HRn:Hid (raR l=[]):=Lib.hid (by rw[raR,HT.out];rfl);have HVn:Hid (raV l=[]):=Lib.hid (by rw[raV,HT.out];rfl);go_wp2;have hZ:=(SR.set0 nilVK).set1 nilVK;refine bodyPost_ret (results_row_tmp (by rfl) _ _ w.heap.size _ _ (0,0) _ (.bool false) rfl hZ.1 rfl Tryd.underlying27 rfl (by kernel_rfl)) rfl ?_;exact⟨nilVK,nilVK,by rw[HT.out],by rw[HRn.out];exact rd_nilK _,by rw[HVn.out];exact rd_nilK _,KF.out.grown hZ.2 (fun q hq=>by have:=Option.some.inj hq;omega)⟩
   ·
    have SR:StK w3 w3 w.heap.size nilVK nilVK:=⟨hA3.out.res,World.grownBy.refl _ _⟩;obtain⟨r0,r1⟩:=SR.cells;have g0:=SR.free 0;have g1:=SR.free 1;obtain⟨b0,b1⟩:=hA3.out.cells;have KF:=Lib.hid hA3.out.K;have HRn:Hid (raR l=ws.map pAt):=Lib.hid (by rw[raR,HE.out,if_pos rfl,←HW.out]);have HVn:Hid (raV l=ws.map pVl):=Lib.hid (by rw[raV,HE.out,if_pos rfl,←HW.out]);go_wp2;have hZ:=(SR.set0 (.slice aR RL.length cR)).set1 (.slice aV VL.length cV);refine bodyPost_ret (results_row_tmp (by rfl) _ _ w.heap.size _ _ (0,0) _ (.bool true) rfl hZ.1 rfl Tryd.underlying27 rfl (by kernel_rfl)) rfl ?_;exact⟨_,_,by rw[HE.out],by rw[HRn.out,←XRL.out];exact (hA3.out.R.otherK (by have:=hA3.out.low;omega) hZ.2).rd,by rw[HVn.out,←XVL.out];exact (hA3.out.V.otherK (by have:=hA3.out.low;omega) hZ.2).rd,KF.out.grown hZ.2 (fun q hq=>by have:=Option.some.inj hq;omega)⟩
end Go.Proofs.YtflehmepjhikcaaDoor
