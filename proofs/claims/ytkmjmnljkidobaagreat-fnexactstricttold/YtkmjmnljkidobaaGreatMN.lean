/- Gathered texts. -/
import Derived.Test.YtkmjmnljkidobaaGreatMM
import Derived.BigRegion
import Derived.Deep.QuietTactic
import Derived.BigQuiet
import Derived.Lib.Hide
import Derived.Test.YtkmjmnljkidobaaGreatRows
import Derived.OpenShut
set_option maxRecDepth 100000
set_option maxHeartbeats 8000000
namespace Go.Proofs.YtkmjmnljkidobaaGreat
open Go.ChangeShapes Go.WideShapes Go.ChangeAt Go.RowKit
def nK (es:List Ev)(n:Int):Nat→Int
 | 0=>n
 |k+1=>nK es n k / fac ((plcW es (2-k)).length-1)
def pK (es:List Ev)(n:Int)(k:Nat):List Int:=partL (plcW es (2-k)) (nK es n k % fac ((plcW es (2-k)).length-1))
theorem ratL_pK (es:List Ev)(n:Int):ratL es n=pK es n 2++pK es n 1++pK es n 0:=rfl
theorem nK_in (es:List Ev){n M:Int}(h0:0≤n)(h1:n≤M):∀k:Nat,0≤nK es n k∧nK es n k≤M
 | 0=>⟨h0,h1⟩
 |k+1=>by
  obtain⟨g0,g1⟩:=nK_in es h0 h1 k;rw[nK];exact⟨Int.ediv_nonneg g0 (by have:=fac_pos ((plcW es (2-k)).length-1);omega),Int.le_trans (Int.ediv_le_self _ g0) g1⟩
def Parts (w:World)(G:Nat)(c:Nat→Value):Prop:=w.heap[G]? = some (.cells #[c 0,c 1,c 2] 50 (0,0))
theorem Parts.lt {w:World}{G:Nat}{c:Nat→Value}(h:Parts w G c):G<w.heap.size:=(Array.getElem?_eq_some_iff.1 h).1
theorem Parts.cell {w:World}{G:Nat}{c:Nat→Value}(h:Parts w G c){j:Nat}(hj:j<3):w.cell? ⟨G,j,none⟩=some (c j):=by
 rw[cell_of_row w G j _ _ _ h];have:j=0∨j=1∨j=2:=by omega
 rcases this with rfl|rfl|rfl<;>rfl
theorem Parts.free {w:World}{G:Nat}{c:Nat→Value}(h:Parts w G c)(j:Nat):w.frozen? ⟨G,j,none⟩=false:=frozen_of_row w G j _ _ h
theorem Parts.kept {w w':World}{G:Nat}{c:Nat→Value}{row:Option Nat}(h:Parts w G c)(hg:w.grownBy w' row)(hne:row≠some G):Parts w' G c:=by
 unfold Parts;rw[hg.block G h.lt (fun e=>hne e.symm)];exact h
theorem Parts.set {w:World}{G:Nat}{c:Nat→Value}(h:Parts w G c){j:Nat}(hj:j<3)(v:Value):Parts (w.setCell ⟨G,j,none⟩ v) G (fun i=>if i=j then v else c i):=by
 unfold Parts;rw[heap_setCell_same w G j _ _ _ h];have:j=0∨j=1∨j=2:=by omega
 rcases this with rfl|rfl|rfl<;>rfl
structure PartOk (w:World)(G:Nat)(u:Value)(L:List Int):Prop where
 rd:Rd w u L
 ne:u.ownBlock≠some G
 lt:∀k,u.ownBlock=some k→k<w.heap.size
 at':∃g c,u = .slice (some ⟨g,0,none⟩) L.length c
theorem PartOk.kept {w w':World}{G:Nat}{u:Value}{L:List Int}{row:Option Nat}(h:PartOk w G u L)(hg:w.grownBy w' row)(hne:u.ownBlock≠row):PartOk w' G u L:=
 ⟨h.rd.keptR hg (.inr hne),h.ne,fun k hk=>Nat.lt_of_lt_of_le (h.lt k hk) hg.size,h.at'⟩
theorem PartOk.keep {w w':World}{G:Nat}{u:Value}{L:List Int}(h:PartOk w G u L)(k:Keep w w'):PartOk w' G u L:=
 ⟨h.rd.keep k,h.ne,fun j hj=>Nat.lt_of_lt_of_le (h.lt j hj) k.size,h.at'⟩
theorem part_cells {w:World}{G g n c:Nat}{L:List Int}(h:PartOk w G (.slice (some ⟨g,0,none⟩) n c) L):∀j u,(L.map (Value.int .i64))[j]? = some u→w.cell? ((⟨g,0,none⟩:Addr).add j)=some u:=by
 obtain⟨a,c',e,hr⟩:=h.rd;simp only[Value.slice.injEq] at e;obtain⟨rfl,_,_⟩:=e;rcases hr with h0|⟨b,off,e,hb,hc⟩
 · intro j u hj;rw[h0] at hj;simp at hj
 ·
  simp only[Option.some.injEq,Addr.mk.injEq] at e;obtain⟨rfl,rfl,_⟩:=e;exact rd_cells hc
theorem Own.one (w:World)(z:Int):Own (w.alloc (.cells #[.int .i64 z] 2)) w.heap.size (.slice (some ⟨w.heap.size,0,none⟩) 1 1) [z]:=World.ownsRow_lit w #[.int .i64 z] 1 (Nat.le_refl _) (by decide) rfl
theorem Own.cellsOf {w:World}{base g c:Nat}{zs:List Int}{n:Nat}(h:Own w base (.slice (some ⟨g,0,none⟩) n c) zs):∀j u,(zs.map (Value.int .i64))[j]? = some u→w.cell? ((⟨g,0,none⟩:Addr).add j)=some u:=by
 have hR:=h.rowAt;exact rd_cells (fun i hi=>by rw[Nat.zero_add];exact hR.cell hi)
theorem l9At_any (w:World)(v:Value)(es:List Ev)(n:Int)(h:RdE w v es)(hx:es.length≤9)(hp:∀p,p<3→0<(plcW es p).length)(h0:0≤n)(h1:n≤65548320768000):
    Calls Tryz.prog 101 #[v,.int .i64 n] w fun e w'=>∃v',e = .returned v'∧Own w' w.heap.size v' (ratL es n)∧Keep w w':=by
  obtain⟨i0,hi,hz0,hz1,hz2⟩:=info_parts Tryz.infoI;go_enter Tryz.func101,Tryz.ntmps101
  go_wp2_with fail
  refine (l9Places_cap _ _ _ h (by omega)).mono ?_;rintro e w1 ⟨v1,rfl,r1,k1⟩;obtain⟨a,c,rfl,r1⟩:=r1;rcases r1 with e0|⟨b,o,rfl,hb,hc⟩
  · exfalso;have:=plcK_len es 3;rw[e0] at this;simp at this
  rw[plcK_len] at hc ⊢;have HC:=Lib.hid hc;have HP:=Lib.hid hp;clear hc hp h;go_wp2
  have hP:Parts ((((w1.alloc (.cells #[] 2)).alloc (.cells #[] 2)).alloc (.cells #[] 2)).alloc (.cells #[.slice (some ⟨w1.heap.size,0,none⟩) 0 0,.slice (some ⟨w1.heap.size+1,0,none⟩) 0 0,.slice (some ⟨w1.heap.size+1+1,0,none⟩) 0 0] 50)) (w1.heap.size+1+1+1) (fun i => .slice (some ⟨w1.heap.size+i,0,none⟩) 0 0):=by
    unfold Parts;have e1:w1.heap.size+1+1+1=(((w1.alloc (.cells #[] 2)).alloc (.cells #[] 2)).alloc (.cells #[] 2)).heap.size:=by rw[heap_size,heap_size,heap_size]
    rw[e1,heap_at,if_pos rfl];rfl
  have k2:Keep w1 ((((w1.alloc (.cells #[] 2)).alloc (.cells #[] 2)).alloc (.cells #[] 2)).alloc (.cells #[.slice (some ⟨w1.heap.size,0,none⟩) 0 0,.slice (some ⟨w1.heap.size+1,0,none⟩) 0 0,.slice (some ⟨w1.heap.size+1+1,0,none⟩) 0 0] 50)):=((((Keep.refl w1).alloc _).alloc _).alloc _).alloc _;obtain⟨G,hG⟩:∃G,G=w1.heap.size+1+1+1:=⟨_,rfl⟩;rw[←hG] at hP ⊢;have hG1:w1.heap.size≤G:=by omega
  clear hG;go_loopw [1,7] (fun x i wr=>∃(k:Nat) (cc:Nat→Value),k≤3∧x = .int .i64 (nK es n k)∧i = .int .i64 (2-(k:Int))∧Parts wr G cc∧Hid (∀j,j<k→PartOk wr G (cc (2-j)) (pK es n j))∧Keep w1 wr) (fun _ i _=>(intOf i+1).toNat)
  case atStart=>exact⟨0,_,Nat.zero_le _,rfl,rfl,hP,Lib.hid (fun j hj=>by omega),k2⟩
  case round=>
    obtain⟨k,cc,hk,rfl,rfl,hPt,HQ,hK⟩:=hrel;clear hP k2;by_cases hlt:k<3
    · obtain⟨j,hj⟩:∃j:Nat,j=2-k:=⟨_,rfl⟩
      have ej:(2:Int)-(k:Int)=(j:Int):=by omega
      have hj3:j<3:=by omega
      obtain⟨vi,e1,r2,cz⟩:=HC.out j hj3;rw[plcK_get es j hj3] at r2 cz;have d1:=(hK.cell hb).trans e1;have r3:=r2.keep hK;have hpj:=HP.out j hj3;have hl9:=plcW_len9 hx j;obtain⟨x0,x1⟩:=nK_in es h0 h1 k;have HN:Hid (nK es n (k+1)=nK es n k / fac ((plcW es j).length-1)):=Lib.hid (by rw[hj];rfl);have HPK:Hid (pK es n k=partL (plcW es j) (nK es n k % fac ((plcW es j).length-1))):=Lib.hid (by unfold pK;rw[hj]);have HJ:=Lib.hid hj;rw[ej];clear e1 r2 hj ej HC;generalize nK es n k=x at *;obtain⟨p,hpe⟩:∃p,p=plcW es j:=⟨_,rfl⟩;rw[←hpe] at r3 hpj hl9 HN HPK cz;clear hpe;obtain⟨ap,cp,rfl,r3⟩:=r3;rcases r3 with e0|⟨bp,op,rfl,hbp,hcp⟩
      · exfalso;rw[e0] at hpj;simp at hpj
      simp only[capZ] at cz;obtain⟨m,hm⟩:∃m,p.length=m+1:=⟨p.length-1,by omega⟩;have HM:=Lib.hid hm;have hz:=hcp 0 (by omega);rw[Nat.add_zero] at hz
      have hct:∀i,i<(p.drop 1).length→wr.cell? ⟨bp,op+1+i,none⟩=some (.int .i64 ((p.drop 1).getD i 0)):=fun i hi=>by
        rw[List.length_drop] at hi;rw[show op+1+i=op+(1+i) by omega,hcp (1+i) (by omega),List.getD_eq_getElem?_getD,List.getD_eq_getElem?_getD,List.getElem?_drop]
      have HPart:Hid (∀r,partL p r=p.getD 0 0::ordL m (p.drop 1) r):=Lib.hid (fun r=>by rw[partL,hm,Nat.add_sub_cancel]);have hdl:(p.drop 1).length=m:=by rw[List.length_drop,hm];omega
      rw[hm] at d1 hl9 cz HN HPK;rw[Nat.add_sub_cancel] at HN HPK;clear hcp hm hpj;have fp:=fac_pos m;have ft:=fac_top (n:=m) (by omega);have C:=fun (W:World)=>l9Factorial_any W m (by omega)
      have CO:=fun (W:World) (u:Value) (r:Int) (hu:Rd W u (p.drop 1)) (r0:0≤r) (r1:r<fac m)=>l9Order_any W u (p.drop 1) r hu (by omega) r0 (by rw[hdl];exact r1)
      rw[hdl] at CO;have HD:=Lib.hid hdl;generalize fac m=F at C CO fp ft HN HPK;generalize p.getD 0 0=z at hz HPart;have e1:x.tmod F=x % F:=Int.tmod_eq_emod_of_nonneg x0;have e2:x.tdiv F=x / F:=Int.tdiv_eq_ediv_of_nonneg x0;have r0:0≤x % F:=Int.emod_nonneg _ (by omega);have r1:x % F<F:=Int.emod_lt_of_pos _ fp;have y0:0≤x / F:=Int.ediv_nonneg x0 (by omega);have y1:x / F≤x:=Int.ediv_le_self _ x0;obtain⟨r,hr⟩:∃r,r=x % F:=⟨_,rfl⟩;rw[←hr] at e1 r0 r1 HPK;obtain⟨y,hy⟩:∃y,y=x / F:=⟨_,rfl⟩;rw[←hy] at e2 y0 y1 HN;clear hr hy hdl;have i1:(0:Int)≤(j:Int):=Int.natCast_nonneg _;have i2:(j:Int)<3:=by omega
      have i3:(m:Int)≤8:=by omega
      have i4:(0:Int)≤(m:Int):=Int.natCast_nonneg _;have i5:(1:Int)≤(m:Int)+1:=by omega
      have fne:¬(F=0):=by omega
      have hbw:b<wr.heap.size:=Nat.lt_of_lt_of_le hb hK.size;have hGw:=hPt.lt;have gj:=hPt.cell hj3;have gf:=hPt.free j;go_wp2_with fail
      refine (C _).mono ?_;rintro e w2 ⟨rfl,rfl⟩;have KA:Keep w2 (w2.alloc (.cells #[.int .i64 z] 2)).drew:=((Keep.refl w2).alloc _).drew;have KB:Keep w2 w2.drew:=(Keep.refl w2).drew;have OA0:Own (w2.alloc (.cells #[.int .i64 z] 2)).drew w2.heap.size (.slice (some ⟨w2.heap.size,0,none⟩) 1 1) [z]:=(Own.one w2 z).keep (Keep.refl _).drew;by_cases hc1:cp=1
      · subst hc1
        have m0:m=0:=by omega
        have RT:∀W:World,Keep w2 W→Rd W (.slice (some ⟨bp,op,none⟩) 0 0) (p.drop 1):=fun W _=>⟨_,0,by rw[HD.out,m0],.inl (List.eq_nil_of_length_eq_zero (by rw[HD.out,m0]))⟩
        subst m0;go_wp2
        go_region_law ((first
          | (refine step_append_at rfl (.tmp 34) (.tmp 43) 50 rfl w2.heap.size 2 i0 (.int .i64 0) 1 8 Tryz.underlying50 hi hz0 hz1 hz2 rfl (by decide) (.slice (some ⟨w2.heap.size,0,none⟩) 1 1) 1 [.int .i64 z] rfl OA ⟨go,0,none⟩ 0 co ((ordL 0 (p.drop 1) r).map (Value.int .i64)) rfl (by rw[List.length_map,ordL_len,Nat.mul_one]) OO.cellsOf (ints_one _) (by unfold maxLen;omega) (by omega) (by have:=KW.size;omega) ?_
             intro v' w8 hown' hgrow hblk
             have O8:Own w8 w2.heap.size v' (partL p r):=by
               rw[HPart.out];refine Own.base_le (base:=w2.heap.size) ?_ (Nat.le_refl _);unfold Own;rw[List.length_cons,ordL_len,Nat.add_comm];exact hown'
             have Kw8:Keep w2 w8:=KW.grown hgrow (fun k hk=>by have:=OA.ge k hk;omega)
             have nn:∃d,v'.ownBlock=some d:=by
               rcases hblk with e|e
               · exact⟨_,e⟩
               · exact⟨_,e⟩
             obtain⟨g5,c5,hv5⟩:∃g c,v' = .slice (some ⟨g,0,none⟩) (partL p r).length c:=by
               obtain⟨dd,hdd⟩:=nn;rcases O8.2 with ⟨e,_⟩|⟨g,cap,cur,e,_⟩
               · rw[e] at hdd;cases hdd
               · exact⟨g,cap,e⟩
             obtain⟨N8,hN8⟩:∃N,N=(partL p r).length:=⟨_,rfl⟩;have HN8:=Lib.hid hN8;rw[←hN8] at hv5;subst hv5;clear hN8 nn;have P8:Parts w8 G cc:=hPt.kept Kw8.grownBy (by simp);have d8:=P8.cell hj3;have f8:=P8.free j;have hg8:=P8.lt
             clear hown' hgrow hblk)
          | (refine step_append_at rfl (.tmp 34) (.tmp 43) 50 rfl w6.heap.size 2 i0 (.int .i64 0) 1 8 Tryz.underlying50 hi hz0 hz1 hz2 rfl (by decide) (.slice (some ⟨w6.heap.size,0,none⟩) 1 1) 1 [.int .i64 z] rfl OB ⟨go,0,none⟩ 0 co ((ordL 0 (p.drop 1) r).map (Value.int .i64)) rfl (by rw[List.length_map,ordL_len,Nat.mul_one]) OO.cellsOf (ints_one _) (by unfold maxLen;omega) (by omega) (by rw[heap_size];omega) ?_
             intro v' w8 hown' hgrow hblk
             have O8:Own w8 w2.heap.size v' (partL p r):=by
               rw[HPart.out];refine Own.base_le (base:=w6.heap.size) ?_ sz6;unfold Own;rw[List.length_cons,ordL_len,Nat.add_comm];exact hown'
             have Kw8:Keep w2 w8:=KW.grown hgrow (fun k hk=>by have:=OB.ge k hk;have:=sz6;omega)
             have nn:∃d,v'.ownBlock=some d:=by
               rcases hblk with e|e
               · exact⟨_,e⟩
               · exact⟨_,e⟩
             obtain⟨g5,c5,hv5⟩:∃g c,v' = .slice (some ⟨g,0,none⟩) (partL p r).length c:=by
               obtain⟨dd,hdd⟩:=nn;rcases O8.2 with ⟨e,_⟩|⟨g,cap,cur,e,_⟩
               · rw[e] at hdd;cases hdd
               · exact⟨g,cap,e⟩
             obtain⟨N8,hN8⟩:∃N,N=(partL p r).length:=⟨_,rfl⟩;have HN8:=Lib.hid hN8;rw[←hN8] at hv5;subst hv5;clear hN8 nn;have P8:Parts w8 G cc:=hPt.kept Kw8.grownBy (by simp);have d8:=P8.cell hj3;have f8:=P8.free j;have hg8:=P8.lt
             clear hown' hgrow hblk)
          | (go_simp;refine (CO _ _ r (RT _ KA) r0 r1).mono ?_;rintro e w6 ⟨go,co,rfl,OO,ko⟩;have OA:=OA0.keep ko;have KW:=KA.trans ko)
          | (go_simp;refine (CO _ _ r (RT _ KB) r0 r1).mono ?_;rintro e w6 ⟨go,co,rfl,OO1,ko⟩;have OB:=Own.one w6 z;have sz6:=(KB.trans ko).size;have d16:=((KB.trans ko).cell hbw).trans d1;have hz6:=((KB.trans ko).cell hbp).trans hz;have hbw6:b<w6.heap.size:=Nat.lt_of_lt_of_le hbw sz6;have hbp6:bp<w6.heap.size:=Nat.lt_of_lt_of_le hbp sz6;have OO:=OO1.keep ((Keep.refl w6).alloc (.cells #[.int .i64 z] 2));have KW:=(KB.trans ko).alloc (.cells #[.int .i64 z] 2))))
        all_goals
          have v8g:(Value.slice (some ⟨g5,0,none⟩) N8 c5).ownBlock≠some G:=fun e=>by have:=O8.ge G e;omega
          have K18:=hK.trans Kw8;have KS:Keep w1 (w8.setCell ⟨G,j,none⟩ (Value.slice (some ⟨g5,0,none⟩) N8 c5)):=K18.grown (grown_set w8 G j (Value.slice (some ⟨g5,0,none⟩) N8 c5)) (fun k hk=>by simp at hk;omega);have P9:=P8.set hj3 (Value.slice (some ⟨g5,0,none⟩) N8 c5)
          have HQ9:Hid (∀i,i<k+1→PartOk (w8.setCell ⟨G,j,none⟩ (Value.slice (some ⟨g5,0,none⟩) N8 c5)) G ((fun i=>if i=j then (Value.slice (some ⟨g5,0,none⟩) N8 c5) else cc i) (2-i)) (pK es n i)):=Lib.hid (fun i hi=>by
            by_cases ei:i=k
            · subst ei
              have:2-i=j:=by rw[HJ.out]
              simp only[this,if_true];rw[HPK.out];have Q:PartOk w8 G (Value.slice (some ⟨g5,0,none⟩) N8 c5) (partL p r):=⟨O8.rd,v8g,fun q hq=>(World.ownsRow.lt O8 q hq).2,⟨g5,c5,by rw[HN8.out]⟩⟩;exact Q.kept (grown_set w8 G j (Value.slice (some ⟨g5,0,none⟩) N8 c5)) v8g
            · have hne:¬(2-i=j):=by have:=HJ.out;omega
              simp only[hne,if_false];have Q:=(HQ.out i (by omega)).keep Kw8
              exact Q.kept (grown_set w8 G j (Value.slice (some ⟨g5,0,none⟩) N8 c5)) Q.ne)
          clear HQ P8 Kw8;go_wp2;go_roundw;case rel=>exact⟨k+1,fun i=>if i=j then (Value.slice (some ⟨g5,0,none⟩) N8 c5) else cc i,by omega,by rw[HN.out],by have:=HJ.out;congr 1;omega,P9,HQ9,KS⟩
          case measure=>simp[intOf]
      · have RT:∀W:World,Keep w2 W→Rd W (.slice (some ⟨bp,op+1,none⟩) m (cp-1)) (p.drop 1):=fun W kW=>⟨_,cp-1,by rw[HD.out],.inr ⟨bp,op+1,rfl,Nat.lt_of_lt_of_le hbp kW.size,fun i hi=>(kW.cell hbp).trans (hct i hi)⟩⟩
        go_wp2
        go_region_law ((first
          | (refine step_append_at rfl (.tmp 34) (.tmp 43) 50 rfl w2.heap.size 2 i0 (.int .i64 0) 1 8 Tryz.underlying50 hi hz0 hz1 hz2 rfl (by decide) (.slice (some ⟨w2.heap.size,0,none⟩) 1 1) 1 [.int .i64 z] rfl OA ⟨go,0,none⟩ m co ((ordL m (p.drop 1) r).map (Value.int .i64)) rfl (by rw[List.length_map,ordL_len,Nat.mul_one]) OO.cellsOf (ints_one _) (by unfold maxLen;omega) (by omega) (by have:=KW.size;omega) ?_
             intro v' w8 hown' hgrow hblk
             have O8:Own w8 w2.heap.size v' (partL p r):=by
               rw[HPart.out];refine Own.base_le (base:=w2.heap.size) ?_ (Nat.le_refl _);unfold Own;rw[List.length_cons,ordL_len,Nat.add_comm];exact hown'
             have Kw8:Keep w2 w8:=KW.grown hgrow (fun k hk=>by have:=OA.ge k hk;omega)
             have nn:∃d,v'.ownBlock=some d:=by
               rcases hblk with e|e
               · exact⟨_,e⟩
               · exact⟨_,e⟩
             obtain⟨g5,c5,hv5⟩:∃g c,v' = .slice (some ⟨g,0,none⟩) (partL p r).length c:=by
               obtain⟨dd,hdd⟩:=nn;rcases O8.2 with ⟨e,_⟩|⟨g,cap,cur,e,_⟩
               · rw[e] at hdd;cases hdd
               · exact⟨g,cap,e⟩
             obtain⟨N8,hN8⟩:∃N,N=(partL p r).length:=⟨_,rfl⟩;have HN8:=Lib.hid hN8;rw[←hN8] at hv5;subst hv5;clear hN8 nn;have P8:Parts w8 G cc:=hPt.kept Kw8.grownBy (by simp);have d8:=P8.cell hj3;have f8:=P8.free j;have hg8:=P8.lt
             clear hown' hgrow hblk)
          | (refine step_append_at rfl (.tmp 34) (.tmp 43) 50 rfl w6.heap.size 2 i0 (.int .i64 0) 1 8 Tryz.underlying50 hi hz0 hz1 hz2 rfl (by decide) (.slice (some ⟨w6.heap.size,0,none⟩) 1 1) 1 [.int .i64 z] rfl OB ⟨go,0,none⟩ m co ((ordL m (p.drop 1) r).map (Value.int .i64)) rfl (by rw[List.length_map,ordL_len,Nat.mul_one]) OO.cellsOf (ints_one _) (by unfold maxLen;omega) (by omega) (by rw[heap_size];omega) ?_
             intro v' w8 hown' hgrow hblk
             have O8:Own w8 w2.heap.size v' (partL p r):=by
               rw[HPart.out];refine Own.base_le (base:=w6.heap.size) ?_ sz6;unfold Own;rw[List.length_cons,ordL_len,Nat.add_comm];exact hown'
             have Kw8:Keep w2 w8:=KW.grown hgrow (fun k hk=>by have:=OB.ge k hk;have:=sz6;omega)
             have nn:∃d,v'.ownBlock=some d:=by
               rcases hblk with e|e
               · exact⟨_,e⟩
               · exact⟨_,e⟩
             obtain⟨g5,c5,hv5⟩:∃g c,v' = .slice (some ⟨g,0,none⟩) (partL p r).length c:=by
               obtain⟨dd,hdd⟩:=nn;rcases O8.2 with ⟨e,_⟩|⟨g,cap,cur,e,_⟩
               · rw[e] at hdd;cases hdd
               · exact⟨g,cap,e⟩
             obtain⟨N8,hN8⟩:∃N,N=(partL p r).length:=⟨_,rfl⟩;have HN8:=Lib.hid hN8;rw[←hN8] at hv5;subst hv5;clear hN8 nn;have P8:Parts w8 G cc:=hPt.kept Kw8.grownBy (by simp);have d8:=P8.cell hj3;have f8:=P8.free j;have hg8:=P8.lt
             clear hown' hgrow hblk)
          | (go_simp;refine (CO _ _ r (RT _ KA) r0 r1).mono ?_;rintro e w6 ⟨go,co,rfl,OO,ko⟩;have OA:=OA0.keep ko;have KW:=KA.trans ko)
          | (go_simp;refine (CO _ _ r (RT _ KB) r0 r1).mono ?_;rintro e w6 ⟨go,co,rfl,OO1,ko⟩;have OB:=Own.one w6 z;have sz6:=(KB.trans ko).size;have d16:=((KB.trans ko).cell hbw).trans d1;have hz6:=((KB.trans ko).cell hbp).trans hz;have hbw6:b<w6.heap.size:=Nat.lt_of_lt_of_le hbw sz6;have hbp6:bp<w6.heap.size:=Nat.lt_of_lt_of_le hbp sz6;have OO:=OO1.keep ((Keep.refl w6).alloc (.cells #[.int .i64 z] 2));have KW:=(KB.trans ko).alloc (.cells #[.int .i64 z] 2))))
        all_goals
          have v8g:(Value.slice (some ⟨g5,0,none⟩) N8 c5).ownBlock≠some G:=fun e=>by have:=O8.ge G e;omega
          have K18:=hK.trans Kw8;have KS:Keep w1 (w8.setCell ⟨G,j,none⟩ (Value.slice (some ⟨g5,0,none⟩) N8 c5)):=K18.grown (grown_set w8 G j (Value.slice (some ⟨g5,0,none⟩) N8 c5)) (fun k hk=>by simp at hk;omega);have P9:=P8.set hj3 (Value.slice (some ⟨g5,0,none⟩) N8 c5)
          have HQ9:Hid (∀i,i<k+1→PartOk (w8.setCell ⟨G,j,none⟩ (Value.slice (some ⟨g5,0,none⟩) N8 c5)) G ((fun i=>if i=j then (Value.slice (some ⟨g5,0,none⟩) N8 c5) else cc i) (2-i)) (pK es n i)):=Lib.hid (fun i hi=>by
            by_cases ei:i=k
            · subst ei
              have:2-i=j:=by rw[HJ.out]
              simp only[this,if_true];rw[HPK.out];have Q:PartOk w8 G (Value.slice (some ⟨g5,0,none⟩) N8 c5) (partL p r):=⟨O8.rd,v8g,fun q hq=>(World.ownsRow.lt O8 q hq).2,⟨g5,c5,by rw[HN8.out]⟩⟩;exact Q.kept (grown_set w8 G j (Value.slice (some ⟨g5,0,none⟩) N8 c5)) v8g
            · have hne:¬(2-i=j):=by have:=HJ.out;omega
              simp only[hne,if_false];have Q:=(HQ.out i (by omega)).keep Kw8
              exact Q.kept (grown_set w8 G j (Value.slice (some ⟨g5,0,none⟩) N8 c5)) Q.ne)
          clear HQ P8 Kw8;go_wp2;go_roundw;case rel=>exact⟨k+1,fun i=>if i=j then (Value.slice (some ⟨g5,0,none⟩) N8 c5) else cc i,by omega,by rw[HN.out],by have:=HJ.out;congr 1;omega,P9,HQ9,KS⟩
          case measure=>simp[intOf]
    · obtain rfl:k=3:=by omega
      have Q0:PartOk wr G (cc 0) (pK es n 2):=HQ.out 2 (by omega);have Q1:PartOk wr G (cc 1) (pK es n 1):=HQ.out 1 (by omega);have Q2:PartOk wr G (cc 2) (pK es n 0):=HQ.out 0 (by omega);have HR:Hid (ratL es n=pK es n 2++pK es n 1++pK es n 0):=Lib.hid (ratL_pK es n);have b0:(pK es n 2).length≤9:=by unfold pK;rw[part_len (HP.out _ (by omega))];exact plcW_len9 hx _
      have b1:(pK es n 1).length≤9:=by unfold pK;rw[part_len (HP.out _ (by omega))];exact plcW_len9 hx _
      have b2:(pK es n 0).length≤9:=by unfold pK;rw[part_len (HP.out _ (by omega))];exact plcW_len9 hx _
      have d0:=hPt.cell (j:=0) (by omega);have d1:=hPt.cell (j:=1) (by omega);have d2:=hPt.cell (j:=2) (by omega);have hGw:=hPt.lt;clear HQ HC HP;generalize pK es n 2=L0 at Q0 HR b0;generalize pK es n 1=L1 at Q1 HR b1;generalize pK es n 0=L2 at Q2 HR b2;obtain⟨g0,c0,hc0⟩:=Q0.at';obtain⟨g1,c1,hc1⟩:=Q1.at';obtain⟨g2,c2,hc2⟩:=Q2.at';rw[hc0] at d0 Q0;rw[hc1] at d1 Q1;rw[hc2] at d2 Q2;have sK:=hK.size;have sk1:=k1.size;have KE:Keep wr (wr.alloc (.cells #[] 2)).drew:=((Keep.refl wr).alloc _).drew;have OE0:Own (wr.alloc (.cells #[] 2)) wr.heap.size (.slice (some ⟨wr.heap.size,0,none⟩) 0 0) []:=World.ownsRow_lit wr #[] 0 (Nat.le_refl _) (by decide) rfl;have OE:=OE0.keep (Keep.refl (wr.alloc (.cells #[] 2))).drew;clear OE0;clear hc0 hc1 hc2 hPt;go_wp2
      go_region_law ((first
        | (refine step_append_at rfl (.tmp 57) (.tmp 60) 50 rfl wr.heap.size 2 i0 (.int .i64 0) 1 8 Tryz.underlying50 hi hz0 hz1 hz2 rfl (by decide) vb (L0++L1).length ((L0++L1).map (Value.int .i64)) rfl OB ⟨g2,0,none⟩ L2.length c2 (L2.map (Value.int .i64)) rfl (by rw[List.length_map,Nat.mul_one]) (part_cells (Q2.keep Kb)) (ints_one _) (by rw[List.length_append];unfold maxLen;omega) (by rw[List.length_append];omega) Kb.size ?_;intro vd wd hown' hgrow hblk;have OD:Own wd wr.heap.size vd (L0++L1++L2):=(by unfold Own;rw[List.length_append,List.map_append];exact hown');have Kd:Keep wr wd:=Kb.grown hgrow OB.ge;clear hown' hgrow hblk)
        | (refine step_append_at rfl (.tmp 53) (.tmp 56) 50 rfl wr.heap.size 2 i0 (.int .i64 0) 1 8 Tryz.underlying50 hi hz0 hz1 hz2 rfl (by decide) va L0.length (L0.map (Value.int .i64)) rfl OA ⟨g1,0,none⟩ L1.length c1 (L1.map (Value.int .i64)) rfl (by rw[List.length_map,Nat.mul_one]) (part_cells (Q1.keep Ka)) (ints_one _) (by unfold maxLen;omega) (by omega) Ka.size ?_;intro vb wb hown' hgrow hblk;have OB:Own wb wr.heap.size vb (L0++L1):=(by unfold Own;rw[List.length_append,List.map_append];exact hown');have Kb:Keep wr wb:=Ka.grown hgrow OA.ge;have db2:=(Kb.cell hGw).trans d2;have hGb:G<wb.heap.size:=Nat.lt_of_lt_of_le hGw Kb.size;clear hown' hgrow hblk)
        | (refine step_append_at rfl (.tmp 49) (.tmp 52) 50 rfl wr.heap.size 2 i0 (.int .i64 0) 1 8 Tryz.underlying50 hi hz0 hz1 hz2 rfl (by decide) (.slice (some ⟨wr.heap.size,0,none⟩) 0 0) 0 [] rfl OE ⟨g0,0,none⟩ L0.length c0 (L0.map (Value.int .i64)) rfl (by rw[List.length_map,Nat.mul_one]) (part_cells (Q0.keep KE)) (ints_one _) (by unfold maxLen;omega) (by omega) KE.size ?_;intro va wa hown' hgrow hblk;have OA:Own wa wr.heap.size va L0:=(by unfold Own;simpa using hown');have Ka:Keep wr wa:=KE.grown hgrow OE.ge;have da1:=(Ka.cell hGw).trans d1;have da2:=(Ka.cell hGw).trans d2;have hGa:G<wa.heap.size:=Nat.lt_of_lt_of_le hGw Ka.size;clear hown' hgrow hblk)))
      all_goals
        go_wp2;go_ret;exact⟨_,rfl,by rw[HR.out];exact OD.base_le (by omega),(k1.trans hK).trans Kd⟩
theorem made_noughtsB (n:Nat):(madeCells (Value.int .i64 0).cells (n*1)).toList=((List.replicate n (0:Int)).map (Value.int .i64)):=by
 rw[Nat.mul_one,List.map_replicate];exact toList_madeCells_one _ _
theorem l7Behind_any (w:World)(v:Value)(es:List Ev)(h:RdE w v es)(hn:es.length≤12):
  Calls Tryz.prog 95 #[v] w fun e w'=>∃v',e = .returned v'∧Row w' w.heap.size v' (behL es)∧Keep w w':=by
 obtain⟨a,c,rfl,h⟩:=h;obtain⟨i0,hi,hz0,hz1,hz2⟩:=info_parts Tryz.infoI;go_enter Tryz.func95,Tryz.ntmps95
 go_wp2_with (at_make;refine wpList_make_full _ rfl _ _ 50 rfl w.heap.size 2 i0 (.int .i64 0) 1 Tryz.underlying50 hi hz0 hz1 .i64 .i64 _ _ es.length rfl rfl rfl rfl (by rw[hz2];omega) (by unfold maxLen;omega) (Nat.le_refl _) ?_;intro w1 hown hgrow)
 rw[made_noughtsB] at hown;have k1:Keep w w1:=(Keep.refl w).grown hgrow (by simp)
 have rb:RowAt w1 w.heap.size (addAll (behP es) es.length 0):=by
  have o:Own w1 w.heap.size (.slice (some ⟨w.heap.size,0,none⟩) es.length es.length) (List.replicate es.length 0):=by
   unfold Own;simpa using hown
  rcases o.row with ⟨e,_⟩|⟨g,cap,e,_,hr⟩
  · cases e
  ·
   have e1:=congrArg Value.ownBlock e;simp[Value.ownBlock] at e1;rw[e1];exact hr
 clear hgrow hown hi hz0 hz1 hz2;go_loopw [4] (fun i wr=>∃k:Nat,k≤es.length∧i = .int .i64 k∧RowAt wr w.heap.size (addAll (behP es) es.length k)∧Keep w wr) (fun i _=>es.length-(intOf i).toNat)
 case atStart=>exact⟨0,Nat.zero_le _,rfl,rb,k1⟩
 case round=>
  obtain⟨k,hk,rfl,hr,hK⟩:=hrel;clear rb k1;by_cases hlt:k<es.length
  ·
   rcases h with h|⟨b,off,rfl,hb,hc⟩
   · exfalso;rw[h] at hlt;simp at hlt
   have AT:=hc k _ (evs_get hlt);have HW:=Lib.hid (web_addAll (p:=behP es) hn k (by omega)).1;have HE:Hid (addIn (behP es) k (addAll (behP es) es.length k) es.length=addAll (behP es) es.length (k+1)):=Lib.hid rfl;generalize addAll (behP es) es.length k=T at *;obtain⟨wo,rfl⟩:∃wo:World,wo=wr:=⟨_,rfl⟩;have i1:(0:Int)≤(k:Int):=Int.natCast_nonneg _;have i2:(k:Int)<(es.length:Int):=by omega
   have HST:Hid (addIn (behP es) k T (k+1)=T):=Lib.hid (addIn_none T _ (fun j hj=>behP_up (by omega)));go_wp2;go_loopw [5] (fun i wr=>∃m:Nat,k+1≤m∧m≤es.length∧i = .int .i64 m∧RowAt wr w.heap.size (addIn (behP es) k T m)∧Keep w wr) (fun i _=>es.length-(intOf i).toNat)
   case atStart=>exact⟨k+1,Nat.le_refl _,by omega,by go_num,by rw[HST.out];exact hr,hK⟩
   case round=>
    clear hr hK HST;obtain⟨m,hkm,hm,rfl,hr,hK⟩:=hrel;by_cases hml:m<es.length
    ·
     have AK:=AT.keep hb hK;have AM:=(hc m _ (evs_get hml)).keep hb hK;have hbw:b<wr.heap.size:=Nat.lt_of_lt_of_le hb hK.size;have hB:=(web_addIn (p:=behP es) hlt HW.out m hm).1;have hrg:=okB_range (hB.2.2 k hlt);have hBl:k<(addIn (behP es) k T m).length:=by rw[hB.2.1];exact hlt
     clear hB AT hc;have HP:Hid (behP es k m=(decide (k<m)&&((decide (k<3)&&decide (3≤m))||(decide (3≤k)&&((es.getD k zE).1==(es.getD m zE).1))))):=Lib.hid rfl;obtain⟨e,he⟩:∃e,e=es.getD k zE:=⟨_,rfl⟩;rw[←he] at AK HP;clear he;obtain⟨d,hd⟩:∃d,d=es.getD m zE:=⟨_,rfl⟩;rw[←hd] at AM HP;clear hd;obtain⟨x0,x1,x2,x3,x4,x5⟩:=e;obtain⟨y0,y1,y2,y3,y4,y5⟩:=d;obtain⟨A0,-,-,-,-,-⟩:=atE AK;obtain⟨B0,-,-,-,-,-⟩:=atE AM;clear AK AM;have j1:(0:Int)≤(m:Int):=Int.natCast_nonneg _;have j2:(m:Int)<(es.length:Int):=by omega
     have j3:(es.length:Int)≤12:=by omega
     have HH:behP es k m=true→Hid (addIn (behP es) k T (m+1)=(addIn (behP es) k T m).set k (bits .or .i64 ((addIn (behP es) k T m).getD k 0) (wrap64 (2 ^ (m:Int).toNat)))):=fun hp=>Lib.hid (by
      rw[addIn_hit T hp,gAdd_ok _ _ hrg.1 (by unfold inB;simp;omega)])
     have HM:behP es k m=false→Hid (addIn (behP es) k T (m+1)=addIn (behP es) k T m):=fun hp=>Lib.hid (addIn_miss T hp)
     have d1:=hr.cell (j:=k) hBl;have d2:=hr.free k;obtain⟨S,hS⟩:∃S,S=addIn (behP es) k T m:=⟨_,rfl⟩;rw[←hS] at d1 hr HH HM hrg;clear hS hBl;obtain⟨x,hx⟩:∃x,x=S.getD k 0:=⟨_,rfl⟩;rw[←hx] at d1 HH hrg;clear hx;by_cases k3:k<3
     ·
      have k4:(k:Int)<3:=by omega
      have k5:decide ((3:Int)≤(k:Int))=false:=decide_eq_false (by omega);by_cases m3:m<3
      ·
       have m4:decide ((3:Int)≤(m:Int))=false:=decide_eq_false (by omega);have HE1:=HM (by rw[HP.out];simp;omega);clear HH HM HP d1 d2;go_wp2;go_quiet (fail)
       go_wp2;go_roundw;case rel=>exact⟨m+1,by omega,by omega,by go_num,by rw[HE1.out];exact hr.drewN _,hK.grown (grown_draw wr _ none) (by simp)⟩
       case measure=>simp[intOf];omega
      ·
       have m4:(3:Int)≤(m:Int):=by omega
       have HE1:=HH (by rw[HP.out];simp;omega);clear HH HM HP;go_wp2;go_quiet (fail)
       go_wp2;go_roundw;case rel=>exact⟨m+1,by omega,by omega,by go_num,by rw[HE1.out];exact (hr.drewN _).set k _,(hK.grown (grown_draw wr _ none) (by simp)).grown (grown_set _ w.heap.size k _) (by simp)⟩
       case measure=>simp[intOf];omega
     ·
      have k4:(3:Int)≤(k:Int):=by omega
      have k5:decide ((k:Int)<3)=false:=decide_eq_false (by omega);by_cases xy:x0=y0
      ·
       subst xy;have HE1:=HH (by rw[HP.out];simp;omega);clear HH HM HP;go_wp2;go_quiet (fail)
       go_wp2;go_roundw;case rel=>exact⟨m+1,by omega,by omega,by go_num,by rw[HE1.out];exact (hr.drewN _).set k _,(hK.grown (grown_draw wr _ none) (by simp)).grown (grown_set _ w.heap.size k _) (by simp)⟩
       case measure=>simp[intOf];omega
      ·
       have xb:(x0==y0)=false:=by simp[xy]
       have HE1:=HM (by rw[HP.out];simp[xb];omega);clear HH HM HP d1 d2;go_wp2;go_quiet (fail)
       go_wp2;go_roundw;case rel=>exact⟨m+1,by omega,by omega,by go_num,by rw[HE1.out];exact hr.drewN _,hK.grown (grown_draw wr _ none) (by simp)⟩
       case measure=>simp[intOf];omega
    ·
     obtain rfl:m=es.length:=by omega
     go_wp2;go_roundw;case rel=>exact⟨k+1,by omega,by go_num,by rw[←HE.out];exact hr,hK⟩
     case measure=>simp[intOf];omega
  ·
   obtain rfl:k=es.length:=by omega
   have HL:=(web_addAll (p:=behP es) hn es.length (Nat.le_refl _)).1.2.1;go_wp2;go_ret;exact⟨_,rfl,row_new hr (Nat.le_refl _) HL,hK⟩
abbrev eV (i q:Int)(r:Bool)(pl vl c:Int):Value:= .agg #[.int .i64 i,.int .i64 q,.bool r,.int .i64 pl,.int .i64 vl,.int .i64 c]
theorem l7Whole_any (w:World)(v:Value)(dss:List (List Dd))(h:RdW w v dss)(i k:Nat)(r:Bool)(pl vl cl:Int)(hi:i<dss.length)(hk:k<(dss.getD i []).length):
  Calls Tryz.prog 174 #[v,eV i k r pl vl cl] w fun e w'=>e = .returned (.bool (wholeD ((dss.getD i []).getD k zD)))∧Keep w w':=by
 obtain⟨a,c,rfl,h⟩:=h;rcases h with h|⟨b,o,rfl,hb,hc⟩
 · exfalso;rw[h] at hi;simp at hi
 obtain⟨u,e1,r1⟩:=hc i hi;clear hc;obtain⟨ds,hds⟩:∃ds,ds=dss.getD i []:=⟨_,rfl⟩;rw[←hds] at r1 hk ⊢;clear hds;obtain⟨ai,ci,rfl,r1⟩:=r1;rcases r1 with h|⟨b2,o2,rfl,hb2,hc2⟩
 · exfalso;rw[h] at hk;simp at hk
 have AT:=hc2 k hk;clear hc2;obtain⟨d,hd⟩:∃d,d=ds.getD k zD:=⟨_,rfl⟩;rw[←hd] at AT ⊢;clear hd;obtain⟨x0,x1,x2,x3⟩:=d;obtain⟨A0,A1,A2,A3⟩:=AT;simp only at A0 A1 A2 A3;have i1:(0:Int)≤(i:Int):=Int.natCast_nonneg _;have i2:(i:Int)<(dss.length:Int):=by omega
 have j1:(0:Int)≤(k:Int):=Int.natCast_nonneg _;have j2:(k:Int)<(ds.length:Int):=by omega
 by_cases x3e:x0=3
 ·
  subst x3e;go_enter Tryz.func174,Tryz.ntmps174
  go_wp2;go_region
  go_wp2;go_ret;exact⟨by simp[wholeD],by first|exact (((Keep.refl w).alloc _).drew).alloc _|exact ((((Keep.refl w).alloc _)).alloc _).drew⟩
 ·
  have xb:(x0==3)=false:=by simp[x3e]
  have HE:Hid (wholeD (x0,x1,x2,x3)=decide (0<x3)):=Lib.hid (by simp[wholeD,x3e]);clear x3e;go_enter Tryz.func174,Tryz.ntmps174
  go_wp2;go_region
  go_wp2;go_ret;exact⟨by rw[HE.out];rfl,by first|exact (((Keep.refl w).alloc _).drew).alloc _|exact ((((Keep.refl w).alloc _)).alloc _).drew⟩
theorem l7Waits_any (w:World)(v:Value)(dss:List (List Dd))(h:RdW w v dss)(i p q:Nat)(r:Bool)(pl vl cl i':Int)(r':Bool)(pl' vl' cl':Int)(hi:i<dss.length)(hp:p<(dss.getD i []).length)(hq:q<(dss.getD i []).length)(hl:(dss.getD i []).length≤1048576):
  Calls Tryz.prog 173 #[v,eV i p r pl vl cl,eV i' q r' pl' vl' cl'] w fun e w'=>e = .returned (.bool (waitsD (dss.getD i []) p q))∧Keep w w':=by
 obtain⟨a,c,rfl,h⟩:=h;rcases h with h|⟨b,o,rfl,hb,hc⟩
 · exfalso;rw[h] at hi;simp at hi
 obtain⟨u,e1,r1⟩:=hc i hi;clear hc;obtain⟨ds,hds⟩:∃ds,ds=dss.getD i []:=⟨_,rfl⟩;rw[←hds] at r1 hp hq hl ⊢;clear hds;obtain⟨ai,ci,rfl,r1⟩:=r1;rcases r1 with h|⟨b2,o2,rfl,hb2,hc2⟩
 · exfalso;rw[h] at hp;simp at hp
 have i1:(0:Int)≤(i:Int):=Int.natCast_nonneg _;have i2:(i:Int)<(dss.length:Int):=by omega
 go_enter Tryz.func173,Tryz.ntmps173
 go_wp2;go_loopw [7] (fun s wr=>∃k:Nat,p<k∧k≤ds.length∧s = .int .i64 k∧Hid (∀j,p<j→j<k→(ds.getD j zD).1≠4)∧wr=(w.alloc (.cells #[.int .i64 i,.int .i64 p,.bool r,.int .i64 pl,.int .i64 vl,.int .i64 cl] 85)).alloc (.cells #[.int .i64 i',.int .i64 q,.bool r',.int .i64 pl',.int .i64 vl',.int .i64 cl'] 85)) (fun s _=>ds.length-(intOf s).toNat)
 case atStart=>exact⟨p+1,by omega,by omega,by go_num,Lib.hid (fun j h1 h2=>by omega),rfl⟩
 case round=>
  obtain⟨k,hpk,hk,rfl,HN,rfl⟩:=hrel;by_cases hlt:k<q
  ·
   have AT:=hc2 k (by omega);clear hc2;have HY:=@waitsD_yes ds p q k hpk hlt
   have HX:(ds.getD k zD).1≠4→Hid (∀j,p<j→j<k+1→(ds.getD j zD).1≠4):=fun h4=>Lib.hid (fun j h1 h2=>by
    by_cases e:j=k
    · subst e;exact h4
    · exact HN.out j h1 (by omega))
   obtain⟨d,hd⟩:∃d,d=ds.getD k zD:=⟨_,rfl⟩;rw[←hd] at AT HY HX;clear hd HN;obtain⟨x0,x1,x2,x3⟩:=d;obtain⟨A0,-,-,-⟩:=AT;simp only at A0 HY HX;have j0:(k:Int)<(q:Int):=by omega
   have j1:(0:Int)≤(k:Int):=Int.natCast_nonneg _;have j2:(k:Int)<(ds.length:Int):=by omega
   by_cases x4:x0=4
   ·
    have HE:=Lib.hid (HY x4);subst x4;clear HX HY;go_wp2;go_ret;exact⟨by rw[HE.out];rfl,((Keep.refl w).alloc _).alloc _⟩
   ·
    have HE:=HX x4;have xb:(x0==4)=false:=by simp[x4]
    clear HX HY x4;go_wp2;go_roundw;case rel=>exact⟨k+1,by omega,by omega,by go_num,HE,trivial⟩
    case measure=>simp[intOf];omega
  ·
   have HE:Hid (waitsD ds p q=false):=Lib.hid (waitsD_no (fun j h1 h2=>HN.out j h1 (by omega)));clear HN;have j0:(q:Int)≤(k:Int):=by omega
   go_wp2;go_ret;exact⟨by rw[HE.out];rfl,((Keep.refl w).alloc _).alloc _⟩
theorem l1Has_any (s i:Int)(w:World)(h1:0≤i)(h2:i≤11):
  Calls Tryz.prog 172 #[.int .i64 s,.int .i64 i] w fun e w'=>e = .returned (.bool (bitB s i))∧w'=w:=by
 go_enter Tryz.func172,Tryz.ntmps172
 go_wp2;go_ret;exact⟨rfl,rfl⟩
theorem l7Kept_any (w:World)(vd v:Value)(dss:List (List Dd))(es:List Ev)(hd:RdW w vd dss)(h:RdE w v es)(h3:3≤es.length)(hn:es.length≤12)(hl:∀i,i<dss.length→(dss.getD i []).length≤1048576)
  (hin:∀j,3≤j→j<es.length→∃i k:Nat,(es.getD j zE).1=(i:Int)∧(es.getD j zE).2.1=(k:Int)∧i<dss.length∧k<(dss.getD i []).length):
  Calls Tryz.prog 94 #[vd,v] w fun e w'=>∃v',e = .returned v'∧Row w' w.heap.size v' (kepL dss es)∧Keep w w':=by
 have HB:=(beh_line hn).1;have r:=h;obtain⟨a,c,rfl,h⟩:=h;go_enter Tryz.func94,Tryz.ntmps94
 go_wp2_with fail
 refine (l7Behind_any _ _ _ r hn).mono ?_;rintro e w1 ⟨v1,rfl,o1,k1⟩;clear r
 obtain⟨G,cap,rfl,hG,hR⟩:∃g cap,v1 = .slice (some ⟨g,0,none⟩) es.length cap∧w.heap.size≤g∧RowAt w1 g (behL es):=by
  rcases o1 with ⟨_,e⟩|⟨g,cap,e,hg,hr⟩
  ·
   have h0:es.length=0:=by rw[←HB.2.1,e];rfl
   omega
  · exact⟨g,cap,by rw[e,HB.2.1],hg,hr⟩
 clear o1;have HW0:=Lib.hid HB;clear HB;go_wp2;go_loopw [6] (fun i wr=>∃k:Nat,3≤k∧k≤es.length∧i = .int .i64 k∧RowAt wr G (offAll (kepP dss es) es.length (behL es) k)∧Keep w wr) (fun i _=>es.length-(intOf i).toNat)
 case atStart=>exact⟨3,Nat.le_refl _,h3,rfl,by rw[kep_three 3 (Nat.le_refl _)];exact hR,k1⟩
 case round=>
  obtain⟨k,hk3,hk,rfl,hr,hK⟩:=hrel;clear hR k1;by_cases hlt:k<es.length
  ·
   rcases h with h|⟨b,off,rfl,hb,hc⟩
   · exfalso;rw[h] at hlt;simp at hlt
   have AT:=hc k _ (evs_get hlt);have HW:=Lib.hid (web_offAll (p:=kepP dss es) HW0.out k (by omega)).1;have HE:Hid (offIn (kepP dss es) k (offAll (kepP dss es) es.length (behL es) k) es.length=offAll (kepP dss es) es.length (behL es) (k+1)):=Lib.hid rfl;have HHas:=fun m hm=>kep_has (dss:=dss) hn (k:=k) (m:=m) hlt hm
   generalize offAll (kepP dss es) es.length (behL es) k=T at *;obtain⟨wo,rfl⟩:∃wo:World,wo=wr:=⟨_,rfl⟩;have i1:(0:Int)≤(k:Int):=Int.natCast_nonneg _;have i2:(k:Int)<(es.length:Int):=by omega
   have HST:Hid (offIn (kepP dss es) k T (k+1)=T):=Lib.hid (offIn_none T _ (fun j hj=>kepP_up (by omega)));go_wp2;go_loopw [7] (fun i wr=>∃m:Nat,k+1≤m∧m≤es.length∧i = .int .i64 m∧RowAt wr G (offIn (kepP dss es) k T m)∧Keep w wr) (fun i _=>es.length-(intOf i).toNat)
   case atStart=>exact⟨k+1,Nat.le_refl _,by omega,by go_num,by rw[HST.out];exact hr,hK⟩
   case round=>
    clear hr hK HST;obtain⟨m,hkm,hm,rfl,hr,hK⟩:=hrel;by_cases hml:m<es.length
    ·
     have AK:=AT.keep hb hK;have AM:=(hc m _ (evs_get hml)).keep hb hK;have hbw:b<wr.heap.size:=Nat.lt_of_lt_of_le hb hK.size;have hB:=(web_offIn (p:=kepP dss es) hlt HW.out m hm).1;have hBl:k<(offIn (kepP dss es) k T m).length:=by rw[hB.2.1];exact hlt
     have hbt:bitB ((offIn (kepP dss es) k T m).getD k 0) m=behP es k m:=by
      rw[←inSetB_bit (okB_range (hB.2.2 k hlt)) (by omega)];exact HHas m hml
     obtain⟨ci,di,E0,E1,cI,dI⟩:=hin k hk3 hlt;obtain⟨ck,dk,F0,F1,cK,dK⟩:=hin m (by omega) hml
     have hcl:behP es k m=true→ci=ck:=fun hp=>by
      unfold behP at hp;rw[E0,F0] at hp;simp at hp;omega
     clear hB AT hc HHas hin;have HP:Hid (kepP dss es k m=(decide (3≤k)&&behP es k m&&kepQ dss (es.getD k zE) (es.getD m zE))):=Lib.hid rfl;obtain⟨e,he⟩:∃e,e=es.getD k zE:=⟨_,rfl⟩;rw[←he] at AK HP E0 E1;obtain⟨d,hd2⟩:∃d,d=es.getD m zE:=⟨_,rfl⟩;rw[←hd2] at AM HP F0 F1;obtain⟨x0,x1,x2,x3,x4,x5⟩:=e;obtain⟨y0,y1,y2,y3,y4,y5⟩:=d;simp only at E0 E1 F0 F1;subst E0 E1 F0 F1;have HP2:=Lib.hid (And.intro he hd2);clear he hd2;obtain⟨A0,A1,A2,A3,A4,A5⟩:=atE AK;obtain⟨B0,B1,B2,B3,B4,B5⟩:=atE AM;clear AK AM;have j1:(0:Int)≤(m:Int):=Int.natCast_nonneg _;have j2:(m:Int)<(es.length:Int):=by omega
     have j3:(es.length:Int)≤12:=by omega
     have HH:kepP dss es k m=true→Hid (offIn (kepP dss es) k T (m+1)=(offIn (kepP dss es) k T m).set k (bits .andNot .i64 ((offIn (kepP dss es) k T m).getD k 0) (wrap64 (2 ^ (m:Int).toNat)))):=fun hp=>Lib.hid (offIn_hit T hp)
     have HM:kepP dss es k m=false→Hid (offIn (kepP dss es) k T (m+1)=offIn (kepP dss es) k T m):=fun hp=>Lib.hid (offIn_miss T hp)
     have d1:=hr.cell (j:=k) hBl;have d2:=hr.free k;have hGl:=hr.lt;obtain⟨S,hS⟩:∃S,S=offIn (kepP dss es) k T m:=⟨_,rfl⟩;rw[←hS] at d1 hr HH HM hbt hBl;clear hS;obtain⟨x,hx⟩:∃x,x=S.getD k 0:=⟨_,rfl⟩;rw[←hx] at d1 HH hbt;have HX:=Lib.hid hx;clear hx;cases hbp:behP es k m
     ·
      have HE1:=HM (by rw[kepP,hbp];simp);rw[hbp] at hbt;clear HH HM HP HP2 d2 hcl;go_wp2;go_quiet ((go_at_call 172;exact Calls.quiet_of_same (l1Has_any _ _ _ (by omega) (by omega))))
      go_wp2;go_roundw;case rel=>exact⟨m+1,by omega,by omega,by go_num,by rw[HE1.out];exact hr.drewN _,hK.grown (grown_draw wr _ none) (by simp)⟩
      case measure=>simp[intOf];omega
     rw[hbp] at hbt;cases x2;rotate_left
     ·
      have HE1:=HM (by rw[HP.out,kepQ];simp[rdE]);clear HH HM HP HP2 d2 hcl;go_wp2;go_quiet ((go_at_call 172;exact Calls.quiet_of_same (l1Has_any _ _ _ (by omega) (by omega))))
      go_wp2;go_roundw;case rel=>exact⟨m+1,by omega,by omega,by go_num,by rw[HE1.out];exact hr.drewN _,hK.grown (grown_draw wr _ none) (by simp)⟩
      case measure=>simp[intOf];omega
     cases y2
     ·
      have HE1:=HM (by rw[HP.out,kepQ];simp[rdE]);clear HH HM HP HP2 d2 hcl;go_wp2;go_quiet ((go_at_call 172;exact Calls.quiet_of_same (l1Has_any _ _ _ (by omega) (by omega))))
      go_wp2;go_roundw;case rel=>exact⟨m+1,by omega,by omega,by go_num,by rw[HE1.out];exact hr.drewN _,hK.grown (grown_draw wr _ none) (by simp)⟩
      case measure=>simp[intOf];omega
     by_cases cc:x5=y5
     ·
      subst cc;have HE1:=HM (by rw[HP.out,kepQ];simp[csE]);clear HH HM HP HP2 d2 hcl;go_wp2;go_quiet ((go_at_call 172;exact Calls.quiet_of_same (l1Has_any _ _ _ (by omega) (by omega))))
      go_wp2;go_roundw;case rel=>exact⟨m+1,by omega,by omega,by go_num,by rw[HE1.out];exact hr.drewN _,hK.grown (grown_draw wr _ none) (by simp)⟩
      case measure=>simp[intOf];omega
     have cb:(x5==y5)=false:=by simp[cc]
     have xy:=hcl hbp;subst xy
     have HQ:Hid (kepP dss es k m=(!waitsD (dss.getD ci []) di dk&&!wholeD ((dss.getD ci []).getD di zD)&&!wholeD ((dss.getD ci []).getD dk zD))):=Lib.hid (by
      rw[kepP,hbp,←HP2.out.1,←HP2.out.2,kepQ];have h3':decide (3≤k)=true:=decide_eq_true hk3;have cn:(x5 != y5)=true:=by simp[cc]
      show (decide (3≤k)&&true&&(!false&&true&&(x5 != y5)&&(!waitsD (dss.getD ci []) di dk&&!wholeD ((dss.getD ci []).getD di zD)&&!wholeD ((dss.getD ci []).getD dk zD))))=_;rw[h3',cn]
      simp)
     clear HP2 cc hcl cK;have KW:=fun (wz:World) (kz:Keep wr wz)=>l7Waits_any wz vd dss (hd.keep (hK.trans kz)) ci di dk false x3 x4 x5 ci true y3 y4 y5 cI dI dK (hl ci cI)
     have KI:=fun (wz:World) (kz:Keep wr wz)=>l7Whole_any wz vd dss (hd.keep (hK.trans kz)) ci di false x3 x4 x5 cI dI
     have KK2:=fun (wz:World) (kz:Keep wr wz)=>l7Whole_any wz vd dss (hd.keep (hK.trans kz)) ci dk true y3 y4 y5 cI dK
     cases hw:waitsD (dss.getD ci []) di dk;rotate_left
     ·
      have HE1:=HM (by rw[HQ.out,hw];simp);rw[hw] at KW;clear HQ KI KK2;clear HH HM HP d2;go_wp2;go_quiet ((go_at_call 172;exact Calls.quiet_of_same (l1Has_any _ _ _ (by omega) (by omega))))
      go_wp2;have KR:Keep wr ((wr.drewN nq).drew):=((Keep.refl wr).grown (grown_draw wr nq none) (by simp)).drew;have z1:b<((wr.drewN nq).drew).heap.size:=hbw;refine wp_region_held_drew (S:=(fun w'=>w'.cell? ⟨b,off+k*6,none⟩=some (.int .i64 ci)∧w'.cell? ⟨b,off+k*6+1,none⟩=some (.int .i64 di)∧w'.cell? ⟨b,off+k*6+2,none⟩=some (.bool false)∧w'.cell? ⟨b,off+k*6+3,none⟩=some (.int .i64 x3)∧w'.cell? ⟨b,off+k*6+4,none⟩=some (.int .i64 x4)∧w'.cell? ⟨b,off+k*6+5,none⟩=some (.int .i64 x5)∧w'.cell? ⟨b,off+m*6,none⟩=some (.int .i64 ci)∧w'.cell? ⟨b,off+m*6+1,none⟩=some (.int .i64 dk)∧w'.cell? ⟨b,off+m*6+2,none⟩=some (.bool true)∧w'.cell? ⟨b,off+m*6+3,none⟩=some (.int .i64 y3)∧w'.cell? ⟨b,off+m*6+4,none⟩=some (.int .i64 y4)∧w'.cell? ⟨b,off+m*6+5,none⟩=some (.int .i64 y5))) (by kernel_rfl) ?_ (fun hHeld=>?_)
      · go_keep
      refine takeQ 0 59 (v:=?_) ?_ ?_;rotate_left
      ·
       intro wx hSw;go_simp;with_reducible rfl
      simp only[Act.put,List.setIfInBounds_toArray,List.set_cons_zero,List.set_cons_succ];refine takeQ 1 60 (v:=?_) ?_ ?_;rotate_left
      ·
       intro wx hSw;go_simp;with_reducible rfl
      simp only[Act.put,List.setIfInBounds_toArray,List.set_cons_zero,List.set_cons_succ];refine takeQ 2 61 (v:=?_) ?_ ?_;rotate_left
      ·
       intro wx hSw;go_simp;with_reducible rfl
      simp only[Act.put,List.setIfInBounds_toArray,List.set_cons_zero,List.set_cons_succ];refine takeQ 3 62 (v:=?_) ?_ ?_;rotate_left
      ·
       intro wx hSw;go_simp;with_reducible rfl
      simp only[Act.put,List.setIfInBounds_toArray,List.set_cons_zero,List.set_cons_succ];refine takeQ 4 63 (v:=?_) ?_ ?_;rotate_left
      ·
       intro wx hSw;go_simp;with_reducible rfl
      simp only[Act.put,List.setIfInBounds_toArray,List.set_cons_zero,List.set_cons_succ];refine takeQ 5 64 (v:=?_) ?_ ?_;rotate_left
      ·
       intro wx hSw;go_simp;with_reducible rfl
      simp only[Act.put,List.setIfInBounds_toArray,List.set_cons_zero,List.set_cons_succ];refine takeQ 6 65 (v:=?_) ?_ ?_;rotate_left
      ·
       intro wx hSw;go_simp;with_reducible rfl
      simp only[Act.put,List.setIfInBounds_toArray,List.set_cons_zero,List.set_cons_succ];refine takeQ 7 66 (v:=?_) ?_ ?_;rotate_left
      ·
       intro wx hSw;go_simp;with_reducible rfl
      simp only[Act.put,List.setIfInBounds_toArray,List.set_cons_zero,List.set_cons_succ];refine takeQ 8 67 (v:=?_) ?_ ?_;rotate_left
      ·
       intro wx hSw;go_simp;with_reducible rfl
      simp only[Act.put,List.setIfInBounds_toArray,List.set_cons_zero,List.set_cons_succ];refine wpAnyH_ready (rs:=[9]) (by kernel_rfl) (by simp) ?_;refine AllReadyH.cons rfl (fun K hK=>?_) AllReadyH.nil;go_simp;refine (KW _ KR).mono ?_;rintro e wz1 ⟨rfl,kk⟩;have z0:=z1;have KR:=KR.trans kk;have z1:=Nat.lt_of_lt_of_le z1 kk.size;go_wp2_with fail
      refine hK.out _ _ ?_ (fun hHeld=>?_)
      · exact⟨(kk.cell z0).trans hHeld.1,(kk.cell z0).trans hHeld.2.1,(kk.cell z0).trans hHeld.2.2.1,(kk.cell z0).trans hHeld.2.2.2.1,(kk.cell z0).trans hHeld.2.2.2.2.1,(kk.cell z0).trans hHeld.2.2.2.2.2.1,(kk.cell z0).trans hHeld.2.2.2.2.2.2.1,(kk.cell z0).trans hHeld.2.2.2.2.2.2.2.1,(kk.cell z0).trans hHeld.2.2.2.2.2.2.2.2.1,(kk.cell z0).trans hHeld.2.2.2.2.2.2.2.2.2.1,(kk.cell z0).trans hHeld.2.2.2.2.2.2.2.2.2.2.1,(kk.cell z0).trans hHeld.2.2.2.2.2.2.2.2.2.2.2⟩
      clear hK K;refine takeQ 10 69 (v:=?_) ?_ ?_;rotate_left
      ·
       intro wx hSw;go_simp;with_reducible rfl
      simp only[Act.put,List.setIfInBounds_toArray,List.set_cons_zero,List.set_cons_succ];refine takeQ 11 70 (v:=?_) ?_ ?_;rotate_left
      ·
       intro wx hSw;go_simp;with_reducible rfl
      simp only[Act.put,List.setIfInBounds_toArray,List.set_cons_zero,List.set_cons_succ];refine skipH 12 71 rfl rfl (by kernel_rfl) (by kernel_rfl) (by kernel_rfl) (fun _ _ _ h=>h) (by rfl) (by assumption) ?_;simp only[Act.put,List.setIfInBounds_toArray,List.set_cons_zero,List.set_cons_succ];refine skipH 13 72 rfl rfl (by kernel_rfl) (by kernel_rfl) (by kernel_rfl) (fun _ _ _ h=>h) (by rfl) (by assumption) ?_;simp only[Act.put,List.setIfInBounds_toArray,List.set_cons_zero,List.set_cons_succ];refine skipH 14 73 rfl rfl (by kernel_rfl) (by kernel_rfl) (by kernel_rfl) (fun _ _ _ h=>h) (by rfl) (by assumption) ?_;simp only[Act.put,List.setIfInBounds_toArray,List.set_cons_zero,List.set_cons_succ];refine skipH 15 74 rfl rfl (by kernel_rfl) (by kernel_rfl) (by kernel_rfl) (fun _ _ _ h=>h) (by rfl) (by assumption) ?_;simp only[Act.put,List.setIfInBounds_toArray,List.set_cons_zero,List.set_cons_succ];refine skipH 16 75 rfl rfl (by kernel_rfl) (by kernel_rfl) (by kernel_rfl) (fun _ _ _ h=>h) (by rfl) (by assumption) ?_;simp only[Act.put,List.setIfInBounds_toArray,List.set_cons_zero,List.set_cons_succ];refine skipH 17 76 rfl rfl (by kernel_rfl) (by kernel_rfl) (by kernel_rfl) (fun _ _ _ h=>h) (by rfl) (by assumption) ?_;simp only[Act.put,List.setIfInBounds_toArray,List.set_cons_zero,List.set_cons_succ];refine skipH 18 77 rfl rfl (by kernel_rfl) (by kernel_rfl) (by kernel_rfl) (fun _ _ _ h=>h) (by rfl) (by assumption) ?_;simp only[Act.put,List.setIfInBounds_toArray,List.set_cons_zero,List.set_cons_succ];refine takeQ 19 78 (v:=?_) ?_ ?_;rotate_left
      ·
       intro wx hSw;go_simp;with_reducible rfl
      simp only[Act.put,List.setIfInBounds_toArray,List.set_cons_zero,List.set_cons_succ];refine takeQ 20 79 (v:=?_) ?_ ?_;rotate_left
      ·
       intro wx hSw;go_simp;with_reducible rfl
      simp only[Act.put,List.setIfInBounds_toArray,List.set_cons_zero,List.set_cons_succ];refine skipH 21 80 rfl rfl (by kernel_rfl) (by kernel_rfl) (by kernel_rfl) (fun _ _ _ h=>h) (by rfl) (by assumption) ?_;simp only[Act.put,List.setIfInBounds_toArray,List.set_cons_zero,List.set_cons_succ];refine skipH 22 81 rfl rfl (by kernel_rfl) (by kernel_rfl) (by kernel_rfl) (fun _ _ _ h=>h) (by rfl) (by assumption) ?_;simp only[Act.put,List.setIfInBounds_toArray,List.set_cons_zero,List.set_cons_succ];refine skipH 23 82 rfl rfl (by kernel_rfl) (by kernel_rfl) (by kernel_rfl) (fun _ _ _ h=>h) (by rfl) (by assumption) ?_;simp only[Act.put,List.setIfInBounds_toArray,List.set_cons_zero,List.set_cons_succ];refine skipH 24 83 rfl rfl (by kernel_rfl) (by kernel_rfl) (by kernel_rfl) (fun _ _ _ h=>h) (by rfl) (by assumption) ?_;simp only[Act.put,List.setIfInBounds_toArray,List.set_cons_zero,List.set_cons_succ];refine skipH 25 84 rfl rfl (by kernel_rfl) (by kernel_rfl) (by kernel_rfl) (fun _ _ _ h=>h) (by rfl) (by assumption) ?_;simp only[Act.put,List.setIfInBounds_toArray,List.set_cons_zero,List.set_cons_succ];refine skipH 26 85 rfl rfl (by kernel_rfl) (by kernel_rfl) (by kernel_rfl) (fun _ _ _ h=>h) (by rfl) (by assumption) ?_;simp only[Act.put,List.setIfInBounds_toArray,List.set_cons_zero,List.set_cons_succ];refine skipH 27 86 rfl rfl (by kernel_rfl) (by kernel_rfl) (by kernel_rfl) (fun _ _ _ h=>h) (by rfl) (by assumption) ?_;simp only[Act.put,List.setIfInBounds_toArray,List.set_cons_zero,List.set_cons_succ];refine takeQ 28 87 (v:=?_) ?_ ?_;rotate_left
      ·
       intro wx hSw;go_simp;with_reducible rfl
      simp only[Act.put,List.setIfInBounds_toArray,List.set_cons_zero,List.set_cons_succ];refine wpAnyH_done (by kernel_rfl) ?_ _;clear d1 hHeld;have hr:=hr.keep KR;go_wp2;go_roundw;case rel=>exact⟨m+1,by omega,by omega,by go_num,by rw[HE1.out];exact hr,hK.trans KR⟩
      case measure=>simp[intOf];omega
     cases hi1:wholeD ((dss.getD ci []).getD di zD);rotate_left
     ·
      have HE1:=HM (by rw[HQ.out,hw,hi1];simp);rw[hw] at KW;rw[hi1] at KI;clear HQ KK2;clear HH HM HP d2;go_wp2;go_quiet ((go_at_call 172;exact Calls.quiet_of_same (l1Has_any _ _ _ (by omega) (by omega))))
      go_wp2;have KR:Keep wr ((wr.drewN nq).drew):=((Keep.refl wr).grown (grown_draw wr nq none) (by simp)).drew;have z1:b<((wr.drewN nq).drew).heap.size:=hbw;refine wp_region_held_drew (S:=(fun w'=>w'.cell? ⟨b,off+k*6,none⟩=some (.int .i64 ci)∧w'.cell? ⟨b,off+k*6+1,none⟩=some (.int .i64 di)∧w'.cell? ⟨b,off+k*6+2,none⟩=some (.bool false)∧w'.cell? ⟨b,off+k*6+3,none⟩=some (.int .i64 x3)∧w'.cell? ⟨b,off+k*6+4,none⟩=some (.int .i64 x4)∧w'.cell? ⟨b,off+k*6+5,none⟩=some (.int .i64 x5)∧w'.cell? ⟨b,off+m*6,none⟩=some (.int .i64 ci)∧w'.cell? ⟨b,off+m*6+1,none⟩=some (.int .i64 dk)∧w'.cell? ⟨b,off+m*6+2,none⟩=some (.bool true)∧w'.cell? ⟨b,off+m*6+3,none⟩=some (.int .i64 y3)∧w'.cell? ⟨b,off+m*6+4,none⟩=some (.int .i64 y4)∧w'.cell? ⟨b,off+m*6+5,none⟩=some (.int .i64 y5))) (by kernel_rfl) ?_ (fun hHeld=>?_)
      · go_keep
      refine takeQ 0 59 (v:=?_) ?_ ?_;rotate_left
      ·
       intro wx hSw;go_simp;with_reducible rfl
      simp only[Act.put,List.setIfInBounds_toArray,List.set_cons_zero,List.set_cons_succ];refine takeQ 1 60 (v:=?_) ?_ ?_;rotate_left
      ·
       intro wx hSw;go_simp;with_reducible rfl
      simp only[Act.put,List.setIfInBounds_toArray,List.set_cons_zero,List.set_cons_succ];refine takeQ 2 61 (v:=?_) ?_ ?_;rotate_left
      ·
       intro wx hSw;go_simp;with_reducible rfl
      simp only[Act.put,List.setIfInBounds_toArray,List.set_cons_zero,List.set_cons_succ];refine takeQ 3 62 (v:=?_) ?_ ?_;rotate_left
      ·
       intro wx hSw;go_simp;with_reducible rfl
      simp only[Act.put,List.setIfInBounds_toArray,List.set_cons_zero,List.set_cons_succ];refine takeQ 4 63 (v:=?_) ?_ ?_;rotate_left
      ·
       intro wx hSw;go_simp;with_reducible rfl
      simp only[Act.put,List.setIfInBounds_toArray,List.set_cons_zero,List.set_cons_succ];refine takeQ 5 64 (v:=?_) ?_ ?_;rotate_left
      ·
       intro wx hSw;go_simp;with_reducible rfl
      simp only[Act.put,List.setIfInBounds_toArray,List.set_cons_zero,List.set_cons_succ];refine takeQ 6 65 (v:=?_) ?_ ?_;rotate_left
      ·
       intro wx hSw;go_simp;with_reducible rfl
      simp only[Act.put,List.setIfInBounds_toArray,List.set_cons_zero,List.set_cons_succ];refine takeQ 7 66 (v:=?_) ?_ ?_;rotate_left
      ·
       intro wx hSw;go_simp;with_reducible rfl
      simp only[Act.put,List.setIfInBounds_toArray,List.set_cons_zero,List.set_cons_succ];refine takeQ 8 67 (v:=?_) ?_ ?_;rotate_left
      ·
       intro wx hSw;go_simp;with_reducible rfl
      simp only[Act.put,List.setIfInBounds_toArray,List.set_cons_zero,List.set_cons_succ];refine wpAnyH_ready (rs:=[9]) (by kernel_rfl) (by simp) ?_;refine AllReadyH.cons rfl (fun K hK=>?_) AllReadyH.nil;go_simp;refine (KW _ KR).mono ?_;rintro e wz1 ⟨rfl,kk⟩;have z0:=z1;have KR:=KR.trans kk;have z1:=Nat.lt_of_lt_of_le z1 kk.size;go_wp2_with fail
      refine hK.out _ _ ?_ (fun hHeld=>?_)
      · exact⟨(kk.cell z0).trans hHeld.1,(kk.cell z0).trans hHeld.2.1,(kk.cell z0).trans hHeld.2.2.1,(kk.cell z0).trans hHeld.2.2.2.1,(kk.cell z0).trans hHeld.2.2.2.2.1,(kk.cell z0).trans hHeld.2.2.2.2.2.1,(kk.cell z0).trans hHeld.2.2.2.2.2.2.1,(kk.cell z0).trans hHeld.2.2.2.2.2.2.2.1,(kk.cell z0).trans hHeld.2.2.2.2.2.2.2.2.1,(kk.cell z0).trans hHeld.2.2.2.2.2.2.2.2.2.1,(kk.cell z0).trans hHeld.2.2.2.2.2.2.2.2.2.2.1,(kk.cell z0).trans hHeld.2.2.2.2.2.2.2.2.2.2.2⟩
      clear hK K;refine takeQ 10 69 (v:=?_) ?_ ?_;rotate_left
      ·
       intro wx hSw;go_simp;with_reducible rfl
      simp only[Act.put,List.setIfInBounds_toArray,List.set_cons_zero,List.set_cons_succ];refine takeQ 11 70 (v:=?_) ?_ ?_;rotate_left
      ·
       intro wx hSw;go_simp;with_reducible rfl
      simp only[Act.put,List.setIfInBounds_toArray,List.set_cons_zero,List.set_cons_succ];refine takeQ 12 71 (v:=?_) ?_ ?_;rotate_left
      ·
       intro wx hSw;go_simp;with_reducible rfl
      simp only[Act.put,List.setIfInBounds_toArray,List.set_cons_zero,List.set_cons_succ];refine takeQ 13 72 (v:=?_) ?_ ?_;rotate_left
      ·
       intro wx hSw;go_simp;with_reducible rfl
      simp only[Act.put,List.setIfInBounds_toArray,List.set_cons_zero,List.set_cons_succ];refine takeQ 14 73 (v:=?_) ?_ ?_;rotate_left
      ·
       intro wx hSw;go_simp;with_reducible rfl
      simp only[Act.put,List.setIfInBounds_toArray,List.set_cons_zero,List.set_cons_succ];refine takeQ 15 74 (v:=?_) ?_ ?_;rotate_left
      ·
       intro wx hSw;go_simp;with_reducible rfl
      simp only[Act.put,List.setIfInBounds_toArray,List.set_cons_zero,List.set_cons_succ];refine takeQ 16 75 (v:=?_) ?_ ?_;rotate_left
      ·
       intro wx hSw;go_simp;with_reducible rfl
      simp only[Act.put,List.setIfInBounds_toArray,List.set_cons_zero,List.set_cons_succ];refine wpAnyH_ready (rs:=[17]) (by kernel_rfl) (by simp) ?_;refine AllReadyH.cons rfl (fun K hK=>?_) AllReadyH.nil;go_simp;refine (KI _ KR).mono ?_;rintro e wz2 ⟨rfl,kk⟩;have z0:=z1;have KR:=KR.trans kk;have z1:=Nat.lt_of_lt_of_le z1 kk.size;go_wp2_with fail
      refine hK.out _ _ ?_ (fun hHeld=>?_)
      · exact⟨(kk.cell z0).trans hHeld.1,(kk.cell z0).trans hHeld.2.1,(kk.cell z0).trans hHeld.2.2.1,(kk.cell z0).trans hHeld.2.2.2.1,(kk.cell z0).trans hHeld.2.2.2.2.1,(kk.cell z0).trans hHeld.2.2.2.2.2.1,(kk.cell z0).trans hHeld.2.2.2.2.2.2.1,(kk.cell z0).trans hHeld.2.2.2.2.2.2.2.1,(kk.cell z0).trans hHeld.2.2.2.2.2.2.2.2.1,(kk.cell z0).trans hHeld.2.2.2.2.2.2.2.2.2.1,(kk.cell z0).trans hHeld.2.2.2.2.2.2.2.2.2.2.1,(kk.cell z0).trans hHeld.2.2.2.2.2.2.2.2.2.2.2⟩
      clear hK K;refine takeQ 18 77 (v:=?_) ?_ ?_;rotate_left
      ·
       intro wx hSw;go_simp;with_reducible rfl
      simp only[Act.put,List.setIfInBounds_toArray,List.set_cons_zero,List.set_cons_succ];refine takeQ 19 78 (v:=?_) ?_ ?_;rotate_left
      ·
       intro wx hSw;go_simp;with_reducible rfl
      simp only[Act.put,List.setIfInBounds_toArray,List.set_cons_zero,List.set_cons_succ];refine takeQ 20 79 (v:=?_) ?_ ?_;rotate_left
      ·
       intro wx hSw;go_simp;with_reducible rfl
      simp only[Act.put,List.setIfInBounds_toArray,List.set_cons_zero,List.set_cons_succ];refine skipH 21 80 rfl rfl (by kernel_rfl) (by kernel_rfl) (by kernel_rfl) (fun _ _ _ h=>h) (by rfl) (by assumption) ?_;simp only[Act.put,List.setIfInBounds_toArray,List.set_cons_zero,List.set_cons_succ];refine skipH 22 81 rfl rfl (by kernel_rfl) (by kernel_rfl) (by kernel_rfl) (fun _ _ _ h=>h) (by rfl) (by assumption) ?_;simp only[Act.put,List.setIfInBounds_toArray,List.set_cons_zero,List.set_cons_succ];refine skipH 23 82 rfl rfl (by kernel_rfl) (by kernel_rfl) (by kernel_rfl) (fun _ _ _ h=>h) (by rfl) (by assumption) ?_;simp only[Act.put,List.setIfInBounds_toArray,List.set_cons_zero,List.set_cons_succ];refine skipH 24 83 rfl rfl (by kernel_rfl) (by kernel_rfl) (by kernel_rfl) (fun _ _ _ h=>h) (by rfl) (by assumption) ?_;simp only[Act.put,List.setIfInBounds_toArray,List.set_cons_zero,List.set_cons_succ];refine skipH 25 84 rfl rfl (by kernel_rfl) (by kernel_rfl) (by kernel_rfl) (fun _ _ _ h=>h) (by rfl) (by assumption) ?_;simp only[Act.put,List.setIfInBounds_toArray,List.set_cons_zero,List.set_cons_succ];refine skipH 26 85 rfl rfl (by kernel_rfl) (by kernel_rfl) (by kernel_rfl) (fun _ _ _ h=>h) (by rfl) (by assumption) ?_;simp only[Act.put,List.setIfInBounds_toArray,List.set_cons_zero,List.set_cons_succ];refine skipH 27 86 rfl rfl (by kernel_rfl) (by kernel_rfl) (by kernel_rfl) (fun _ _ _ h=>h) (by rfl) (by assumption) ?_;simp only[Act.put,List.setIfInBounds_toArray,List.set_cons_zero,List.set_cons_succ];refine takeQ 28 87 (v:=?_) ?_ ?_;rotate_left
      ·
       intro wx hSw;go_simp;with_reducible rfl
      simp only[Act.put,List.setIfInBounds_toArray,List.set_cons_zero,List.set_cons_succ];refine wpAnyH_done (by kernel_rfl) ?_ _;clear d1 hHeld;have hr:=hr.keep KR;go_wp2;go_roundw;case rel=>exact⟨m+1,by omega,by omega,by go_num,by rw[HE1.out];exact hr,hK.trans KR⟩
      case measure=>simp[intOf];omega
     cases hk1:wholeD ((dss.getD ci []).getD dk zD);rotate_left
     ·
      have HE1:=HM (by rw[HQ.out,hw,hi1,hk1];simp);rw[hw] at KW;rw[hi1] at KI;rw[hk1] at KK2;clear HQ;clear HH HM HP d2;go_wp2;go_quiet ((go_at_call 172;exact Calls.quiet_of_same (l1Has_any _ _ _ (by omega) (by omega))))
      go_wp2;have KR:Keep wr ((wr.drewN nq).drew):=((Keep.refl wr).grown (grown_draw wr nq none) (by simp)).drew;have z1:b<((wr.drewN nq).drew).heap.size:=hbw;refine wp_region_held_drew (S:=(fun w'=>w'.cell? ⟨b,off+k*6,none⟩=some (.int .i64 ci)∧w'.cell? ⟨b,off+k*6+1,none⟩=some (.int .i64 di)∧w'.cell? ⟨b,off+k*6+2,none⟩=some (.bool false)∧w'.cell? ⟨b,off+k*6+3,none⟩=some (.int .i64 x3)∧w'.cell? ⟨b,off+k*6+4,none⟩=some (.int .i64 x4)∧w'.cell? ⟨b,off+k*6+5,none⟩=some (.int .i64 x5)∧w'.cell? ⟨b,off+m*6,none⟩=some (.int .i64 ci)∧w'.cell? ⟨b,off+m*6+1,none⟩=some (.int .i64 dk)∧w'.cell? ⟨b,off+m*6+2,none⟩=some (.bool true)∧w'.cell? ⟨b,off+m*6+3,none⟩=some (.int .i64 y3)∧w'.cell? ⟨b,off+m*6+4,none⟩=some (.int .i64 y4)∧w'.cell? ⟨b,off+m*6+5,none⟩=some (.int .i64 y5))) (by kernel_rfl) ?_ (fun hHeld=>?_)
      · go_keep
      refine takeQ 0 59 (v:=?_) ?_ ?_;rotate_left
      ·
       intro wx hSw;go_simp;with_reducible rfl
      simp only[Act.put,List.setIfInBounds_toArray,List.set_cons_zero,List.set_cons_succ];refine takeQ 1 60 (v:=?_) ?_ ?_;rotate_left
      ·
       intro wx hSw;go_simp;with_reducible rfl
      simp only[Act.put,List.setIfInBounds_toArray,List.set_cons_zero,List.set_cons_succ];refine takeQ 2 61 (v:=?_) ?_ ?_;rotate_left
      ·
       intro wx hSw;go_simp;with_reducible rfl
      simp only[Act.put,List.setIfInBounds_toArray,List.set_cons_zero,List.set_cons_succ];refine takeQ 3 62 (v:=?_) ?_ ?_;rotate_left
      ·
       intro wx hSw;go_simp;with_reducible rfl
      simp only[Act.put,List.setIfInBounds_toArray,List.set_cons_zero,List.set_cons_succ];refine takeQ 4 63 (v:=?_) ?_ ?_;rotate_left
      ·
       intro wx hSw;go_simp;with_reducible rfl
      simp only[Act.put,List.setIfInBounds_toArray,List.set_cons_zero,List.set_cons_succ];refine takeQ 5 64 (v:=?_) ?_ ?_;rotate_left
      ·
       intro wx hSw;go_simp;with_reducible rfl
      simp only[Act.put,List.setIfInBounds_toArray,List.set_cons_zero,List.set_cons_succ];refine takeQ 6 65 (v:=?_) ?_ ?_;rotate_left
      ·
       intro wx hSw;go_simp;with_reducible rfl
      simp only[Act.put,List.setIfInBounds_toArray,List.set_cons_zero,List.set_cons_succ];refine takeQ 7 66 (v:=?_) ?_ ?_;rotate_left
      ·
       intro wx hSw;go_simp;with_reducible rfl
      simp only[Act.put,List.setIfInBounds_toArray,List.set_cons_zero,List.set_cons_succ];refine takeQ 8 67 (v:=?_) ?_ ?_;rotate_left
      ·
       intro wx hSw;go_simp;with_reducible rfl
      simp only[Act.put,List.setIfInBounds_toArray,List.set_cons_zero,List.set_cons_succ];refine wpAnyH_ready (rs:=[9]) (by kernel_rfl) (by simp) ?_;refine AllReadyH.cons rfl (fun K hK=>?_) AllReadyH.nil;go_simp;refine (KW _ KR).mono ?_;rintro e wz1 ⟨rfl,kk⟩;have z0:=z1;have KR:=KR.trans kk;have z1:=Nat.lt_of_lt_of_le z1 kk.size;go_wp2_with fail
      refine hK.out _ _ ?_ (fun hHeld=>?_)
      · exact⟨(kk.cell z0).trans hHeld.1,(kk.cell z0).trans hHeld.2.1,(kk.cell z0).trans hHeld.2.2.1,(kk.cell z0).trans hHeld.2.2.2.1,(kk.cell z0).trans hHeld.2.2.2.2.1,(kk.cell z0).trans hHeld.2.2.2.2.2.1,(kk.cell z0).trans hHeld.2.2.2.2.2.2.1,(kk.cell z0).trans hHeld.2.2.2.2.2.2.2.1,(kk.cell z0).trans hHeld.2.2.2.2.2.2.2.2.1,(kk.cell z0).trans hHeld.2.2.2.2.2.2.2.2.2.1,(kk.cell z0).trans hHeld.2.2.2.2.2.2.2.2.2.2.1,(kk.cell z0).trans hHeld.2.2.2.2.2.2.2.2.2.2.2⟩
      clear hK K;refine takeQ 10 69 (v:=?_) ?_ ?_;rotate_left
      ·
       intro wx hSw;go_simp;with_reducible rfl
      simp only[Act.put,List.setIfInBounds_toArray,List.set_cons_zero,List.set_cons_succ];refine takeQ 11 70 (v:=?_) ?_ ?_;rotate_left
      ·
       intro wx hSw;go_simp;with_reducible rfl
      simp only[Act.put,List.setIfInBounds_toArray,List.set_cons_zero,List.set_cons_succ];refine takeQ 12 71 (v:=?_) ?_ ?_;rotate_left
      ·
       intro wx hSw;go_simp;with_reducible rfl
      simp only[Act.put,List.setIfInBounds_toArray,List.set_cons_zero,List.set_cons_succ];refine takeQ 13 72 (v:=?_) ?_ ?_;rotate_left
      ·
       intro wx hSw;go_simp;with_reducible rfl
      simp only[Act.put,List.setIfInBounds_toArray,List.set_cons_zero,List.set_cons_succ];refine takeQ 14 73 (v:=?_) ?_ ?_;rotate_left
      ·
       intro wx hSw;go_simp;with_reducible rfl
      simp only[Act.put,List.setIfInBounds_toArray,List.set_cons_zero,List.set_cons_succ];refine takeQ 15 74 (v:=?_) ?_ ?_;rotate_left
      ·
       intro wx hSw;go_simp;with_reducible rfl
      simp only[Act.put,List.setIfInBounds_toArray,List.set_cons_zero,List.set_cons_succ];refine takeQ 16 75 (v:=?_) ?_ ?_;rotate_left
      ·
       intro wx hSw;go_simp;with_reducible rfl
      simp only[Act.put,List.setIfInBounds_toArray,List.set_cons_zero,List.set_cons_succ];refine wpAnyH_ready (rs:=[17]) (by kernel_rfl) (by simp) ?_;refine AllReadyH.cons rfl (fun K hK=>?_) AllReadyH.nil;go_simp;refine (KI _ KR).mono ?_;rintro e wz2 ⟨rfl,kk⟩;have z0:=z1;have KR:=KR.trans kk;have z1:=Nat.lt_of_lt_of_le z1 kk.size;go_wp2_with fail
      refine hK.out _ _ ?_ (fun hHeld=>?_)
      · exact⟨(kk.cell z0).trans hHeld.1,(kk.cell z0).trans hHeld.2.1,(kk.cell z0).trans hHeld.2.2.1,(kk.cell z0).trans hHeld.2.2.2.1,(kk.cell z0).trans hHeld.2.2.2.2.1,(kk.cell z0).trans hHeld.2.2.2.2.2.1,(kk.cell z0).trans hHeld.2.2.2.2.2.2.1,(kk.cell z0).trans hHeld.2.2.2.2.2.2.2.1,(kk.cell z0).trans hHeld.2.2.2.2.2.2.2.2.1,(kk.cell z0).trans hHeld.2.2.2.2.2.2.2.2.2.1,(kk.cell z0).trans hHeld.2.2.2.2.2.2.2.2.2.2.1,(kk.cell z0).trans hHeld.2.2.2.2.2.2.2.2.2.2.2⟩
      clear hK K;refine takeQ 18 77 (v:=?_) ?_ ?_;rotate_left
      ·
       intro wx hSw;go_simp;with_reducible rfl
      simp only[Act.put,List.setIfInBounds_toArray,List.set_cons_zero,List.set_cons_succ];refine takeQ 19 78 (v:=?_) ?_ ?_;rotate_left
      ·
       intro wx hSw;go_simp;with_reducible rfl
      simp only[Act.put,List.setIfInBounds_toArray,List.set_cons_zero,List.set_cons_succ];refine takeQ 20 79 (v:=?_) ?_ ?_;rotate_left
      ·
       intro wx hSw;go_simp;with_reducible rfl
      simp only[Act.put,List.setIfInBounds_toArray,List.set_cons_zero,List.set_cons_succ];refine takeQ 21 80 (v:=?_) ?_ ?_;rotate_left
      ·
       intro wx hSw;go_simp;with_reducible rfl
      simp only[Act.put,List.setIfInBounds_toArray,List.set_cons_zero,List.set_cons_succ];refine takeQ 22 81 (v:=?_) ?_ ?_;rotate_left
      ·
       intro wx hSw;go_simp;with_reducible rfl
      simp only[Act.put,List.setIfInBounds_toArray,List.set_cons_zero,List.set_cons_succ];refine takeQ 23 82 (v:=?_) ?_ ?_;rotate_left
      ·
       intro wx hSw;go_simp;with_reducible rfl
      simp only[Act.put,List.setIfInBounds_toArray,List.set_cons_zero,List.set_cons_succ];refine takeQ 24 83 (v:=?_) ?_ ?_;rotate_left
      ·
       intro wx hSw;go_simp;with_reducible rfl
      simp only[Act.put,List.setIfInBounds_toArray,List.set_cons_zero,List.set_cons_succ];refine takeQ 25 84 (v:=?_) ?_ ?_;rotate_left
      ·
       intro wx hSw;go_simp;with_reducible rfl
      simp only[Act.put,List.setIfInBounds_toArray,List.set_cons_zero,List.set_cons_succ];refine wpAnyH_ready (rs:=[26]) (by kernel_rfl) (by simp) ?_;refine AllReadyH.cons rfl (fun K hK=>?_) AllReadyH.nil;go_simp;refine (KK2 _ KR).mono ?_;rintro e wz3 ⟨rfl,kk⟩;have z0:=z1;have KR:=KR.trans kk;have z1:=Nat.lt_of_lt_of_le z1 kk.size;go_wp2_with fail
      refine hK.out _ _ ?_ (fun hHeld=>?_)
      · exact⟨(kk.cell z0).trans hHeld.1,(kk.cell z0).trans hHeld.2.1,(kk.cell z0).trans hHeld.2.2.1,(kk.cell z0).trans hHeld.2.2.2.1,(kk.cell z0).trans hHeld.2.2.2.2.1,(kk.cell z0).trans hHeld.2.2.2.2.2.1,(kk.cell z0).trans hHeld.2.2.2.2.2.2.1,(kk.cell z0).trans hHeld.2.2.2.2.2.2.2.1,(kk.cell z0).trans hHeld.2.2.2.2.2.2.2.2.1,(kk.cell z0).trans hHeld.2.2.2.2.2.2.2.2.2.1,(kk.cell z0).trans hHeld.2.2.2.2.2.2.2.2.2.2.1,(kk.cell z0).trans hHeld.2.2.2.2.2.2.2.2.2.2.2⟩
      clear hK K;refine takeQ 27 86 (v:=?_) ?_ ?_;rotate_left
      ·
       intro wx hSw;go_simp;with_reducible rfl
      simp only[Act.put,List.setIfInBounds_toArray,List.set_cons_zero,List.set_cons_succ];refine takeQ 28 87 (v:=?_) ?_ ?_;rotate_left
      ·
       intro wx hSw;go_simp;with_reducible rfl
      simp only[Act.put,List.setIfInBounds_toArray,List.set_cons_zero,List.set_cons_succ];refine wpAnyH_done (by kernel_rfl) ?_ _;clear d1 hHeld;have hr:=hr.keep KR;go_wp2;go_roundw;case rel=>exact⟨m+1,by omega,by omega,by go_num,by rw[HE1.out];exact hr,hK.trans KR⟩
      case measure=>simp[intOf];omega
     ·
      have HE1:=HH (by rw[HQ.out,hw,hi1,hk1];rfl);rw[hw] at KW;rw[hi1] at KI;rw[hk1] at KK2;clear HQ;clear HH HM HP d2;go_wp2;go_quiet ((go_at_call 172;exact Calls.quiet_of_same (l1Has_any _ _ _ (by omega) (by omega))))
      go_wp2;have KR:Keep wr ((wr.drewN nq).drew):=((Keep.refl wr).grown (grown_draw wr nq none) (by simp)).drew;have z1:b<((wr.drewN nq).drew).heap.size:=hbw;refine wp_region_held_drew (S:=(fun w'=>w'.cell? ⟨b,off+k*6,none⟩=some (.int .i64 ci)∧w'.cell? ⟨b,off+k*6+1,none⟩=some (.int .i64 di)∧w'.cell? ⟨b,off+k*6+2,none⟩=some (.bool false)∧w'.cell? ⟨b,off+k*6+3,none⟩=some (.int .i64 x3)∧w'.cell? ⟨b,off+k*6+4,none⟩=some (.int .i64 x4)∧w'.cell? ⟨b,off+k*6+5,none⟩=some (.int .i64 x5)∧w'.cell? ⟨b,off+m*6,none⟩=some (.int .i64 ci)∧w'.cell? ⟨b,off+m*6+1,none⟩=some (.int .i64 dk)∧w'.cell? ⟨b,off+m*6+2,none⟩=some (.bool true)∧w'.cell? ⟨b,off+m*6+3,none⟩=some (.int .i64 y3)∧w'.cell? ⟨b,off+m*6+4,none⟩=some (.int .i64 y4)∧w'.cell? ⟨b,off+m*6+5,none⟩=some (.int .i64 y5))) (by kernel_rfl) ?_ (fun hHeld=>?_)
      · go_keep
      refine takeQ 0 59 (v:=?_) ?_ ?_;rotate_left
      ·
       intro wx hSw;go_simp;with_reducible rfl
      simp only[Act.put,List.setIfInBounds_toArray,List.set_cons_zero,List.set_cons_succ];refine takeQ 1 60 (v:=?_) ?_ ?_;rotate_left
      ·
       intro wx hSw;go_simp;with_reducible rfl
      simp only[Act.put,List.setIfInBounds_toArray,List.set_cons_zero,List.set_cons_succ];refine takeQ 2 61 (v:=?_) ?_ ?_;rotate_left
      ·
       intro wx hSw;go_simp;with_reducible rfl
      simp only[Act.put,List.setIfInBounds_toArray,List.set_cons_zero,List.set_cons_succ];refine takeQ 3 62 (v:=?_) ?_ ?_;rotate_left
      ·
       intro wx hSw;go_simp;with_reducible rfl
      simp only[Act.put,List.setIfInBounds_toArray,List.set_cons_zero,List.set_cons_succ];refine takeQ 4 63 (v:=?_) ?_ ?_;rotate_left
      ·
       intro wx hSw;go_simp;with_reducible rfl
      simp only[Act.put,List.setIfInBounds_toArray,List.set_cons_zero,List.set_cons_succ];refine takeQ 5 64 (v:=?_) ?_ ?_;rotate_left
      ·
       intro wx hSw;go_simp;with_reducible rfl
      simp only[Act.put,List.setIfInBounds_toArray,List.set_cons_zero,List.set_cons_succ];refine takeQ 6 65 (v:=?_) ?_ ?_;rotate_left
      ·
       intro wx hSw;go_simp;with_reducible rfl
      simp only[Act.put,List.setIfInBounds_toArray,List.set_cons_zero,List.set_cons_succ];refine takeQ 7 66 (v:=?_) ?_ ?_;rotate_left
      ·
       intro wx hSw;go_simp;with_reducible rfl
      simp only[Act.put,List.setIfInBounds_toArray,List.set_cons_zero,List.set_cons_succ];refine takeQ 8 67 (v:=?_) ?_ ?_;rotate_left
      ·
       intro wx hSw;go_simp;with_reducible rfl
      simp only[Act.put,List.setIfInBounds_toArray,List.set_cons_zero,List.set_cons_succ];refine wpAnyH_ready (rs:=[9]) (by kernel_rfl) (by simp) ?_;refine AllReadyH.cons rfl (fun K hK=>?_) AllReadyH.nil;go_simp;refine (KW _ KR).mono ?_;rintro e wz1 ⟨rfl,kk⟩;have z0:=z1;have KR:=KR.trans kk;have z1:=Nat.lt_of_lt_of_le z1 kk.size;go_wp2_with fail
      refine hK.out _ _ ?_ (fun hHeld=>?_)
      · exact⟨(kk.cell z0).trans hHeld.1,(kk.cell z0).trans hHeld.2.1,(kk.cell z0).trans hHeld.2.2.1,(kk.cell z0).trans hHeld.2.2.2.1,(kk.cell z0).trans hHeld.2.2.2.2.1,(kk.cell z0).trans hHeld.2.2.2.2.2.1,(kk.cell z0).trans hHeld.2.2.2.2.2.2.1,(kk.cell z0).trans hHeld.2.2.2.2.2.2.2.1,(kk.cell z0).trans hHeld.2.2.2.2.2.2.2.2.1,(kk.cell z0).trans hHeld.2.2.2.2.2.2.2.2.2.1,(kk.cell z0).trans hHeld.2.2.2.2.2.2.2.2.2.2.1,(kk.cell z0).trans hHeld.2.2.2.2.2.2.2.2.2.2.2⟩
      clear hK K;refine takeQ 10 69 (v:=?_) ?_ ?_;rotate_left
      ·
       intro wx hSw;go_simp;with_reducible rfl
      simp only[Act.put,List.setIfInBounds_toArray,List.set_cons_zero,List.set_cons_succ];refine takeQ 11 70 (v:=?_) ?_ ?_;rotate_left
      ·
       intro wx hSw;go_simp;with_reducible rfl
      simp only[Act.put,List.setIfInBounds_toArray,List.set_cons_zero,List.set_cons_succ];refine takeQ 12 71 (v:=?_) ?_ ?_;rotate_left
      ·
       intro wx hSw;go_simp;with_reducible rfl
      simp only[Act.put,List.setIfInBounds_toArray,List.set_cons_zero,List.set_cons_succ];refine takeQ 13 72 (v:=?_) ?_ ?_;rotate_left
      ·
       intro wx hSw;go_simp;with_reducible rfl
      simp only[Act.put,List.setIfInBounds_toArray,List.set_cons_zero,List.set_cons_succ];refine takeQ 14 73 (v:=?_) ?_ ?_;rotate_left
      ·
       intro wx hSw;go_simp;with_reducible rfl
      simp only[Act.put,List.setIfInBounds_toArray,List.set_cons_zero,List.set_cons_succ];refine takeQ 15 74 (v:=?_) ?_ ?_;rotate_left
      ·
       intro wx hSw;go_simp;with_reducible rfl
      simp only[Act.put,List.setIfInBounds_toArray,List.set_cons_zero,List.set_cons_succ];refine takeQ 16 75 (v:=?_) ?_ ?_;rotate_left
      ·
       intro wx hSw;go_simp;with_reducible rfl
      simp only[Act.put,List.setIfInBounds_toArray,List.set_cons_zero,List.set_cons_succ];refine wpAnyH_ready (rs:=[17]) (by kernel_rfl) (by simp) ?_;refine AllReadyH.cons rfl (fun K hK=>?_) AllReadyH.nil;go_simp;refine (KI _ KR).mono ?_;rintro e wz2 ⟨rfl,kk⟩;have z0:=z1;have KR:=KR.trans kk;have z1:=Nat.lt_of_lt_of_le z1 kk.size;go_wp2_with fail
      refine hK.out _ _ ?_ (fun hHeld=>?_)
      · exact⟨(kk.cell z0).trans hHeld.1,(kk.cell z0).trans hHeld.2.1,(kk.cell z0).trans hHeld.2.2.1,(kk.cell z0).trans hHeld.2.2.2.1,(kk.cell z0).trans hHeld.2.2.2.2.1,(kk.cell z0).trans hHeld.2.2.2.2.2.1,(kk.cell z0).trans hHeld.2.2.2.2.2.2.1,(kk.cell z0).trans hHeld.2.2.2.2.2.2.2.1,(kk.cell z0).trans hHeld.2.2.2.2.2.2.2.2.1,(kk.cell z0).trans hHeld.2.2.2.2.2.2.2.2.2.1,(kk.cell z0).trans hHeld.2.2.2.2.2.2.2.2.2.2.1,(kk.cell z0).trans hHeld.2.2.2.2.2.2.2.2.2.2.2⟩
      clear hK K;refine takeQ 18 77 (v:=?_) ?_ ?_;rotate_left
      ·
       intro wx hSw;go_simp;with_reducible rfl
      simp only[Act.put,List.setIfInBounds_toArray,List.set_cons_zero,List.set_cons_succ];refine takeQ 19 78 (v:=?_) ?_ ?_;rotate_left
      ·
       intro wx hSw;go_simp;with_reducible rfl
      simp only[Act.put,List.setIfInBounds_toArray,List.set_cons_zero,List.set_cons_succ];refine takeQ 20 79 (v:=?_) ?_ ?_;rotate_left
      ·
       intro wx hSw;go_simp;with_reducible rfl
      simp only[Act.put,List.setIfInBounds_toArray,List.set_cons_zero,List.set_cons_succ];refine takeQ 21 80 (v:=?_) ?_ ?_;rotate_left
      ·
       intro wx hSw;go_simp;with_reducible rfl
      simp only[Act.put,List.setIfInBounds_toArray,List.set_cons_zero,List.set_cons_succ];refine takeQ 22 81 (v:=?_) ?_ ?_;rotate_left
      ·
       intro wx hSw;go_simp;with_reducible rfl
      simp only[Act.put,List.setIfInBounds_toArray,List.set_cons_zero,List.set_cons_succ];refine takeQ 23 82 (v:=?_) ?_ ?_;rotate_left
      ·
       intro wx hSw;go_simp;with_reducible rfl
      simp only[Act.put,List.setIfInBounds_toArray,List.set_cons_zero,List.set_cons_succ];refine takeQ 24 83 (v:=?_) ?_ ?_;rotate_left
      ·
       intro wx hSw;go_simp;with_reducible rfl
      simp only[Act.put,List.setIfInBounds_toArray,List.set_cons_zero,List.set_cons_succ];refine takeQ 25 84 (v:=?_) ?_ ?_;rotate_left
      ·
       intro wx hSw;go_simp;with_reducible rfl
      simp only[Act.put,List.setIfInBounds_toArray,List.set_cons_zero,List.set_cons_succ];refine wpAnyH_ready (rs:=[26]) (by kernel_rfl) (by simp) ?_;refine AllReadyH.cons rfl (fun K hK=>?_) AllReadyH.nil;go_simp;refine (KK2 _ KR).mono ?_;rintro e wz3 ⟨rfl,kk⟩;have z0:=z1;have KR:=KR.trans kk;have z1:=Nat.lt_of_lt_of_le z1 kk.size;go_wp2_with fail
      refine hK.out _ _ ?_ (fun hHeld=>?_)
      · exact⟨(kk.cell z0).trans hHeld.1,(kk.cell z0).trans hHeld.2.1,(kk.cell z0).trans hHeld.2.2.1,(kk.cell z0).trans hHeld.2.2.2.1,(kk.cell z0).trans hHeld.2.2.2.2.1,(kk.cell z0).trans hHeld.2.2.2.2.2.1,(kk.cell z0).trans hHeld.2.2.2.2.2.2.1,(kk.cell z0).trans hHeld.2.2.2.2.2.2.2.1,(kk.cell z0).trans hHeld.2.2.2.2.2.2.2.2.1,(kk.cell z0).trans hHeld.2.2.2.2.2.2.2.2.2.1,(kk.cell z0).trans hHeld.2.2.2.2.2.2.2.2.2.2.1,(kk.cell z0).trans hHeld.2.2.2.2.2.2.2.2.2.2.2⟩
      clear hK K;refine takeQ 27 86 (v:=?_) ?_ ?_;rotate_left
      ·
       intro wx hSw;go_simp;with_reducible rfl
      simp only[Act.put,List.setIfInBounds_toArray,List.set_cons_zero,List.set_cons_succ];refine takeQ 28 87 (v:=?_) ?_ ?_;rotate_left
      ·
       intro wx hSw;go_simp;with_reducible rfl
      simp only[Act.put,List.setIfInBounds_toArray,List.set_cons_zero,List.set_cons_succ];refine wpAnyH_done (by kernel_rfl) ?_ _;clear d1 hHeld;have hr:=hr.keep KR;have d1:=hr.cell (j:=k) hBl;rw[←HX.out] at d1;have d2:=hr.free k;have hGl:=hr.lt;go_wp2;go_roundw;case rel=>exact⟨m+1,by omega,by omega,by go_num,by rw[HE1.out];exact hr.set k _,(hK.trans KR).grown (grown_set _ G k _) (by simp;exact hG)⟩
      case measure=>simp[intOf];omega
    ·
     obtain rfl:m=es.length:=by omega
     go_wp2;go_roundw;case rel=>exact⟨k+1,by omega,by omega,by go_num,by rw[←HE.out];exact hr,hK⟩
     case measure=>simp[intOf];omega
  ·
   obtain rfl:k=es.length:=by omega
   have HL:=(web_offAll (p:=kepP dss es) HW0.out es.length (Nat.le_refl _)).1.2.1;go_wp2;go_ret;exact⟨_,rfl,row_new hr hG HL,hK⟩
theorem l7Place_any (w:World)(v:Value)(es:List Ev)(h:RdE w v es)(hn:es.length≤12):
  Calls Tryz.prog 96 #[v] w fun e w'=>∃v',e = .returned v'∧Row w' w.heap.size v' (plcL es)∧Keep w w':=by
 have HB:=(beh_line hn).1;have r:=h;obtain⟨a,c,rfl,h⟩:=h;go_enter Tryz.func96,Tryz.ntmps96
 go_wp2_with fail
 refine (l7Behind_any _ _ _ r hn).mono ?_;rintro e w1 ⟨v1,rfl,o1,k1⟩;clear r;by_cases h0:es.length=0
 ·
  have e0:es=[]:=List.eq_nil_of_length_eq_zero h0;subst e0;go_wp2;refine wp_loop_rounds 1 ?_;rw[rounds_succ];go_wp2;go_ret;exact⟨_,rfl,o1,k1⟩
 obtain⟨G,cap,rfl,hG,hR⟩:∃g cap,v1 = .slice (some ⟨g,0,none⟩) es.length cap∧w.heap.size≤g∧RowAt w1 g (behL es):=by
  rcases o1 with ⟨_,e⟩|⟨g,cap,e,hg,hr⟩
  · exact absurd (HB.2.1.symm.trans (by rw[e];rfl)) h0
  · exact⟨g,cap,by rw[e,HB.2.1],hg,hr⟩
 clear o1 h0;have HW0:=Lib.hid HB;clear HB;go_wp2;go_loopw [4] (fun i wr=>∃k:Nat,k≤es.length∧i = .int .i64 k∧RowAt wr G (offAll (plcP es) es.length (behL es) k)∧Keep w wr) (fun i _=>es.length-(intOf i).toNat)
 case atStart=>exact⟨0,Nat.zero_le _,rfl,hR,k1⟩
 case round=>
  obtain⟨k,hk,rfl,hr,hK⟩:=hrel;clear hR k1;by_cases hlt:k<es.length
  ·
   rcases h with h|⟨b,off,rfl,hb,hc⟩
   · exfalso;rw[h] at hlt;simp at hlt
   have AT:=hc k _ (evs_get hlt);have HW:=Lib.hid (web_offAll (p:=plcP es) HW0.out k (by omega)).1;have HE:Hid (offIn (plcP es) k (offAll (plcP es) es.length (behL es) k) es.length=offAll (plcP es) es.length (behL es) (k+1)):=Lib.hid rfl;generalize offAll (plcP es) es.length (behL es) k=T at *;obtain⟨wo,rfl⟩:∃wo:World,wo=wr:=⟨_,rfl⟩;have i1:(0:Int)≤(k:Int):=Int.natCast_nonneg _;have i2:(k:Int)<(es.length:Int):=by omega
   go_wp2;go_loopw [5] (fun i wr=>∃m:Nat,m≤es.length∧i = .int .i64 m∧RowAt wr G (offIn (plcP es) k T m)∧Keep w wr) (fun i _=>es.length-(intOf i).toNat)
   case atStart=>exact⟨0,by omega,rfl,hr,hK⟩
   case round=>
    clear hr hK;obtain⟨m,hm,rfl,hr,hK⟩:=hrel;by_cases hml:m<es.length
    ·
     have AK:=AT.keep hb hK;have AM:=(hc m _ (evs_get hml)).keep hb hK;have hbw:b<wr.heap.size:=Nat.lt_of_lt_of_le hb hK.size;have hB:=(web_offIn (p:=plcP es) hlt HW.out m hm).1;have hBl:k<(offIn (plcP es) k T m).length:=by rw[hB.2.1];exact hlt
     clear hB AT hc;have HP:Hid (plcP es k m=((es.getD k zE).2.2.2.1 != (es.getD m zE).2.2.2.1)):=Lib.hid rfl;obtain⟨e,he⟩:∃e,e=es.getD k zE:=⟨_,rfl⟩;rw[←he] at AK HP;clear he;obtain⟨d,hd⟩:∃d,d=es.getD m zE:=⟨_,rfl⟩;rw[←hd] at AM HP;clear hd;obtain⟨x0,x1,x2,x3,x4,x5⟩:=e;obtain⟨y0,y1,y2,y3,y4,y5⟩:=d;obtain⟨-,-,-,A3,-,-⟩:=atE AK;obtain⟨-,-,-,B3,-,-⟩:=atE AM;clear AK AM;have j1:(0:Int)≤(m:Int):=Int.natCast_nonneg _;have j2:(m:Int)<(es.length:Int):=by omega
     have j3:(es.length:Int)≤12:=by omega
     have HH:plcP es k m=true→Hid (offIn (plcP es) k T (m+1)=(offIn (plcP es) k T m).set k (bits .andNot .i64 ((offIn (plcP es) k T m).getD k 0) (wrap64 (2 ^ (m:Int).toNat)))):=fun hp=>Lib.hid (offIn_hit T hp)
     have HM:plcP es k m=false→Hid (offIn (plcP es) k T (m+1)=offIn (plcP es) k T m):=fun hp=>Lib.hid (offIn_miss T hp)
     have d1:=hr.cell (j:=k) hBl;have d2:=hr.free k;have hGl:=hr.lt;obtain⟨S,hS⟩:∃S,S=offIn (plcP es) k T m:=⟨_,rfl⟩;rw[←hS] at d1 hr HH HM;clear hS hBl;obtain⟨x,hx⟩:∃x,x=S.getD k 0:=⟨_,rfl⟩;rw[←hx] at d1 HH;clear hx;by_cases xy:x3=y3
     ·
      subst xy;have HE1:=HM (by rw[HP.out];simp);clear HH HM HP d1 d2;go_wp2;go_quiet (fail)
      go_wp2;go_roundw;case rel=>exact⟨m+1,by omega,by go_num,by rw[HE1.out];exact hr.drewN _,hK.grown (grown_draw wr _ none) (by simp)⟩
      case measure=>simp[intOf];omega
     ·
      have xb:(x3 != y3)=true:=by simp[xy]
      have HE1:=HH (by rw[HP.out];exact xb);clear HH HM HP xy;go_wp2;go_quiet (fail)
      go_wp2;go_roundw;case rel=>exact⟨m+1,by omega,by go_num,by rw[HE1.out];exact (hr.drewN _).set k _,(hK.grown (grown_draw wr _ none) (by simp)).grown (grown_set _ G k _) (by simp;exact hG)⟩
      case measure=>simp[intOf];omega
    ·
     obtain rfl:m=es.length:=by omega
     go_wp2;go_roundw;case rel=>exact⟨k+1,by omega,by go_num,by rw[←HE.out];exact hr,hK⟩
     case measure=>simp[intOf];omega
  ·
   obtain rfl:k=es.length:=by omega
   have HL:=(web_offAll (p:=plcP es) HW0.out es.length (Nat.le_refl _)).1.2.1;go_wp2;go_ret;exact⟨_,rfl,row_new hr hG HL,hK⟩
theorem l8Count_any (w:World)(v:Value)(c:List (List Int))(h:RdL w v c)(hl:c.length≤12)(hb:∀i,i<c.length→(c.getD i []).length≤12):
  Calls Tryz.prog 97 #[v] w fun e w'=>e = .returned (.int .i64 (cntK c c.length))∧w'=w:=by
 obtain⟨a,cc,rfl,h⟩:=h;go_enter Tryz.func97,Tryz.ntmps97
 go_wp2;go_loopw [3,4] (fun n i wr=>∃k:Nat,k≤c.length∧n = .int .i64 (cntK c k)∧i = .int .i64 k∧wr=w) (fun _ i _=>c.length-(intOf i).toNat)
 case atStart=>exact⟨0,Nat.zero_le _,rfl,rfl,rfl⟩
 case round=>
  obtain⟨k,hk,rfl,rfl,rfl⟩:=hrel;by_cases hlt:k<c.length
  ·
   rcases h with h|⟨b,o,rfl,hbl,hc⟩
   · exfalso;rw[h] at hlt;simp at hlt
   obtain⟨vi,e1,r1⟩:=hc k hlt;clear hc;have HN:Hid (cntK c (k+1)=cntK c k*(c.getD k []).length):=Lib.hid rfl;have t1:=cnt_top hl hb k (by omega);have t2:=cnt_top hl hb (k+1) (by omega);rw[HN.out] at t2;have l12:=hb k hlt;clear hb;generalize cntK c k=x at *;generalize c.getD k []=zs at *;obtain⟨az,cz,rfl,-⟩:=r1;generalize zs.length=n at *;have i1:(0:Int)≤(k:Int):=Int.natCast_nonneg _;have i2:(k:Int)<(c.length:Int):=by omega
   have n1:(0:Int)≤(n:Int):=Int.natCast_nonneg _;have n2:(n:Int)≤12:=by omega
   obtain⟨x1,x2⟩:=t1;obtain⟨y1,y2⟩:=t2;go_wp2;go_roundw;case rel=>exact⟨k+1,by omega,by rw[HN.out],by go_num,trivial⟩
   case measure=>simp[intOf];omega
  ·
   obtain rfl:k=c.length:=by omega
   go_wp2;go_ret;exact⟨rfl,rfl⟩
end Go.Proofs.YtkmjmnljkidobaaGreat
