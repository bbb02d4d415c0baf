/- Gathered texts. -/
import Derived.Outline
import Derived.BigRegion
import Derived.RegionTactic
import Derived.Deep.RegionHeld3
import Derived.Deep.QuietTactic
import Derived.BigQuiet
import Derived.Lib.Hide
import Derived.Laws.StructEq
import Derived.Test.YtgikcfdckddgpabGreatMR
import Derived.Handy
import Derived.Stop.Asserts
import Derived.Test.YtgikcfdckddgpabGreatMN
set_option maxRecDepth 100000
set_option maxHeartbeats 8000000
namespace Go.Proofs.YtgikcfdckddgpabGreat
open Go.ChangeShapes Go.WideShapes Go.ChangeAt Go.RowKit
theorem isAtOnce_any (w:World)(k p v g:Int):
  Calls Tryz.prog 164 #[deedV k p v g] w fun e w'=>e = .returned (.bool (onceD (k,p,v,g)))∧Keep w w':=by
 by_cases hk:k=3
 ·
  subst hk;go_enter Tryz.func164,Tryz.ntmps164
  go_wp2;go_ret;exact⟨rfl,(Keep.refl w).alloc _⟩
 ·
  have kb:(k==3)=false:=by simp[hk]
  have HE:Hid (onceD (k,p,v,g)=(g != 0)):=Lib.hid (by unfold onceD;simp[hk]);clear hk;go_enter Tryz.func164,Tryz.ntmps164
  go_wp2;go_ret;exact⟨by rw[HE.out];rfl,(Keep.refl w).alloc _⟩
theorem deedOf_any (w:World)(v:Value)(dss:List (List Dd))(h:RdW w v dss)(i k:Nat)(r:Bool)(pl vl cl:Int)(hi:i<dss.length)(hk:k<(dss.getD i []).length):
  Calls Tryz.prog 165 #[v,eA i k r pl vl cl] w fun e w'=>e = .returned (dV ((dss.getD i []).getD k zD))∧Keep w w':=by
 obtain⟨a,c,rfl,h⟩:=h;rcases h with h|⟨b,o,rfl,hb,hc⟩
 · exfalso;rw[h] at hi;simp at hi
 obtain⟨u,e1,r1⟩:=hc i hi;clear hc;obtain⟨ds,hds⟩:∃ds,ds=dss.getD i []:=⟨_,rfl⟩;rw[←hds] at r1 hk ⊢;clear hds;obtain⟨ai,ci,rfl,r1⟩:=r1;rcases r1 with h|⟨b2,o2,rfl,hb2,hc2⟩
 · exfalso;rw[h] at hk;simp at hk
 have AT:=hc2 k hk;clear hc2;obtain⟨d,hd⟩:∃d,d=ds.getD k zD:=⟨_,rfl⟩;rw[←hd] at AT ⊢;clear hd;obtain⟨x0,x1,x2,x3⟩:=d;obtain⟨A0,A1,A2,A3⟩:=AT;simp only at A0 A1 A2 A3;have i1:(0:Int)≤(i:Int):=Int.natCast_nonneg _;have i2:(i:Int)<(dss.length:Int):=by omega
 have j1:(0:Int)≤(k:Int):=Int.natCast_nonneg _;have j2:(k:Int)<(ds.length:Int):=by omega
 go_enter Tryz.func165,Tryz.ntmps165
 go_wp2;go_region
 all_goals
  go_wp2;refine bodyPost_ret (results_row (by rfl) _ _ (w.heap.size+1) 66 #[.int .i64 x0,.int .i64 x1,.int .i64 x2,.int .i64 x3] (0,0) _ rfl (by simp only[heap_at,heap_drew,heap_size];repeat (first|exact if_pos rfl|exact if_pos trivial|rw[if_neg (by omega)])) Tryz.underlying66 rfl (by kernel_rfl)) rfl ?_;exact⟨rfl,by first|exact (((Keep.refl w).alloc _).drew).alloc _|exact ((((Keep.refl w).alloc _)).alloc _).drew⟩
theorem eqDd (x0 x1 x2 x3 y0 y1 y2 y3:Int)(w:World):(Op.equalIn 10000 66 (deedV x0 x1 x2 x3) (deedV y0 y1 y2 y3)).run Tryz.prog w = .ok (x0==y0&&(x1==y1&&(x2==y2&&x3==y3))) w:=by
 have u3:=Tryz.underlying2;have a3:=Tryz.isAgg2;have z3:=Tryz.sizeOf2;have hS:Tryz.prog.underlying 66=some (.struct (Tryz.prog.fieldsOf 66)):=by kernel_rfl
 have hp:Tryz.prog.stoodInHeld 66=false:=by kernel_rfl
 rw[show (10000:Nat)=9999+1 from rfl,run_equalIn_agg w 9999 66 _ _ hS hp];simp only[Program.fieldsOf,Tryz.underlying66];go_simp;by_cases h1:x0=y0<;>by_cases h2:x1=y1<;>by_cases h3:x2=y2<;>by_cases h4:x3=y3<;>simp[h1,h2,h3,h4]
theorem dIndex_any (w:World)(b off n cap:Nat)(f:Nat→Dd)(hb:b<w.heap.size)(hc:∀i,i<n→AtD w b (off+i*4) (f i))(hn:n≤1048576):
  Calls Tryz.prog 168 #[.slice (some ⟨b,off,none⟩) n cap,deedV 4 0 0 0] w fun e w'=>∃r:Int,e = .returned (.int .i64 r)∧decide (0≤r)=(List.range n).any (fun i=>f i==wtD)∧Keep w w':=by
 obtain⟨ob,hob⟩:∃ob,ob=(Obj.cells #[.int .i64 4,.int .i64 0,.int .i64 0,.int .i64 0] 66):=⟨_,rfl⟩;go_enter Tryz.func168,Tryz.ntmps168
 go_wp2;go_loopw [8] (fun s wr=>∃k:Nat,k≤n∧s = .int .i64 k∧Hid (∀j,j<k→f j≠wtD)∧Keep (w.alloc (.cells #[.int .i64 4,.int .i64 0,.int .i64 0,.int .i64 0] 66)) wr) (fun s _=>n-(intOf s).toNat)
 case atStart=>exact⟨0,Nat.zero_le _,rfl,Lib.hid (fun j h=>by omega),Keep.refl _⟩
 case round=>
  obtain⟨k,hk,rfl,HN,hK⟩:=hrel;by_cases hlt:k<n
  ·
   have AT:=((hc k hlt).keep hb ((Keep.refl w).alloc (.cells #[.int .i64 4,.int .i64 0,.int .i64 0,.int .i64 0] 66))).keep (Nat.lt_of_lt_of_le hb ((Keep.refl w).alloc _).size) hK;have c0:wr.cell? ⟨w.heap.size,0,none⟩=some (.int .i64 4):=by rw[hK.cell (by simp)];simp
   have c1:wr.cell? ⟨w.heap.size,1,none⟩=some (.int .i64 0):=by rw[hK.cell (by simp)];simp
   have c2:wr.cell? ⟨w.heap.size,2,none⟩=some (.int .i64 0):=by rw[hK.cell (by simp)];simp
   have c3:wr.cell? ⟨w.heap.size,3,none⟩=some (.int .i64 0):=by rw[hK.cell (by simp)];simp
   clear hc;have HY:f k=wtD→Hid ((List.range n).any (fun i=>f i==wtD)=true):=fun e=>Lib.hid (by rw[List.any_eq_true];exact⟨k,List.mem_range.2 hlt,by rw[e];simp⟩)
   have HX:f k≠wtD→Hid (∀j,j<k+1→f j≠wtD):=fun h4=>Lib.hid (fun j h2=>by
    by_cases e:j=k
    · subst e;exact h4
    · exact HN.out j (by omega))
   generalize f k=d at AT HY HX;clear HN;obtain⟨x0,x1,x2,x3⟩:=d;obtain⟨A0,A1,A2,A3⟩:=AT;simp only at A0 A1 A2 A3;have j1:(0:Int)≤(k:Int):=Int.natCast_nonneg _;have j2:(k:Int)<(n:Int):=by omega
   have EG:Tryz.prog.eqGuardType Tryz.prog.depth 66=false:=by kernel_rfl
   by_cases hd:(x0,x1,x2,x3)=wtD
   ·
    have HE:=HY hd;unfold wtD at hd;rw[Prod.mk.injEq,Prod.mk.injEq,Prod.mk.injEq] at hd;obtain⟨rfl,rfl,rfl,rfl⟩:=hd;have EQ:∀w:World,(Op.equalIn 10000 66 (deedV 4 0 0 0) (deedV 4 0 0 0)).run Tryz.prog w = .ok true w:=fun w=>eqDd 4 0 0 0 4 0 0 0 w
    clear HY HX;go_wp2_with fail
    go_quiet (fail)
    go_wp2;go_ret;refine⟨k,rfl,?_,((Keep.refl w).alloc _).trans (hK.grown (grown_draw wr _ none) (by simp))⟩;rw[HE.out];exact decide_eq_true j1
   ·
    have HE:=HX hd
    have EB:(4==x0&&(0==x1&&(0==x2&&0==x3)))=false:=by
     cases hq:(4==x0&&(0==x1&&(0==x2&&0==x3))) with
     |false=>rfl
     |true=>
      exfalso;apply hd;simp only[Bool.and_eq_true,beq_iff_eq] at hq;unfold wtD;rw[←hq.1,←hq.2.1,←hq.2.2.1,←hq.2.2.2]
    have EQ:∀w:World,(Op.equalIn 10000 66 (deedV 4 0 0 0) (deedV x0 x1 x2 x3)).run Tryz.prog w = .ok false w:=fun w=>by rw[eqDd 4 0 0 0 x0 x1 x2 x3 w,EB]
    clear HY HX hd EB;go_wp2_with fail
    go_quiet (fail)
    go_wp2;go_roundw;case rel=>exact⟨k+1,by omega,by go_num,HE,hK.grown (grown_draw wr _ none) (by simp)⟩
    case measure=>simp[intOf];omega
  ·
   obtain rfl:k=n:=by omega
   have HE:Hid ((List.range k).any (fun i=>f i==wtD)=false):=Lib.hid (by
    rw[List.any_eq_false];intro i hi
    simpa using HN.out i (List.mem_range.1 hi))
   clear HN;go_wp2;go_ret;exact⟨-1,rfl,by rw[HE.out];rfl,((Keep.refl w).alloc _).trans hK⟩
theorem dHas_any (w:World)(b off n cap:Nat)(f:Nat→Dd)(hb:b<w.heap.size)(hc:∀i,i<n→AtD w b (off+i*4) (f i))(hn:n≤1048576):
  Calls Tryz.prog 167 #[.slice (some ⟨b,off,none⟩) n cap,deedV 4 0 0 0] w fun e w'=>e = .returned (.bool ((List.range n).any (fun i=>f i==wtD)))∧Keep w w':=by
 have C:=dIndex_any (w.alloc (.cells #[.int .i64 4,.int .i64 0,.int .i64 0,.int .i64 0] 66)) b off n cap f (Nat.lt_of_lt_of_le hb ((Keep.refl w).alloc _).size) (fun i hi=>(hc i hi).keep hb ((Keep.refl w).alloc _)) hn;generalize (List.range n).any (fun i=>f i==wtD)=B at C ⊢;clear hc;go_enter Tryz.func167,Tryz.ntmps167
 go_wp2_with fail
 refine C.mono ?_;rintro e w1 ⟨r,rfl,hr,k1⟩;go_wp2;go_ret;exact⟨by rw[←hr];rfl,((Keep.refl w).alloc _).trans k1⟩
theorem waitsB_any (w:World)(v:Value)(dss:List (List Dd))(h:RdW w v dss)(i p q:Nat)(r:Bool)(pl vl cl i':Int)(r':Bool)(pl' vl' cl':Int)(hi:i<dss.length)(hp:p<q)(hq:q<(dss.getD i []).length)(hl:(dss.getD i []).length≤1048576):
  Calls Tryz.prog 166 #[v,eA i p r pl vl cl,eA i' q r' pl' vl' cl'] w fun e w'=>e = .returned (.bool (btwD (dss.getD i []) p q))∧Keep w w':=by
 obtain⟨a,c,rfl,h⟩:=h;rcases h with h|⟨b,o,rfl,hb,hc⟩
 · exfalso;rw[h] at hi;simp at hi
 obtain⟨u,e1,r1⟩:=hc i hi;clear hc;obtain⟨ds,hds⟩:∃ds,ds=dss.getD i []:=⟨_,rfl⟩;rw[←hds] at r1 hq hl ⊢;clear hds;obtain⟨ai,ci,rfl,r1⟩:=r1;rcases r1 with h|⟨b2,o2,rfl,hb2,hc2⟩
 · exfalso;rw[h] at hq;simp at hq
 have i1:(0:Int)≤(i:Int):=Int.natCast_nonneg _;have i2:(i:Int)<(dss.length:Int):=by omega
 have p1:(0:Int)≤(p:Int):=Int.natCast_nonneg _;have p2:(p:Int)≤(q:Int):=by omega
 have q1:(q:Int)≤(ds.length:Int):=by omega
 have q2:(q:Int)≤(ds.length:Int)+(ci:Int):=by omega
 have C:∀w1:World,Keep w w1→Calls Tryz.prog 167 #[.slice (if ds.length+ci=p then some ⟨b2,o2,none⟩ else some ⟨b2,o2+p*4,none⟩) (q-p) (ds.length+ci-p),deedV 4 0 0 0] w1 fun e w'=>e = .returned (.bool (btwD ds p q))∧Keep w1 w':=fun w1 k1=>by
  rw[if_neg (by omega)];refine dHas_any w1 b2 (o2+p*4) (q-p) _ (fun j=>ds.getD (p+j) zD) (Nat.lt_of_lt_of_le hb2 k1.size) (fun j hj=>?_) (by omega);have:=(hc2 (p+j) (by omega)).keep hb2 k1;rw[show o2+(p+j)*4=o2+p*4+j*4 by omega] at this;exact this
 generalize btwD ds p q=B at C ⊢;clear hc2;go_enter Tryz.func166,Tryz.ntmps166
 go_wp2_with fail
 go_region_held3 (fun w'=>w'.cell? ⟨b,o+i,none⟩=some (.slice (some ⟨b2,o2,none⟩) ds.length (ds.length+ci))∧w'.cell? ⟨w.heap.size,0,none⟩=some (.int .i64 i)∧w'.cell? ⟨w.heap.size,1,none⟩=some (.int .i64 p)∧w'.cell? ⟨w.heap.size+1,1,none⟩=some (.int .i64 q))
  (first|go_keep|(go_split_ands;refine⟨?_,?_,?_,?_⟩<;>(rw[kk.cell (by simp only[heap_drew,heap_size];omega)];assumption)))
  ((go_at_call 167;refine (C _ ?_).mono ?_;exact (((Keep.refl w).alloc _).alloc _).drew;rintro e wz ⟨rfl,kk⟩))
 all_goals
  go_wp2;go_ret;exact⟨rfl,((((Keep.refl w).alloc _).alloc _).drew).trans kk⟩
theorem box_two {w w1:World}{x0 x1:Int}{x2:Bool}{x3 x4 x5 y0 y1:Int}{y2:Bool}{y3 y4 y5:Int}{t t':TypeId}
  (k:Keep ((w.alloc (.cells #[.int .i64 x0,.int .i64 x1,.bool x2,.int .i64 x3,.int .i64 x4,.int .i64 x5] t)).alloc (.cells #[.int .i64 y0,.int .i64 y1,.bool y2,.int .i64 y3,.int .i64 y4,.int .i64 y5] t')) w1):
  (w1.cell? ⟨w.heap.size,0,none⟩=some (.int .i64 x0)∧w1.cell? ⟨w.heap.size,1,none⟩=some (.int .i64 x1)∧w1.cell? ⟨w.heap.size,2,none⟩=some (.bool x2)∧w1.cell? ⟨w.heap.size,3,none⟩=some (.int .i64 x3)∧w1.cell? ⟨w.heap.size,4,none⟩=some (.int .i64 x4)∧w1.cell? ⟨w.heap.size,5,none⟩=some (.int .i64 x5))∧(w1.cell? ⟨w.heap.size+1,0,none⟩=some (.int .i64 y0)∧w1.cell? ⟨w.heap.size+1,1,none⟩=some (.int .i64 y1)∧w1.cell? ⟨w.heap.size+1,2,none⟩=some (.bool y2)∧w1.cell? ⟨w.heap.size+1,3,none⟩=some (.int .i64 y3)∧w1.cell? ⟨w.heap.size+1,4,none⟩=some (.int .i64 y4)∧w1.cell? ⟨w.heap.size+1,5,none⟩=some (.int .i64 y5)):=by
 have h0:∀i:Nat,w1.cell? ⟨w.heap.size,i,none⟩=(#[Value.int .i64 x0,.int .i64 x1,.bool x2,.int .i64 x3,.int .i64 x4,.int .i64 x5])[i]?:=fun i=>by
  rw[k.cell (by simp only[heap_size];omega),(((Keep.refl (w.alloc _)).alloc _)).cell (by simp only[heap_size];omega)];exact box_cell (Keep.refl _) i
 have h1:∀i:Nat,w1.cell? ⟨w.heap.size+1,i,none⟩=(#[Value.int .i64 y0,.int .i64 y1,.bool y2,.int .i64 y3,.int .i64 y4,.int .i64 y5])[i]?:=fun i=>by
  have:=box_cell k i;rw[heap_size] at this;exact this
 exact⟨⟨h0 0,h0 1,h0 2,h0 3,h0 4,h0 5⟩,⟨h1 0,h1 1,h1 2,h1 3,h1 4,h1 5⟩⟩
theorem keeps_any (w:World)(v:Value)(dss:List (List Dd))(h:RdW w v dss)(hl:∀i,i<dss.length→(dss.getD i []).length≤1048576)(x0 x1:Int)(x2:Bool)(x3 x4 x5 y0 y1:Int)(y2:Bool)(y3 y4 y5:Int)
  (hk:x0=-1∨∃c p q:Nat,x0=(c:Int)∧x1=(p:Int)∧y0=(c:Int)∧y1=(q:Int)∧c<dss.length∧(p<q∨(p=q∧((dss.getD c []).getD p zD).1=3))∧q<(dss.getD c []).length):
  Calls Tryz.prog 160 #[v,eA x0 x1 x2 x3 x4 x5,eA y0 y1 y2 y3 y4 y5] w fun e w'=>e = .returned (.bool (keepE dss (x0,x1,x2,x3,x4,x5) (y0,y1,y2,y3,y4,y5)))∧Keep w w':=by
 rcases hk with rfl|⟨c,p,q,rfl,rfl,rfl,rfl,hc,hpq,hq⟩
 ·
  have HE:Hid (keepE dss (-1,x1,x2,x3,x4,x5) (y0,y1,y2,y3,y4,y5)=true):=Lib.hid (by unfold keepE;rfl);go_enter Tryz.func160,Tryz.ntmps160
  go_wp2;go_ret;exact⟨by rw[HE.out];rfl,((Keep.refl w).alloc _).alloc _⟩
 ·
  have cb:((c:Int) == -1)=false:=by simp
  have HK:Hid (keepE dss ((c:Int),(p:Int),x2,x3,x4,x5) ((c:Int),(q:Int),y2,y3,y4,y5)=(x2||(!y2||(onceD ((dss.getD c []).getD p zD)||(onceD ((dss.getD c []).getD q zD)||btwD (dss.getD c []) p q))))):=Lib.hid (by
   unfold keepE dOf;simp only[Int.toNat_natCast];rw[cb,Bool.false_or]
   simp only[Bool.or_assoc])
  cases x2
  ·
   cases y2
   ·
    have HE:Hid (keepE dss ((c:Int),(p:Int),false,x3,x4,x5) ((c:Int),(q:Int),false,y3,y4,y5)=true):=Lib.hid (by rw[HK.out];rfl);clear HK;go_enter Tryz.func160,Tryz.ntmps160
    go_wp2;go_ret;exact⟨by rw[HE.out];rfl,((Keep.refl w).alloc _).alloc _⟩
   ·
    have D1:=fun (w1:World) (k1:Keep w w1) (r:Bool) (a b e:Int)=>deedOf_any w1 v dss (h.keep k1) c p r a b e hc (by omega)
    have D2:=fun (w1:World) (k1:Keep w w1) (r:Bool) (a b e:Int)=>deedOf_any w1 v dss (h.keep k1) c q r a b e hc hq
    have W:=fun (w1:World) (k1:Keep w w1) (hp:p<q)=>waitsB_any w1 v dss (h.keep k1) c p q false x3 x4 x5 c true y3 y4 y5 hc hp hq (hl c hc)
    clear h hl;generalize btwD (dss.getD c []) p q=B at HK W
    have hp3:onceD ((dss.getD c []).getD p zD)=false→p<q:=fun hf=>by
     rcases hpq with h1|⟨_,h2⟩
     · exact h1
     ·
      unfold onceD at hf;rw[h2] at hf;simp at hf
    clear hpq;obtain⟨d1,hd1⟩:∃d,d=(dss.getD c []).getD p zD:=⟨_,rfl⟩;obtain⟨d2,hd2⟩:∃d,d=(dss.getD c []).getD q zD:=⟨_,rfl⟩;rw[←hd1] at D1 HK hp3;rw[←hd2] at D2 HK;clear hd1 hd2;obtain⟨k1,p1,v1,g1⟩:=d1;obtain⟨k2,p2,v2,g2⟩:=d2;have A1:=fun w1=>isAtOnce_any w1 k1 p1 v1 g1
    have A2:=fun w1=>isAtOnce_any w1 k2 p2 v2 g2
    generalize onceD (k1,p1,v1,g1)=o1 at HK A1 hp3;generalize onceD (k2,p2,v2,g2)=o2 at HK A2;go_enter Tryz.func160,Tryz.ntmps160
    go_wp2_with fail
    refine (D1 _ (((Keep.refl w).alloc _).alloc _) _ _ _ _).mono ?_;rintro e w1 ⟨rfl,k1⟩;go_wp2_with fail
    refine (A1 _).mono ?_;rintro e w2 ⟨rfl,k2⟩;have B2:=k1.trans k2;have K2:=(((Keep.refl w).alloc _).alloc _).trans B2;obtain⟨⟨a0,a1,a2,a3,a4,a5⟩,⟨b0,b1,b2,b3,b4,b5⟩⟩:=box_two B2;clear k1 k2;cases o1
    ·
     have hp:=hp3 rfl;go_wp2_with fail
     refine (D2 _ K2 _ _ _ _).mono ?_;rintro e w3 ⟨rfl,k3⟩;clear a0 a1 a2 a3 a4 a5 b0 b1 b2 b3 b4 b5;go_wp2_with fail
     refine (A2 _).mono ?_;rintro e w4 ⟨rfl,k4⟩;have B4:=(B2.trans k3).trans k4;have K4:=(K2.trans k3).trans k4;obtain⟨⟨a0,a1,a2,a3,a4,a5⟩,⟨b0,b1,b2,b3,b4,b5⟩⟩:=box_two B4;clear k3 k4 B2 K2;cases o2
     ·
      go_wp2_with fail
      refine (W _ K4 hp).mono ?_;rintro e w5 ⟨rfl,k5⟩;go_wp2;go_ret;exact⟨by rw[HK.out];rfl,K4.trans k5⟩
     ·
      go_wp2;go_ret;exact⟨by rw[HK.out];rfl,K4⟩
    ·
     go_wp2;go_ret;exact⟨by rw[HK.out];rfl,K2⟩
  ·
   have HE:Hid (keepE dss ((c:Int),(p:Int),true,x3,x4,x5) ((c:Int),(q:Int),y2,y3,y4,y5)=true):=Lib.hid (by rw[HK.out];rfl);clear HK;go_enter Tryz.func160,Tryz.ntmps160
   go_wp2;go_ret;exact⟨by rw[HE.out];rfl,((Keep.refl w).alloc _).alloc _⟩
theorem pass_keep (w:World)(g:Nat)(v:Value)(dss:List (List Dd))(h:RdW w v dss)(hl:∀i,i<dss.length→(dss.getD i []).length≤1048576)(x0 x1:Int)(x2:Bool)(x3 x4 x5 y0 y1:Int)(y2:Bool)(y3 y4 y5:Int)(hk:x0=-1∨∃c p q:Nat,x0=(c:Int)∧x1=(p:Int)∧y0=(c:Int)∧y1=(q:Int)∧c<dss.length∧(p<q∨(p=q∧((dss.getD c []).getD p zD).1=3))∧q<(dss.getD c []).length)(hg:w.cell? ⟨g,0,none⟩=some (.func (Fn.func 160) #[v] #[])):
  Calls Tryz.prog 138 #[eA x0 x1 x2 x3 x4 x5,eA y0 y1 y2 y3 y4 y5,.slice (some ⟨g,0,none⟩) 1 1] w fun e w'=>e = .returned (.bool (keepE dss (x0,x1,x2,x3,x4,x5) (y0,y1,y2,y3,y4,y5)))∧Keep w w':=by
 have hgl:=block_lt hg;have C:=fun (w1:World) (k1:Keep w w1)=>keeps_any w1 v dss (h.keep k1) hl x0 x1 x2 x3 x4 x5 y0 y1 y2 y3 y4 y5 hk
 generalize keepE dss (x0,x1,x2,x3,x4,x5) (y0,y1,y2,y3,y4,y5)=B at C ⊢;have C2:=C _ (((Keep.refl w).alloc (.cells #[.int .i64 x0,.int .i64 x1,.bool x2,.int .i64 x3,.int .i64 x4,.int .i64 x5] 64)).alloc (.cells #[.int .i64 y0,.int .i64 y1,.bool y2,.int .i64 y3,.int .i64 y4,.int .i64 y5] 64));clear C;go_enter Tryz.func138,Tryz.ntmps138
 go_wp2_with fail
 refine wp_loop_rounds 2 ?_;rw[rounds_succ];go_wp2_with fail
 refine C2.mono ?_;rintro e w1 ⟨rfl,k1⟩;have K:=(((Keep.refl w).alloc _).alloc _).trans k1;cases B
 ·
  go_wp2;go_ret;exact⟨rfl,K⟩
 ·
  go_wp2;rw[rounds_succ];go_wp2;go_ret;exact⟨rfl,K⟩
theorem col_kep (dss:List (List Dd)):colAll (tQ (keepE dss) (eventsB dss)) (eventsB dss).length (eventsB dss).length=kepL dss (eventsB dss):=by
 cases hb:workB dss with
 |false=>rw[eventsB,hb];rfl
 |true=>rw[eventsB,if_pos hb,←kep_same hb]
theorem kep_pair {dss:List (List Dd)}{i j:Nat}(hij:i<j)(hj:j<(eventsB dss).length){x0 x1:Int}{x2:Bool}{x3 x4 x5 y0 y1:Int}{y2:Bool}{y3 y4 y5:Int}
  (hx:(eventsB dss).getD i zE=(x0,x1,x2,x3,x4,x5)) (hy:(eventsB dss).getD j zE=(y0,y1,y2,y3,y4,y5)) (hi:isbE (x0,x1,x2,x3,x4,x5) (y0,y1,y2,y3,y4,y5)=true):
  x0=-1∨∃c p q:Nat,x0=(c:Int)∧x1=(p:Int)∧y0=(c:Int)∧y1=(q:Int)∧c<dss.length∧(p<q∨(p=q∧((dss.getD c []).getD p zD).1=3))∧q<(dss.getD c []).length:=by
 cases hb:workB dss with
 |false=>rw[eventsB,hb] at hj;simp at hj
 |true=>
  rw[eventsB,if_pos hb] at hj hx hy;by_cases i3:i<3
  ·
   have:=(evs_who hb (show i<_ by omega)).1 i3;rw[hx] at this;exact .inl this
  ·
   have h0:=(evs_who hb (show i<_ by omega)).2 (by omega);rw[hx] at h0
   have hc:((evsW dss dss.length).getD i zE).1=((evsW dss dss.length).getD j zE).1:=by
    rw[hx,hy];unfold isbE at hi;simp only[Bool.and_eq_true,Bool.or_eq_true,beq_iff_eq] at hi h0;rcases hi.2 with h|h
    · omega
    · exact h
   obtain⟨c,p,q,h1,h2,h3,h4,h5,h6,_⟩:=evs_two hb (by omega) hij hj hc;rw[hc,hy] at h1;rw[hx] at h2;rw[hx,hy] at hc;rw[hy] at h3;simp only at h1 h2 h3 hc;exact .inr ⟨c,p,q,by omega,h2,h1,h3,h4,h5,h6⟩
theorem implKept_any (w:World)(v:Value)(dss:List (List Dd))(h:RdW w v dss)(hx:dss.length≤1048576)(hm:∀i,i<dss.length→(dss.getD i []).length≤1048576):
  Calls Tryz.prog 158 #[v] w fun e w'=>∃v',e = .returned v'∧Row w' w.heap.size v' (kepL dss (eventsB dss))∧Keep w w':=by
 have C:=fun (w0:World) (k0:Keep w w0) (g:Nat) (hg:w0.cell? ⟨g,0,none⟩=some (.func (Fn.func 160) #[v] #[]))=>
  linesOf_any w0 v (.slice (some ⟨g,0,none⟩) 1 1) dss (keepE dss) (h.keep k0) hx hm (fun i j hij hj x0 x1 x2 x3 x4 x5 y0 y1 y2 y3 y4 y5 ex ey hi w1 k1=>pass_keep w1 g v dss (h.keep (k0.trans k1)) hm x0 x1 x2 x3 x4 x5 y0 y1 y2 y3 y4 y5 (kep_pair hij hj ex ey hi) ((k1.cell (block_lt hg)).trans hg))
 rw[col_kep] at C;go_enter Tryz.func158,Tryz.ntmps158
 go_wp2_with fail
 refine (C _ ((Keep.refl w).alloc _) _ ?_).mono ?_
 · simp
 rintro e w1 ⟨v1,rfl,r1,k1⟩;go_wp2;go_ret;exact⟨_,rfl,r1.base_le (by rw[heap_size];omega),((Keep.refl w).alloc _).trans k1⟩
theorem fw_web (dss:List (List Dd))(f:List Int):Web (fwB dss f).length (fwB dss f)∧(fwB dss f).length≤(eventsB dss).length:=by
 cases h:sourceB dss f with
 |false=>rw[(fo_none h).1];exact⟨⟨Nat.zero_le _,rfl,fun i hi=>absurd hi (Nat.not_lt_zero i)⟩,Nat.zero_le _⟩
 |true=>
  have hbs:=h;rw[sourceB,Bool.and_eq_true] at hbs;have hx:=eventsB_12 dss;obtain⟨sl,su⟩:=src_use hx hbs.2;have wf:=fw_line (f:=f) hx (idxB rdE (eventsB dss)).length (fun i hi=>rd_in hx hi) (fun i hi=>(su i hi).1);have ef:fwB dss f=fwL (eventsB dss) f:=by rw[fwB,if_pos h]
  have e1:(fwL (eventsB dss) f).length=(eventsB dss).length:=wf.1.2.1;rw[ef,e1];exact⟨wf.1,Nat.le_refl _⟩
theorem fo_all (dss:List (List Dd))(f:List Int):drwK (fwB dss f).length (othL (eventsB dss) (fwB dss f)) (othL (eventsB dss) (fwB dss f)).length=owB dss f:=by
 cases h:sourceB dss f with
 |false=>rw[(fo_none h).1,(fo_none h).2];rfl
 |true=>rw[(ow_cell h).2.1];exact fo_same h
theorem drwK_hit (n:Nat)(l:List (Int×Int))(k i j:Nat)(hk:k<l.length)(h:l.getD k (0,0)=((i:Int),(j:Int))):drwK n l (k+1)=(drwK n l k).set i (gAdd ((drwK n l k).getD i 0) (j:Int)):=by
 have e:=pr_get l k hk;rw[List.getD_eq_getElem?_getD,List.getElem?_eq_getElem hk] at h;rw[show l[k]=((i:Int),(j:Int)) from h] at e;have e1:=congrArg Prod.fst e;have e2:=congrArg Prod.snd e;simp only at e1 e2;unfold drwK;rw[fwK,e1,e2,Int.toNat_natCast]
theorem implFromOthers_any (w:World)(v vf:Value)(dss:List (List Dd))(f:List Int)(h:RdW w v dss)(hf:Rd w vf f)(hx:dss.length≤1048576)(hm:∀i,i<dss.length→(dss.getD i []).length≤1048576)(hfl:f.length≤1048576):
  Calls Tryz.prog 159 #[v,vf] w fun e w'=>∃v',e = .returned v'∧Row w' w.heap.size v' (owB dss f)∧Keep w w':=by
 have C1:=implFromWeb_any w v vf dss f h hf hx hm hfl;have C2:=fun (W:World) (k:Keep w W)=>implEventsOf_any W v dss (h.keep k) hx hm
 have HE:=Lib.hid (fo_all dss f);obtain⟨HW0,hle⟩:=fw_web dss f;have HW:=Lib.hid HW0;have h12:=HW0.1;have e12:=eventsB_12 dss
 have HIN:Hid (∀x∈linL (fwB dss f),∃i j:Nat,x=((i:Int),(j:Int))∧i<(fwB dss f).length∧j<(fwB dss f).length):=Lib.hid (fun x hx=>by
  obtain⟨a,j,e,ha,hj,-⟩:=lin_in HW0 hx
  exact⟨a,j,e,ha,hj⟩)
 clear HW0 h hx hm hfl;obtain⟨af,cf,rfl,-⟩:=hf;generalize owB dss f=OW at *;generalize fwB dss f=zs at *;generalize eventsB dss=es at *;go_enter Tryz.func159,Tryz.ntmps159
 go_wp2_with fail
 refine C1.mono ?_;rintro e w1 ⟨v1,rfl,o1,k1⟩;have s1:=k1.size;clear C1;go_wp2_with fail
 refine (C2 _ k1).mono ?_;rintro e w2 ⟨v2,rfl,a2,k2⟩;have s2:=k2.size;clear C2;have re:=a2.rd;have rz:=o1.rd.keep k2;have K2:=k1.trans k2;clear a2 o1 k1 k2;obtain⟨a1,c1,rfl,-⟩:=id rz;obtain⟨ae,ce,rfl,-⟩:=id re;have k3:Keep w2 (w2.alloc (.cells #[.slice ae es.length (es.length+ce)] 44)):=(Keep.refl w2).alloc _;have b3:(w2.alloc (.cells #[.slice ae es.length (es.length+ce)] 44)).cell? ⟨w2.heap.size,0,none⟩=some (.slice ae es.length (es.length+ce)):=box_cell (Keep.refl _) 0;have K3:=K2.trans k3;have re3:=re.keep k3;have rz3:=rz.keep k3;clear re rz K2;go_wp2_with fail
 refine (linesIn_any _ _ _ rz3 h12).mono ?_;rintro e w4 ⟨v4,rfl,o4,k4⟩;have b4:=(k4.cell (by simp)).trans b3;have z4:=box_size k4;have s4:=k4.size;have K4:=K3.trans k4
 have hl4:(linL zs).length≤144:=by
  have:=lin_len zs zs.length;unfold linL;omega
 have HO:Hid (othL es zs=(linL zs).filter (othP es)):=Lib.hid rfl;have re4:=re3.keep k4;have rz4:=rz3.keep k4;have rl4:=AppLn.rd o4;clear k3 k4 b3 K3 re3 rz3 o4;obtain⟨a4,c4,rfl,-⟩:=id rl4
 have C5:=only_any w4 _ _ _ _ rl4 hl4 re4 w2.heap.size b4 z4 (fun x hx=>by
  obtain⟨i,j,e,hi,hj⟩:=HIN.out x hx
  exact⟨i,j,e,by omega,by omega⟩)
 go_wp2_with fail
 refine C5.mono ?_;rintro e w5 ⟨v5,rfl,o5,k5⟩;rw[←HO.out] at o5;have HSUB:Hid (∀x∈othL es zs,∃i j:Nat,x=((i:Int),(j:Int))∧i<zs.length∧j<zs.length):=Lib.hid (fun x hx=>HIN.out x (oth_sub es zs x hx));have HD:Hid (∀k,k≤(othL es zs).length→(drwK zs.length (othL es zs) k).length=zs.length):=Lib.hid (fun k hk=>(drw_web HW.out (oth_sub es zs) k hk).1.2.1)
 have hl5:(othL es zs).length≤144:=by
  have:=List.length_filter_le (othP es) (linL zs);rw[HO.out];omega
 have K5:=K4.trans k5;have s5:=k5.size;have b5:w.heap.size≤w5.heap.size:=K5.size;have rl5:=AppLn.rd o5;clear C5 HO HIN HW re4 rz4 rl4 b4 k5 o5 K4 z4;generalize othL es zs=L at *;obtain⟨a5,c5,rfl,-⟩:=id rl5;go_wp2_with fail
 refine (blank_any _ _ h12).mono ?_;rintro e w6 ⟨rfl,rb,k6⟩;have K6:=K5.trans k6;have rl6:=rl5.keep k6;have s6:=k6.size;have hbw:=rb.lt;have hb:=b5;have rb6:RowAt w6 w5.heap.size (drwK zs.length L 0):=rb
 have HB:Hid (∀b off,a5=some ⟨b,off,none⟩→L=[]∨b<w5.heap.size):=Lib.hid (fun b off e=>by
  obtain⟨a',c',he',hR'⟩:=id rl5;simp only[Value.slice.injEq] at he';obtain⟨rfl,-,-⟩:=he';rcases hR' with h0|⟨b',o',e2,hb',-⟩
  · exact .inl h0
  ·
   rw[e] at e2;simp only[Option.some.injEq,Addr.mk.injEq,and_true] at e2;obtain⟨rfl,rfl⟩:=e2
   exact .inr hb')
 clear rb K5 rl5 k6;go_wp2;go_loopw [25] (fun i wr=>∃k:Nat,k≤L.length∧i = .int .i64 k∧RowAt wr w5.heap.size (drwK zs.length L k)∧RdLn wr (.slice a5 L.length (L.length+c5)) L∧Keep w wr) (fun i _=>L.length-(intOf i).toNat)
 case atStart=>exact⟨0,Nat.zero_le _,rfl,rb6,rl6,K6⟩
 case round=>
  obtain⟨k,hk,rfl,hr,hR,hK⟩:=hrel;clear rb6 rl6 K6 hbw;by_cases hlt:k<L.length
  ·
   obtain⟨a',c',he',hR'⟩:=id hR;simp only[Value.slice.injEq,true_and] at he';obtain⟨rfl,hc'⟩:=he';obtain rfl:c5=c':=by omega
   rcases hR' with h0|⟨b,off,rfl,hb',hc⟩
   · exfalso;rw[h0] at hlt;simp at hlt
   have hmem:L.getD k (0,0)∈L:=by
    rw[List.getD_eq_getElem?_getD,List.getElem?_eq_getElem hlt];exact List.getElem_mem hlt
   obtain⟨i,j,ex,hi,hj⟩:=HSUB.out _ hmem;have HK:Hid (drwK zs.length L (k+1)=(drwK zs.length L k).set i (gAdd ((drwK zs.length L k).getD i 0) (j:Int))):=Lib.hid (drwK_hit zs.length L k i j hlt ex);have AT:=hc k _ (ln_get hlt);rw[ex] at AT;obtain⟨d1,d2⟩:=atLn AT
   have hbl:b<w5.heap.size:=by
    rcases HB.out b off rfl with h0|h0
    · exfalso;rw[h0] at hlt;simp at hlt
    · exact h0
   have hdl:=HD.out k hk;clear AT hc ex hmem;have i1:(0:Int)≤(k:Int):=Int.natCast_nonneg _;have i2:(k:Int)<(L.length:Int):=by omega
   have K7:Keep wr (wr.alloc (lnO i j)):=(Keep.refl wr).alloc _;have CL:=line_any (wr.alloc (lnO i j)) w5.heap.size zs.length zs.length (drwK zs.length L k) i (j:Int) (hr.keep K7) hdl hi;rw[←HK.out] at CL;have hR7:=hR.keep K7;have hK7:=hK.trans K7;clear hdl hK hR hr;go_wp2_with fail
   refine CL.mono ?_;rintro e w8 ⟨rfl,hr8,hg8⟩
   have hR8:RdLn w8 (.slice (some ⟨b,off,none⟩) L.length (L.length+c5)) L:=by
    obtain⟨a',c',he',hR'⟩:=hR7;simp only[Value.slice.injEq,true_and] at he';obtain⟨rfl,hc'⟩:=he';refine⟨_,c5,rfl,?_⟩;rcases hR' with h0|⟨b',o',e2,hb2,hc2⟩
    · exact .inl h0
    ·
     simp only[Option.some.injEq,Addr.mk.injEq,and_true] at e2;obtain⟨rfl,rfl⟩:=e2;exact .inr ⟨b,off,rfl,Nat.lt_of_lt_of_le hb2 hg8.size,fun q x hq=>(hc2 q x hq).same (hg8.block b hb2 (fun e=>by have:=Option.some.inj e;omega))⟩
   have hK8:Keep w w8:=hK7.grown hg8 (by simp;omega);clear CL hR7 hK7 K7 hg8 d1 d2;go_wp2;go_roundw;case rel=>exact⟨k+1,by omega,by go_num,hr8,hR8,hK8⟩
   case measure=>simp[intOf];omega
  ·
   obtain rfl:k=L.length:=by omega
   have hdl:=HD.out L.length (Nat.le_refl _);go_wp2;go_ret;refine⟨_,rfl,?_,hK⟩;rw[←HE.out];exact .inr ⟨w5.heap.size,zs.length,by rw[hdl];rfl,hb,hr⟩
theorem sw_chain (dss:List (List Dd))(f rows:List Int):chnL (kepL dss (eventsB dss)) (owB dss f) (rwB dss rows) (agB dss f rows)=swB dss f rows:=by
 cases hb:taleB dss f rows with
 |false=>
  rw[swB,agB,hb];exact mix_none _ _
 |true=>
  obtain⟨hw,hs,hr⟩:=tale_use hb;have h12:=(events_law hw).1;have e1:eventsB dss=evsW dss dss.length:=by rw[eventsB,if_pos hw]
  rw[←e1] at h12;have W:=webs_of h12 hs hr;have hb2:=hb;unfold taleB at hb2;rw[Bool.and_eq_true] at hb2;rw[swB,agB,if_pos hb,if_pos hb,owB,if_pos hb2.1,rwB,if_pos hb2.2];exact web_chn (kep_line h12).1 (ow_line W).1 W.rw' W.ag
theorem slowAhead_any (w:World)(v:Value)(dss:List (List Dd))(h:RdW w v dss)(hx:dss.length≤1048576)(hm:∀i,i<dss.length→(dss.getD i []).length≤1048576):
  Calls Tryz.prog 156 #[.agg #[],v] w fun e w'=>∃v',e = .returned v'∧Row w' w.heap.size v' (kepL dss (eventsB dss))∧Keep w w':=by
 go_enter Tryz.func156,Tryz.ntmps156
 go_wp2_with fail
 refine (implKept_any _ v dss (h.keep ((Keep.refl w).alloc (.cells #[] 51))) hx hm).mono ?_;rintro e w1 ⟨v',rfl,o,k⟩;have K:=(((Keep.refl w).alloc (.cells #[] 51))).trans k;have O:=o.base_le (((Keep.refl w).alloc (.cells #[] 51))).size;clear o k;obtain⟨a,c,rfl,-⟩:=id O.rd;go_wp2;go_ret;exact⟨_,rfl,O,K⟩
theorem slowOnBoard_any (w:World)(v vF:Value)(dss:List (List Dd))(f:List Int)(h:RdW w v dss)(hf:Rd w vF f)(hx:dss.length≤1048576)(hm:∀i,i<dss.length→(dss.getD i []).length≤1048576)(hfl:f.length≤1048576):
  Calls Tryz.prog 157 #[.agg #[],v,vF] w fun e w'=>∃v',e = .returned v'∧Row w' w.heap.size v' (owB dss f)∧Keep w w':=by
 go_enter Tryz.func157,Tryz.ntmps157
 go_wp2_with fail
 refine (implFromOthers_any _ v vF dss f (h.keep ((Keep.refl w).alloc (.cells #[] 51))) (hf.keep ((Keep.refl w).alloc (.cells #[] 51))) hx hm hfl).mono ?_;rintro e w1 ⟨v',rfl,o,k⟩;have K:=(((Keep.refl w).alloc (.cells #[] 51))).trans k;have O:=o.base_le (((Keep.refl w).alloc (.cells #[] 51))).size;clear o k;obtain⟨a,c,rfl,-⟩:=id O.rd;go_wp2;go_ret;exact⟨_,rfl,O,K⟩
@[go_sem] theorem slowHas (v:Value) (w:World):(Instr.typeAssert (.iface 51 v) 70 103 true).run Tryz.prog w = .ok (.tuple #[.iface 51 v,.bool true]) w:=run_typeAssert_hasB Tryz.underlying103 (by kernel_rfl) v 70 w
theorem slowIn_any (w:World)(v vF:Value)(dss:List (List Dd))(f:List Int)(h:RdW w v dss)(hf:Rd w vF f)(hx:dss.length≤1048576)(hm:∀i,i<dss.length→(dss.getD i []).length≤1048576)(hfl:f.length≤1048576):
  Calls Tryz.prog 55 #[.iface 51 (.agg #[]),v,vF] w fun e w'=>∃v',e = .returned v'∧Row w' w.heap.size v' (owB dss f)∧Keep w w':=by
 go_enter Tryz.func55,Tryz.ntmps55
 go_wp2_with fail
 refine (slowOnBoard_any w v vF dss f h hf hx hm hfl).mono ?_;rintro e w1 ⟨v',rfl,o,k⟩;have K:=((Keep.refl w)).trans k;have O:=o.base_le ((Keep.refl w)).size;clear o k;obtain⟨a,c,rfl,-⟩:=id O.rd;go_wp2;go_ret;exact⟨_,rfl,O,K⟩
theorem slowWeb_any (w:World)(v vF vR:Value)(dss:List (List Dd))(f rows:List Int)(h:RdW w v dss)(hf:Rd w vF f)(hr:Rd w vR rows)(hcap:rows.length≤capZ vR)(hx:dss.length≤1048576)(hm:∀i,i<dss.length→(dss.getD i []).length≤1048576)(hfl:f.length≤1048576)(hrl:rows.length≤1048576):
  Calls Tryz.prog 33 #[.iface 51 (.agg #[]),v,.agg #[vF,vR]] w fun e w'=>∃v',e = .returned v'∧Row w' w.heap.size v' (swB dss f rows)∧Keep w w':=by
 have C1:=Lib.hid (fun (W:World) (kW:Keep w W)=>slowAhead_any W v dss (h.keep kW) hx hm);have C2:=Lib.hid (fun (W:World) (kW:Keep w W)=>slowIn_any W v vF dss f (h.keep kW) (hf.keep kW) hx hm hfl);have C3:=Lib.hid (fun (W:World) (kW:Keep w W)=>implRowWeb_any W v vR dss rows (h.keep kW) (hr.keep kW) hcap hx hm hrl);have C4:=Lib.hid (fun (W:World) (kW:Keep w W)=>implAgainstWeb_any W v vF vR dss f rows (h.keep kW) (hf.keep kW) (hr.keep kW) hcap hx hm hfl hrl);have HE:=Lib.hid (sw_chain dss f rows)
 have lA:(kepL dss (eventsB dss)).length≤1048576:=by
  have h9:=eventsB_len9 dss;have:=(kep_line (dss:=dss) (es:=eventsB dss) (by omega)).1.2.1;omega
 have lF:(owB dss f).length≤1048576:=by have:=owB_len dss f;omega
 have lR:(rwB dss rows).length≤1048576:=by have:=rwB_len dss rows;omega
 have lG:(agB dss f rows).length≤1048576:=by have:=agB_len dss f rows;omega
 generalize swB dss f rows=L at *;generalize kepL dss (eventsB dss)=L1 at *;generalize owB dss f=L2 at *;generalize rwB dss rows=L3 at *;generalize agB dss f rows=L4 at *;clear h hcap hx hm hfl hrl;obtain⟨aF,cF,rfl,-⟩:=hf;obtain⟨aR,cR,rfl,-⟩:=hr;go_enter Tryz.func33,Tryz.ntmps33
 have b0:(w.alloc (.cells #[.slice aF f.length cF,.slice aR rows.length cR] 31)).cell? ⟨w.heap.size,0,none⟩=some (.slice aF f.length cF):=box_cell (Keep.refl _) 0;have b1:(w.alloc (.cells #[.slice aF f.length cF,.slice aR rows.length cR] 31)).cell? ⟨w.heap.size,1,none⟩=some (.slice aR rows.length cR):=box_cell (Keep.refl _) 1;have K0:Keep w (w.alloc (.cells #[.slice aF f.length cF,.slice aR rows.length cR] 31)).drew:=((Keep.refl w).alloc _).drew;have z0:w.heap.size<(w.alloc (.cells #[.slice aF f.length cF,.slice aR rows.length cR] 31)).drew.heap.size:=by simp
 go_wp2_with fail
 go_cut [7] from 8 (fun s wx=>∃u1 u2 u3 u4:Value,∃w9:World,s = .slice (some ⟨w9.heap.size,0,none⟩) 4 4∧wx=w9.alloc (.cells #[u1,u2,u3,u4] 23)∧Rd w9 u1 L1∧Rd w9 u2 L2∧Rd w9 u3 L3∧Rd w9 u4 L4∧Keep w w9)
 case first=>
  go_region_held3 (fun w'=>w'.cell? ⟨w.heap.size,0,none⟩=some (.slice aF f.length cF)∧w'.cell? ⟨w.heap.size,1,none⟩=some (.slice aR rows.length cR))
   (first|go_keep|(go_split_ands;refine⟨?_,?_⟩<;>(rw[kk.cell (by assumption)];assumption)))
   ((first
    | (go_at_call 156;refine (C1.out _ K0).mono ?_;rintro e w1 ⟨v1,rfl,o1,kk⟩;have z1:w.heap.size<w1.heap.size:=Nat.lt_of_lt_of_le z0 kk.size;have K1:=K0.trans kk;have r1:=o1.rd;clear o1;obtain⟨a1,c1,rfl,-⟩:=id r1)
    | (go_at_call 55;refine (C2.out _ K1).mono ?_;clear kk;rintro e w2 ⟨v2,rfl,o2,kk⟩;have z2:w.heap.size<w2.heap.size:=Nat.lt_of_lt_of_le z1 kk.size;have K2:=K1.trans kk;have r2:=o2.rd;replace r1:=r1.keep kk;clear o2;obtain⟨a2,c2,rfl,-⟩:=id r2)
    | (go_at_call 56;refine (C3.out _ K2).mono ?_;clear kk;rintro e w3 ⟨v3,rfl,o3,kk⟩;have z3:w.heap.size<w3.heap.size:=Nat.lt_of_lt_of_le z2 kk.size;have K3:=K2.trans kk;have r3:=o3.rd;replace r1:=r1.keep kk;replace r2:=r2.keep kk;clear o3;obtain⟨a3,c3,rfl,-⟩:=id r3)
    | (go_at_call 57;refine (C4.out _ K3).mono ?_;clear kk;rintro e w4 ⟨v4,rfl,o4,kk⟩;have z4:w.heap.size<w4.heap.size:=Nat.lt_of_lt_of_le z3 kk.size;have K4:=K3.trans kk;have r4:=o4.rd;replace r1:=r1.keep kk;replace r2:=r2.keep kk;replace r3:=r3.keep kk;clear o4;obtain⟨a4,c4,rfl,-⟩:=id r4)))
  all_goals
   go_wp2;go_meet;case rel=>exact⟨_,_,_,_,w4,rfl,rfl,r1,r2,r3,r4,K4⟩
 case rest=>
  obtain⟨u1,u2,u3,u4,w9,rfl,rfl,r1,r2,r3,r4,K9⟩:=hcut;have k9:Keep w9 (w9.alloc (.cells #[u1,u2,u3,u4] 23)):=(Keep.refl w9).alloc _;have C:=toOne_four _ w9.heap.size u1 u2 u3 u4 L1 L2 L3 L4 (heap_alloc_new w9 _) (r1.keep k9) (r2.keep k9) (r3.keep k9) (r4.keep k9) lA lF lR lG;have b9:w.heap.size≤(w9.alloc (.cells #[u1,u2,u3,u4] 23)).heap.size:=(K9.trans k9).size;rw[HE.out] at C;go_wp2_with fail
  refine C.mono ?_;rintro e wa ⟨va,rfl,oa,ka⟩;have KA:=(K9.trans k9).trans ka;have OA:=oa.base_le b9;clear oa ka C;obtain⟨aa,ca,rfl,-⟩:=id OA.rd;go_wp2;go_ret;exact⟨_,rfl,OA,KA⟩
theorem slow_all (dss:List (List Dd))(f rows:List Int):slowB dss f rows=(eachB dss f rows&&!roundB (liftL (swB dss f rows) (clsB (eventsB dss)))):=by
 cases h:taleB dss f rows with
 |true=>rw[slowB,eachB,swB,h,if_pos rfl];rfl
 |false=>rw[slowB,eachB,h];rfl
theorem slowTold_any (w:World)(v vF vR:Value)(dss:List (List Dd))(f rows:List Int)(h:RdW w v dss)(hf:Rd w vF f)(hr:Rd w vR rows)(hcap:rows.length≤capZ vR)(hx:dss.length≤1048576)(hm:∀i,i<dss.length→(dss.getD i []).length≤1048576)(hfl:f.length≤1048576)(hrl:rows.length≤1048576):
  Calls Tryz.prog 30 #[.iface 51 (.agg #[]),v,.agg #[vF,vR]] w fun e w'=>e = .returned (.bool (slowB dss f rows))∧Keep w w':=by
 have C:=fun (W:World) (kW:Keep w W)=>implEachOk_any W v vF vR dss f rows (h.keep kW) (hf.keep kW) (hr.keep kW) hcap hx hm hfl hrl
 have CS:=fun (W:World) (kW:Keep w W)=>slowWeb_any W v vF vR dss f rows (h.keep kW) (hf.keep kW) (hr.keep kW) hcap hx hm hfl hrl
 have CE:=fun (W:World) (kW:Keep w W)=>implEventsOf_any W v dss (h.keep kW) hx hm
 have lS:(swB dss f rows).length≤1048576:=by have:=swB_len dss f rows;omega
 have lE:(eventsB dss).length≤1048576:=by have:=eventsB_len9 dss;omega
 have lC:(clsB (eventsB dss)).length≤1048576:=by have:=clsB_len (eventsB dss);omega
 have lL:(liftL (swB dss f rows) (clsB (eventsB dss))).length≤1048576:=by have:=liftL_len (swB dss f rows) (clsB (eventsB dss));omega
 have HE:=Lib.hid (slow_all dss f rows);clear h hcap hx hm hfl hrl;obtain⟨aF,cF,rfl,-⟩:=hf;obtain⟨aR,cR,rfl,-⟩:=hr;generalize slowB dss f rows=T at *;cases hb:eachB dss f rows
 ·
  rw[hb] at C HE;clear CS CE lS lE lC lL hb;go_enter Tryz.func30,Tryz.ntmps30
  go_wp2_with fail
  refine (C _ ((Keep.refl w).alloc _)).mono ?_;rintro e w1 ⟨rfl,k1⟩;have K1:=((Keep.refl w).alloc _).trans k1;go_wp2;go_ret;exact⟨ret_bool (by rw[HE.out];rfl),K1⟩
 ·
  rw[hb] at C HE;clear hb;generalize swB dss f rows=L at *;generalize eventsB dss=es at *;go_enter Tryz.func30,Tryz.ntmps30
  go_wp2_with fail
  refine (C _ ((Keep.refl w).alloc _)).mono ?_;rintro e w1 ⟨rfl,k1⟩;have K1:=((Keep.refl w).alloc _).trans k1;have b0:=box_cell k1 0;have b1:=box_cell k1 1;simp at b0 b1;clear k1 C;go_wp2_with fail
  refine (CS _ K1).mono ?_;rintro e w2 ⟨v2,rfl,o2,k2⟩;have K2:=K1.trans k2;have r2:=o2.rd;clear CS b0 b1 o2 k2 K1;go_wp2_with fail
  refine (CE _ K2).mono ?_;rintro e w3 ⟨v3,rfl,o3,k3⟩;have K3:=K2.trans k3;have r3:=o3.rd;replace r2:=r2.keep k3;clear CE o3 k3 K2;go_wp2_with fail
  refine (implClassesOf_any _ _ _ r3 lE).mono ?_;rintro e w4 ⟨v4,rfl,o4,k4⟩;have K4:=K3.trans k4;have r4:=o4.rd;replace r2:=r2.keep k4;clear r3 o4 k4 K3;generalize clsB es=M at *;go_wp2_with fail
  refine (implLifted_any _ _ _ _ _ r2 r4 lS lC).mono ?_;rintro e w5 ⟨v5,rfl,o5,k5⟩;have K5:=K4.trans k5;have r5:=o5.rd;clear r2 r4 o5 k5 K4;generalize liftL L M=P at *;go_wp2_with fail
  refine (implRound_any _ _ _ r5 lL).mono ?_;rintro e w6 ⟨rfl,k6⟩;have K6:=K5.trans k6;generalize roundB P=R at *;go_wp2;go_ret;exact⟨ret_bool (by rw[HE.out];rfl),K6⟩
theorem implSlowOk_any (w:World)(v vF vR:Value)(dss:List (List Dd))(f rows:List Int)(h:RdW w v dss)(hf:Rd w vF f)(hr:Rd w vR rows)(hcap:rows.length≤capZ vR)(hx:dss.length≤1048576)(hm:∀i,i<dss.length→(dss.getD i []).length≤1048576)(hfl:f.length≤1048576)(hrl:rows.length≤1048576):
  Calls Tryz.prog 11 #[v,.agg #[vF,vR]] w fun e w'=>e = .returned (.bool (slowB dss f rows))∧Keep w w':=by
 have C:=fun (W:World) (kW:Keep w W)=>slowTold_any W v vF vR dss f rows (h.keep kW) (hf.keep kW) (hr.keep kW) hcap hx hm hfl hrl
 clear h hf hr hcap hx hm hfl hrl;generalize slowB dss f rows=T at *;go_enter Tryz.func11,Tryz.ntmps11
 go_wp2_with fail
 refine (C _ ((Keep.refl w).alloc _)).mono ?_;rintro e w1 ⟨rfl,k⟩;have K:=((Keep.refl w).alloc _).trans k;go_wp2;go_ret;exact⟨rfl,K⟩
end Go.Proofs.YtgikcfdckddgpabGreat
