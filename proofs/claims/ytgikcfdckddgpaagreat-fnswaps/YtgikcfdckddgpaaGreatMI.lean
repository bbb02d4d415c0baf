/- Gathered texts. -/
import Derived.Test.YtgikcfdckddgpaaGreatMH
import Derived.Outline
import Derived.BigRegion
import Derived.RegionTactic
import Derived.Deep.RegionHeld3
import Derived.Deep.QuietTactic
import Derived.BigQuiet
import Derived.Lib.Hide
import Derived.Laws.StructEq
import Derived.Handy
import Derived.Stop.Asserts
set_option maxRecDepth 100000
set_option maxHeartbeats 8000000
namespace Go.Proofs.YtgikcfdckddgpaaGreat
open Go.ChangeShapes Go.WideShapes Go.ChangeAt Go.RowKit
theorem isAtOnce_any (w:World)(k p v g:Int):
  Calls Tryz.prog 236 #[deedV k p v g] w fun e w'=>e = .returned (.bool (onceD (k,p,v,g)))∧Keep w w':=by
 by_cases hk:k=3
 ·
  subst hk;go_enter Tryz.func236,Tryz.ntmps236
  go_wp2;go_ret;exact⟨rfl,(Keep.refl w).alloc _⟩
 ·
  have kb:(k==3)=false:=by simp[hk]
  have HE:Hid (onceD (k,p,v,g)=(g != 0)):=Lib.hid (by unfold onceD;simp[hk]);clear hk;go_enter Tryz.func236,Tryz.ntmps236
  go_wp2;go_ret;exact⟨by rw[HE.out];rfl,(Keep.refl w).alloc _⟩
theorem deedOf_any (w:World)(v:Value)(dss:List (List Dd))(h:RdW w v dss)(i k:Nat)(r:Bool)(pl vl cl:Int)(hi:i<dss.length)(hk:k<(dss.getD i []).length):
  Calls Tryz.prog 237 #[v,eA i k r pl vl cl] w fun e w'=>e = .returned (dV ((dss.getD i []).getD k zD))∧Keep w w':=by
 obtain⟨a,c,rfl,h⟩:=h;rcases h with h|⟨b,o,rfl,hb,hc⟩
 · exfalso;rw[h] at hi;simp at hi
 obtain⟨u,e1,r1⟩:=hc i hi;clear hc;obtain⟨ds,hds⟩:∃ds,ds=dss.getD i []:=⟨_,rfl⟩;rw[←hds] at r1 hk ⊢;clear hds;obtain⟨ai,ci,rfl,r1⟩:=r1;rcases r1 with h|⟨b2,o2,rfl,hb2,hc2⟩
 · exfalso;rw[h] at hk;simp at hk
 have AT:=hc2 k hk;clear hc2;obtain⟨d,hd⟩:∃d,d=ds.getD k zD:=⟨_,rfl⟩;rw[←hd] at AT ⊢;clear hd;obtain⟨x0,x1,x2,x3⟩:=d;obtain⟨A0,A1,A2,A3⟩:=AT;simp only at A0 A1 A2 A3;have i1:(0:Int)≤(i:Int):=Int.natCast_nonneg _;have i2:(i:Int)<(dss.length:Int):=by omega
 have j1:(0:Int)≤(k:Int):=Int.natCast_nonneg _;have j2:(k:Int)<(ds.length:Int):=by omega
 go_enter Tryz.func237,Tryz.ntmps237
 go_wp2;go_region
 all_goals
  go_wp2;refine bodyPost_ret (results_row (by rfl) _ _ (w.heap.size+1) 50 #[.int .i64 x0,.int .i64 x1,.int .i64 x2,.int .i64 x3] (0,0) _ rfl (by simp only[heap_at,heap_drew,heap_size];repeat (first|exact if_pos rfl|exact if_pos trivial|rw[if_neg (by omega)])) Tryz.underlying50 rfl (by kernel_rfl)) rfl ?_;exact⟨rfl,by first|exact (((Keep.refl w).alloc _).drew).alloc _|exact ((((Keep.refl w).alloc _)).alloc _).drew⟩
theorem eqDd (x0 x1 x2 x3 y0 y1 y2 y3:Int)(w:World):(Op.equalIn 10000 50 (deedV x0 x1 x2 x3) (deedV y0 y1 y2 y3)).run Tryz.prog w = .ok (x0==y0&&(x1==y1&&(x2==y2&&x3==y3))) w:=by
 have u3:=Tryz.underlying2;have a3:=Tryz.isAgg2;have z3:=Tryz.sizeOf2;have hS:Tryz.prog.underlying 50=some (.struct (Tryz.prog.fieldsOf 50)):=by kernel_rfl
 have hp:Tryz.prog.stoodInHeld 50=false:=by kernel_rfl
 rw[show (10000:Nat)=9999+1 from rfl,run_equalIn_agg w 9999 50 _ _ hS hp];simp only[Program.fieldsOf,Tryz.underlying50];go_simp;by_cases h1:x0=y0<;>by_cases h2:x1=y1<;>by_cases h3:x2=y2<;>by_cases h4:x3=y3<;>simp[h1,h2,h3,h4]
theorem dIndex_any (w:World)(b off n cap:Nat)(f:Nat→Dd)(hb:b<w.heap.size)(hc:∀i,i<n→AtD w b (off+i*4) (f i))(hn:n≤1048576):
  Calls Tryz.prog 240 #[.slice (some ⟨b,off,none⟩) n cap,deedV 4 0 0 0] w fun e w'=>∃r:Int,e = .returned (.int .i64 r)∧decide (0≤r)=(List.range n).any (fun i=>f i==wtD)∧Keep w w':=by
 obtain⟨ob,hob⟩:∃ob,ob=(Obj.cells #[.int .i64 4,.int .i64 0,.int .i64 0,.int .i64 0] 50):=⟨_,rfl⟩;go_enter Tryz.func240,Tryz.ntmps240
 go_wp2;go_loopw [8] (fun s wr=>∃k:Nat,k≤n∧s = .int .i64 k∧Hid (∀j,j<k→f j≠wtD)∧Keep (w.alloc (.cells #[.int .i64 4,.int .i64 0,.int .i64 0,.int .i64 0] 50)) wr) (fun s _=>n-(intOf s).toNat)
 case atStart=>exact⟨0,Nat.zero_le _,rfl,Lib.hid (fun j h=>by omega),Keep.refl _⟩
 case round=>
  obtain⟨k,hk,rfl,HN,hK⟩:=hrel;by_cases hlt:k<n
  ·
   have AT:=((hc k hlt).keep hb ((Keep.refl w).alloc (.cells #[.int .i64 4,.int .i64 0,.int .i64 0,.int .i64 0] 50))).keep (Nat.lt_of_lt_of_le hb ((Keep.refl w).alloc _).size) hK;have c0:wr.cell? ⟨w.heap.size,0,none⟩=some (.int .i64 4):=by rw[hK.cell (by simp)];simp
   have c1:wr.cell? ⟨w.heap.size,1,none⟩=some (.int .i64 0):=by rw[hK.cell (by simp)];simp
   have c2:wr.cell? ⟨w.heap.size,2,none⟩=some (.int .i64 0):=by rw[hK.cell (by simp)];simp
   have c3:wr.cell? ⟨w.heap.size,3,none⟩=some (.int .i64 0):=by rw[hK.cell (by simp)];simp
   clear hc;have HY:f k=wtD→Hid ((List.range n).any (fun i=>f i==wtD)=true):=fun e=>Lib.hid (by rw[List.any_eq_true];exact⟨k,List.mem_range.2 hlt,by rw[e];simp⟩)
   have HX:f k≠wtD→Hid (∀j,j<k+1→f j≠wtD):=fun h4=>Lib.hid (fun j h2=>by
    by_cases e:j=k
    · subst e;exact h4
    · exact HN.out j (by omega))
   generalize f k=d at AT HY HX;clear HN;obtain⟨x0,x1,x2,x3⟩:=d;obtain⟨A0,A1,A2,A3⟩:=AT;simp only at A0 A1 A2 A3;have j1:(0:Int)≤(k:Int):=Int.natCast_nonneg _;have j2:(k:Int)<(n:Int):=by omega
   have EG:Tryz.prog.eqGuardType Tryz.prog.depth 50=false:=by kernel_rfl
   by_cases hd:(x0,x1,x2,x3)=wtD
   ·
    have HE:=HY hd;unfold wtD at hd;rw[Prod.mk.injEq,Prod.mk.injEq,Prod.mk.injEq] at hd;obtain⟨rfl,rfl,rfl,rfl⟩:=hd;have EQ:∀w:World,(Op.equalIn 10000 50 (deedV 4 0 0 0) (deedV 4 0 0 0)).run Tryz.prog w = .ok true w:=fun w=>eqDd 4 0 0 0 4 0 0 0 w
    clear HY HX;go_wp2_with fail
    go_quiet (fail)
    go_wp2;go_ret;refine⟨k,rfl,?_,((Keep.refl w).alloc _).trans (hK.grown (grown_draw wr _ none) (by simp))⟩;rw[HE.out];exact decide_eq_true j1
   ·
    have HE:=HX hd
    have EB:(4==x0&&(0==x1&&(0==x2&&0==x3)))=false:=by
     cases hq:(4==x0&&(0==x1&&(0==x2&&0==x3))) with
     |false=>rfl
     |true=>
      exfalso;apply hd;simp only[Bool.and_eq_true,beq_iff_eq] at hq;unfold wtD;rw[←hq.1,←hq.2.1,←hq.2.2.1,←hq.2.2.2]
    have EQ:∀w:World,(Op.equalIn 10000 50 (deedV 4 0 0 0) (deedV x0 x1 x2 x3)).run Tryz.prog w = .ok false w:=fun w=>by rw[eqDd 4 0 0 0 x0 x1 x2 x3 w,EB]
    clear HY HX hd EB;go_wp2_with fail
    go_quiet (fail)
    go_wp2;go_roundw;case rel=>exact⟨k+1,by omega,by go_num,HE,hK.grown (grown_draw wr _ none) (by simp)⟩
    case measure=>simp[intOf];omega
  ·
   obtain rfl:k=n:=by omega
   have HE:Hid ((List.range k).any (fun i=>f i==wtD)=false):=Lib.hid (by
    rw[List.any_eq_false];intro i hi
    simpa using HN.out i (List.mem_range.1 hi))
   clear HN;go_wp2;go_ret;exact⟨-1,rfl,by rw[HE.out];rfl,((Keep.refl w).alloc _).trans hK⟩
theorem dHas_any (w:World)(b off n cap:Nat)(f:Nat→Dd)(hb:b<w.heap.size)(hc:∀i,i<n→AtD w b (off+i*4) (f i))(hn:n≤1048576):
  Calls Tryz.prog 239 #[.slice (some ⟨b,off,none⟩) n cap,deedV 4 0 0 0] w fun e w'=>e = .returned (.bool ((List.range n).any (fun i=>f i==wtD)))∧Keep w w':=by
 have C:=dIndex_any (w.alloc (.cells #[.int .i64 4,.int .i64 0,.int .i64 0,.int .i64 0] 50)) b off n cap f (Nat.lt_of_lt_of_le hb ((Keep.refl w).alloc _).size) (fun i hi=>(hc i hi).keep hb ((Keep.refl w).alloc _)) hn;generalize (List.range n).any (fun i=>f i==wtD)=B at C ⊢;clear hc;go_enter Tryz.func239,Tryz.ntmps239
 go_wp2_with fail
 refine C.mono ?_;rintro e w1 ⟨r,rfl,hr,k1⟩;go_wp2;go_ret;exact⟨by rw[←hr];rfl,((Keep.refl w).alloc _).trans k1⟩
theorem waitsB_any (w:World)(v:Value)(dss:List (List Dd))(h:RdW w v dss)(i p q:Nat)(r:Bool)(pl vl cl i':Int)(r':Bool)(pl' vl' cl':Int)(hi:i<dss.length)(hp:p<q)(hq:q<(dss.getD i []).length)(hl:(dss.getD i []).length≤1048576):
  Calls Tryz.prog 238 #[v,eA i p r pl vl cl,eA i' q r' pl' vl' cl'] w fun e w'=>e = .returned (.bool (btwD (dss.getD i []) p q))∧Keep w w':=by
 obtain⟨a,c,rfl,h⟩:=h;rcases h with h|⟨b,o,rfl,hb,hc⟩
 · exfalso;rw[h] at hi;simp at hi
 obtain⟨u,e1,r1⟩:=hc i hi;clear hc;obtain⟨ds,hds⟩:∃ds,ds=dss.getD i []:=⟨_,rfl⟩;rw[←hds] at r1 hq hl ⊢;clear hds;obtain⟨ai,ci,rfl,r1⟩:=r1;rcases r1 with h|⟨b2,o2,rfl,hb2,hc2⟩
 · exfalso;rw[h] at hq;simp at hq
 have i1:(0:Int)≤(i:Int):=Int.natCast_nonneg _;have i2:(i:Int)<(dss.length:Int):=by omega
 have p1:(0:Int)≤(p:Int):=Int.natCast_nonneg _;have p2:(p:Int)≤(q:Int):=by omega
 have q1:(q:Int)≤(ds.length:Int):=by omega
 have q2:(q:Int)≤(ds.length:Int)+(ci:Int):=by omega
 have C:∀w1:World,Keep w w1→Calls Tryz.prog 239 #[.slice (if ds.length+ci=p then some ⟨b2,o2,none⟩ else some ⟨b2,o2+p*4,none⟩) (q-p) (ds.length+ci-p),deedV 4 0 0 0] w1 fun e w'=>e = .returned (.bool (btwD ds p q))∧Keep w1 w':=fun w1 k1=>by
  rw[if_neg (by omega)];refine dHas_any w1 b2 (o2+p*4) (q-p) _ (fun j=>ds.getD (p+j) zD) (Nat.lt_of_lt_of_le hb2 k1.size) (fun j hj=>?_) (by omega);have:=(hc2 (p+j) (by omega)).keep hb2 k1;rw[show o2+(p+j)*4=o2+p*4+j*4 by omega] at this;exact this
 generalize btwD ds p q=B at C ⊢;clear hc2;go_enter Tryz.func238,Tryz.ntmps238
 go_wp2_with fail
 go_region_held3 (fun w'=>w'.cell? ⟨b,o+i,none⟩=some (.slice (some ⟨b2,o2,none⟩) ds.length (ds.length+ci))∧w'.cell? ⟨w.heap.size,0,none⟩=some (.int .i64 i)∧w'.cell? ⟨w.heap.size,1,none⟩=some (.int .i64 p)∧w'.cell? ⟨w.heap.size+1,1,none⟩=some (.int .i64 q))
  (first|go_keep|(go_split_ands;refine⟨?_,?_,?_,?_⟩<;>(rw[kk.cell (by simp only[heap_drew,heap_size];omega)];assumption)))
  ((go_at_call 239;refine (C _ ?_).mono ?_;exact (((Keep.refl w).alloc _).alloc _).drew;rintro e wz ⟨rfl,kk⟩))
 all_goals
  go_wp2;go_ret;exact⟨rfl,((((Keep.refl w).alloc _).alloc _).drew).trans kk⟩
theorem box_two {w w1:World}{x0 x1:Int}{x2:Bool}{x3 x4 x5 y0 y1:Int}{y2:Bool}{y3 y4 y5:Int}{t t':TypeId}
  (k:Keep ((w.alloc (.cells #[.int .i64 x0,.int .i64 x1,.bool x2,.int .i64 x3,.int .i64 x4,.int .i64 x5] t)).alloc (.cells #[.int .i64 y0,.int .i64 y1,.bool y2,.int .i64 y3,.int .i64 y4,.int .i64 y5] t')) w1):
  (w1.cell? ⟨w.heap.size,0,none⟩=some (.int .i64 x0)∧w1.cell? ⟨w.heap.size,1,none⟩=some (.int .i64 x1)∧w1.cell? ⟨w.heap.size,2,none⟩=some (.bool x2)∧w1.cell? ⟨w.heap.size,3,none⟩=some (.int .i64 x3)∧w1.cell? ⟨w.heap.size,4,none⟩=some (.int .i64 x4)∧w1.cell? ⟨w.heap.size,5,none⟩=some (.int .i64 x5))∧(w1.cell? ⟨w.heap.size+1,0,none⟩=some (.int .i64 y0)∧w1.cell? ⟨w.heap.size+1,1,none⟩=some (.int .i64 y1)∧w1.cell? ⟨w.heap.size+1,2,none⟩=some (.bool y2)∧w1.cell? ⟨w.heap.size+1,3,none⟩=some (.int .i64 y3)∧w1.cell? ⟨w.heap.size+1,4,none⟩=some (.int .i64 y4)∧w1.cell? ⟨w.heap.size+1,5,none⟩=some (.int .i64 y5)):=by
 have h0:∀i:Nat,w1.cell? ⟨w.heap.size,i,none⟩=(#[Value.int .i64 x0,.int .i64 x1,.bool x2,.int .i64 x3,.int .i64 x4,.int .i64 x5])[i]?:=fun i=>by
  rw[k.cell (by simp only[heap_size];omega),(((Keep.refl (w.alloc _)).alloc _)).cell (by simp only[heap_size];omega)];exact box_cell (Keep.refl _) i
 have h1:∀i:Nat,w1.cell? ⟨w.heap.size+1,i,none⟩=(#[Value.int .i64 y0,.int .i64 y1,.bool y2,.int .i64 y3,.int .i64 y4,.int .i64 y5])[i]?:=fun i=>by
  have:=box_cell k i;rw[heap_size] at this;exact this
 exact⟨⟨h0 0,h0 1,h0 2,h0 3,h0 4,h0 5⟩,⟨h1 0,h1 1,h1 2,h1 3,h1 4,h1 5⟩⟩
theorem keeps_any (w:World)(v:Value)(dss:List (List Dd))(h:RdW w v dss)(hl:∀i,i<dss.length→(dss.getD i []).length≤1048576)(x0 x1:Int)(x2:Bool)(x3 x4 x5 y0 y1:Int)(y2:Bool)(y3 y4 y5:Int)
  (hk:x0=-1∨∃c p q:Nat,x0=(c:Int)∧x1=(p:Int)∧y0=(c:Int)∧y1=(q:Int)∧c<dss.length∧(p<q∨(p=q∧((dss.getD c []).getD p zD).1=3))∧q<(dss.getD c []).length):
  Calls Tryz.prog 235 #[v,eA x0 x1 x2 x3 x4 x5,eA y0 y1 y2 y3 y4 y5] w fun e w'=>e = .returned (.bool (keepE dss (x0,x1,x2,x3,x4,x5) (y0,y1,y2,y3,y4,y5)))∧Keep w w':=by
 rcases hk with rfl|⟨c,p,q,rfl,rfl,rfl,rfl,hc,hpq,hq⟩
 ·
  have HE:Hid (keepE dss (-1,x1,x2,x3,x4,x5) (y0,y1,y2,y3,y4,y5)=true):=Lib.hid (by unfold keepE;rfl);go_enter Tryz.func235,Tryz.ntmps235
  go_wp2;go_ret;exact⟨by rw[HE.out];rfl,((Keep.refl w).alloc _).alloc _⟩
 ·
  have cb:((c:Int) == -1)=false:=by simp
  have HK:Hid (keepE dss ((c:Int),(p:Int),x2,x3,x4,x5) ((c:Int),(q:Int),y2,y3,y4,y5)=(x2||(!y2||(onceD ((dss.getD c []).getD p zD)||(onceD ((dss.getD c []).getD q zD)||btwD (dss.getD c []) p q))))):=Lib.hid (by
   unfold keepE dOf;simp only[Int.toNat_natCast];rw[cb,Bool.false_or]
   simp only[Bool.or_assoc])
  cases x2
  ·
   cases y2
   ·
    have HE:Hid (keepE dss ((c:Int),(p:Int),false,x3,x4,x5) ((c:Int),(q:Int),false,y3,y4,y5)=true):=Lib.hid (by rw[HK.out];rfl);clear HK;go_enter Tryz.func235,Tryz.ntmps235
    go_wp2;go_ret;exact⟨by rw[HE.out];rfl,((Keep.refl w).alloc _).alloc _⟩
   ·
    have D1:=fun (w1:World) (k1:Keep w w1) (r:Bool) (a b e:Int)=>deedOf_any w1 v dss (h.keep k1) c p r a b e hc (by omega)
    have D2:=fun (w1:World) (k1:Keep w w1) (r:Bool) (a b e:Int)=>deedOf_any w1 v dss (h.keep k1) c q r a b e hc hq
    have W:=fun (w1:World) (k1:Keep w w1) (hp:p<q)=>waitsB_any w1 v dss (h.keep k1) c p q false x3 x4 x5 c true y3 y4 y5 hc hp hq (hl c hc)
    clear h hl;generalize btwD (dss.getD c []) p q=B at HK W
    have hp3:onceD ((dss.getD c []).getD p zD)=false→p<q:=fun hf=>by
     rcases hpq with h1|⟨_,h2⟩
     · exact h1
     ·
      unfold onceD at hf;rw[h2] at hf;simp at hf
    clear hpq;obtain⟨d1,hd1⟩:∃d,d=(dss.getD c []).getD p zD:=⟨_,rfl⟩;obtain⟨d2,hd2⟩:∃d,d=(dss.getD c []).getD q zD:=⟨_,rfl⟩;rw[←hd1] at D1 HK hp3;rw[←hd2] at D2 HK;clear hd1 hd2;obtain⟨k1,p1,v1,g1⟩:=d1;obtain⟨k2,p2,v2,g2⟩:=d2;have A1:=fun w1=>isAtOnce_any w1 k1 p1 v1 g1
    have A2:=fun w1=>isAtOnce_any w1 k2 p2 v2 g2
    generalize onceD (k1,p1,v1,g1)=o1 at HK A1 hp3;generalize onceD (k2,p2,v2,g2)=o2 at HK A2;go_enter Tryz.func235,Tryz.ntmps235
    go_wp2_with fail
    refine (D1 _ (((Keep.refl w).alloc _).alloc _) _ _ _ _).mono ?_;rintro e w1 ⟨rfl,k1⟩;go_wp2_with fail
    refine (A1 _).mono ?_;rintro e w2 ⟨rfl,k2⟩;have B2:=k1.trans k2;have K2:=(((Keep.refl w).alloc _).alloc _).trans B2;obtain⟨⟨a0,a1,a2,a3,a4,a5⟩,⟨b0,b1,b2,b3,b4,b5⟩⟩:=box_two B2;clear k1 k2;cases o1
    ·
     have hp:=hp3 rfl;go_wp2_with fail
     refine (D2 _ K2 _ _ _ _).mono ?_;rintro e w3 ⟨rfl,k3⟩;clear a0 a1 a2 a3 a4 a5 b0 b1 b2 b3 b4 b5;go_wp2_with fail
     refine (A2 _).mono ?_;rintro e w4 ⟨rfl,k4⟩;have B4:=(B2.trans k3).trans k4;have K4:=(K2.trans k3).trans k4;obtain⟨⟨a0,a1,a2,a3,a4,a5⟩,⟨b0,b1,b2,b3,b4,b5⟩⟩:=box_two B4;clear k3 k4 B2 K2;cases o2
     ·
      go_wp2_with fail
      refine (W _ K4 hp).mono ?_;rintro e w5 ⟨rfl,k5⟩;go_wp2;go_ret;exact⟨by rw[HK.out];rfl,K4.trans k5⟩
     ·
      go_wp2;go_ret;exact⟨by rw[HK.out];rfl,K4⟩
    ·
     go_wp2;go_ret;exact⟨by rw[HK.out];rfl,K2⟩
  ·
   have HE:Hid (keepE dss ((c:Int),(p:Int),true,x3,x4,x5) ((c:Int),(q:Int),y2,y3,y4,y5)=true):=Lib.hid (by rw[HK.out];rfl);clear HK;go_enter Tryz.func235,Tryz.ntmps235
   go_wp2;go_ret;exact⟨by rw[HE.out];rfl,((Keep.refl w).alloc _).alloc _⟩
theorem pass_keep (w:World)(g:Nat)(v:Value)(dss:List (List Dd))(h:RdW w v dss)(hl:∀i,i<dss.length→(dss.getD i []).length≤1048576)(x0 x1:Int)(x2:Bool)(x3 x4 x5 y0 y1:Int)(y2:Bool)(y3 y4 y5:Int)(hk:x0=-1∨∃c p q:Nat,x0=(c:Int)∧x1=(p:Int)∧y0=(c:Int)∧y1=(q:Int)∧c<dss.length∧(p<q∨(p=q∧((dss.getD c []).getD p zD).1=3))∧q<(dss.getD c []).length)(hg:w.cell? ⟨g,0,none⟩=some (.func (Fn.func 235) #[v] #[])):
  Calls Tryz.prog 215 #[eA x0 x1 x2 x3 x4 x5,eA y0 y1 y2 y3 y4 y5,.slice (some ⟨g,0,none⟩) 1 1] w fun e w'=>e = .returned (.bool (keepE dss (x0,x1,x2,x3,x4,x5) (y0,y1,y2,y3,y4,y5)))∧Keep w w':=by
 have hgl:=block_lt hg;have C:=fun (w1:World) (k1:Keep w w1)=>keeps_any w1 v dss (h.keep k1) hl x0 x1 x2 x3 x4 x5 y0 y1 y2 y3 y4 y5 hk
 generalize keepE dss (x0,x1,x2,x3,x4,x5) (y0,y1,y2,y3,y4,y5)=B at C ⊢;have C2:=C _ (((Keep.refl w).alloc (.cells #[.int .i64 x0,.int .i64 x1,.bool x2,.int .i64 x3,.int .i64 x4,.int .i64 x5] 40)).alloc (.cells #[.int .i64 y0,.int .i64 y1,.bool y2,.int .i64 y3,.int .i64 y4,.int .i64 y5] 40));clear C;go_enter Tryz.func215,Tryz.ntmps215
 go_wp2_with fail
 refine wp_loop_rounds 2 ?_;rw[rounds_succ];go_wp2_with fail
 refine C2.mono ?_;rintro e w1 ⟨rfl,k1⟩;have K:=(((Keep.refl w).alloc _).alloc _).trans k1;cases B
 ·
  go_wp2;go_ret;exact⟨rfl,K⟩
 ·
  go_wp2;rw[rounds_succ];go_wp2;go_ret;exact⟨rfl,K⟩
theorem col_kep (dss:List (List Dd)):colAll (tQ (keepE dss) (eventsB dss)) (eventsB dss).length (eventsB dss).length=kepL dss (eventsB dss):=by
 cases hb:workB dss with
 |false=>rw[eventsB,hb];rfl
 |true=>rw[eventsB,if_pos hb,←kep_same hb]
theorem kep_pair {dss:List (List Dd)}{i j:Nat}(hij:i<j)(hj:j<(eventsB dss).length){x0 x1:Int}{x2:Bool}{x3 x4 x5 y0 y1:Int}{y2:Bool}{y3 y4 y5:Int}
  (hx:(eventsB dss).getD i zE=(x0,x1,x2,x3,x4,x5)) (hy:(eventsB dss).getD j zE=(y0,y1,y2,y3,y4,y5)) (hi:isbE (x0,x1,x2,x3,x4,x5) (y0,y1,y2,y3,y4,y5)=true):
  x0=-1∨∃c p q:Nat,x0=(c:Int)∧x1=(p:Int)∧y0=(c:Int)∧y1=(q:Int)∧c<dss.length∧(p<q∨(p=q∧((dss.getD c []).getD p zD).1=3))∧q<(dss.getD c []).length:=by
 cases hb:workB dss with
 |false=>rw[eventsB,hb] at hj;simp at hj
 |true=>
  rw[eventsB,if_pos hb] at hj hx hy;by_cases i3:i<3
  ·
   have:=(evs_who hb (show i<_ by omega)).1 i3;rw[hx] at this;exact .inl this
  ·
   have h0:=(evs_who hb (show i<_ by omega)).2 (by omega);rw[hx] at h0
   have hc:((evsW dss dss.length).getD i zE).1=((evsW dss dss.length).getD j zE).1:=by
    rw[hx,hy];unfold isbE at hi;simp only[Bool.and_eq_true,Bool.or_eq_true,beq_iff_eq] at hi h0;rcases hi.2 with h|h
    · omega
    · exact h
   obtain⟨c,p,q,h1,h2,h3,h4,h5,h6,_⟩:=evs_two hb (by omega) hij hj hc;rw[hc,hy] at h1;rw[hx] at h2;rw[hx,hy] at hc;rw[hy] at h3;simp only at h1 h2 h3 hc;exact .inr ⟨c,p,q,by omega,h2,h1,h3,h4,h5,h6⟩
theorem implKept_any (w:World)(v:Value)(dss:List (List Dd))(h:RdW w v dss)(hx:dss.length≤1048576)(hm:∀i,i<dss.length→(dss.getD i []).length≤1048576):
  Calls Tryz.prog 234 #[v] w fun e w'=>∃v',e = .returned v'∧Row w' w.heap.size v' (kepL dss (eventsB dss))∧Keep w w':=by
 have C:=fun (w0:World) (k0:Keep w w0) (g:Nat) (hg:w0.cell? ⟨g,0,none⟩=some (.func (Fn.func 235) #[v] #[]))=>
  linesOf_any w0 v (.slice (some ⟨g,0,none⟩) 1 1) dss (keepE dss) (h.keep k0) hx hm (fun i j hij hj x0 x1 x2 x3 x4 x5 y0 y1 y2 y3 y4 y5 ex ey hi w1 k1=>pass_keep w1 g v dss (h.keep (k0.trans k1)) hm x0 x1 x2 x3 x4 x5 y0 y1 y2 y3 y4 y5 (kep_pair hij hj ex ey hi) ((k1.cell (block_lt hg)).trans hg))
 rw[col_kep] at C;go_enter Tryz.func234,Tryz.ntmps234
 go_wp2_with fail
 refine (C _ ((Keep.refl w).alloc _) _ ?_).mono ?_
 · simp
 rintro e w1 ⟨v1,rfl,r1,k1⟩;go_wp2;go_ret;exact⟨_,rfl,r1.base_le (by rw[heap_size];omega),((Keep.refl w).alloc _).trans k1⟩
theorem implSourceOk_any (w:World)(v vf:Value)(dss:List (List Dd))(f:List Int)(h:RdW w v dss)(hf:Rd w vf f)(hx:dss.length≤1048576)(hm:∀i,i<dss.length→(dss.getD i []).length≤1048576)(hfl:f.length≤1048576):
  Calls Tryz.prog 103 #[v,vf] w fun e w'=>e = .returned (.bool (sourceB dss f))∧Keep w w':=by
 have h12:(eventsB dss).length≤12:=by have:=eventsB_len9 dss;omega
 obtain⟨cl1,cl2⟩:=chc_len h12;go_enter Tryz.func103,Tryz.ntmps103
 go_wp2_with fail
 refine (implEventsOf_any _ _ _ h hx hm).mono ?_;rintro e w2 ⟨v2,rfl,a2,k2⟩;go_wp2_with fail
 refine (choicesOf_any _ _ _ a2.rd h12).mono ?_;rintro e w3 ⟨v3,rfl,rp,k3⟩;have K3:=k2.trans k3;have rc:=rp.rdl (Nat.le_refl _);have hf3:=hf.keep K3;have HE:Hid (sourceB dss f=(workB dss&&srcB (chcL (eventsB dss)) f)):=Lib.hid rfl;generalize chcL (eventsB dss)=c at rc HE cl1 cl2;obtain⟨ac,cc,rfl,-⟩:=id rc;obtain⟨af,cf,rfl,-⟩:=id hf3;go_wp2_with fail
 refine (implWorkOk_any _ _ _ (h.keep K3) hx hm).mono ?_;rintro e w4 ⟨rfl,k4⟩;have K4:=K3.trans k4;have hf4:=hf3.keep k4;have rc4:=rc.keep k4;clear h a2 k2 k3 rp rc hf hf3 K3 k4 hx hm h12;cases hb:workB dss
 ·
  have HN:Hid (sourceB dss f=false):=Lib.hid (by rw[HE.out,hb];rfl);go_wp2;go_ret;exact⟨by rw[HN.out];rfl,K4⟩
 have HE2:Hid (sourceB dss f=srcB c f):=Lib.hid (by rw[HE.out,hb];rfl);clear HE;by_cases hl:c.length=f.length
 ·
  have hlb:((f.length:Int) != (c.length:Int))=false:=by simp[hl]
  have l1:f.length≤c.length:=by omega
  have l2:c.length≤f.length:=by omega
  have HS:Hid (srcB c f=srcK c f f.length):=Lib.hid (by unfold srcB;simp[hl]);clear hl;go_wp2;go_loopw [23] (fun i wr=>∃k:Nat,k≤f.length∧i = .int .i64 k∧Hid (srcK c f k=true)∧Keep w4 wr) (fun i _=>f.length-(intOf i).toNat)
  case atStart=>exact⟨0,Nat.zero_le _,rfl,Lib.hid rfl,Keep.refl _⟩
  case round=>
   obtain⟨k,hk,rfl,hS,hK⟩:=hrel;by_cases hlt:k<f.length
   ·
    have rck:=rc4.keep hK;have hfk:=hf4.keep hK;obtain⟨a',c',he',rck⟩:=rck;simp only[Value.slice.injEq,true_and] at he';obtain⟨rfl,rfl⟩:=he';rcases rck with h|⟨b,o,rfl,hbb,hc⟩
    · exfalso;rw[h] at l1;simp only[List.length_nil] at l1;omega
    obtain⟨a',c',he',hfk⟩:=hfk;simp only[Value.slice.injEq,true_and] at he';obtain⟨rfl,rfl⟩:=he';rcases hfk with h|⟨b2,o2,rfl,hb2,hc2⟩
    · exfalso;rw[h] at hlt;simp at hlt
    obtain⟨vi,d1,r2⟩:=hc k (by omega);have d2:=hc2 k hlt;have ck:=cl2 k (by omega);clear hc hc2;have HB:Hid (srcK c f (k+1)=(srcK c f k&&isB (c.getD k []) (f.getD k 0))):=Lib.hid rfl;generalize f.getD k 0=n at d2 HB;generalize c.getD k []=zs at r2 ck HB;obtain⟨az,cz,rfl,-⟩:=id r2;have i1:(0:Int)≤(k:Int):=Int.natCast_nonneg _;have i2:(k:Int)<(c.length:Int):=by omega
    have i3:(k:Int)<(f.length:Int):=by omega
    cases hi:isB zs n
    ·
     have HN:Hid (srcK c f f.length=false):=Lib.hid (srcK_false (k:=k+1) (by rw[HB.out,hi,Bool.and_false]) _ hlt);have CI:=contains_any wr _ zs r2 (by omega) n;rw[hi] at CI;go_wp2_with fail
     refine CI.mono ?_;rintro e w5 ⟨rfl,rfl⟩;go_wp2;go_ret;exact⟨by rw[HE2.out,HS.out,HN.out];rfl,K4.trans hK⟩
    ·
     have HN:Hid (srcK c f (k+1)=true):=Lib.hid (by rw[HB.out,hi,hS.out];rfl);have CI:=contains_any wr _ zs r2 (by omega) n;rw[hi] at CI;go_wp2_with fail
     refine CI.mono ?_;rintro e w5 ⟨rfl,rfl⟩;go_wp2;go_roundw;case rel=>exact⟨k+1,by omega,by go_num,HN,hK⟩
     case measure=>simp[intOf];omega
   ·
    obtain rfl:k=f.length:=by omega
    go_wp2;go_ret;exact⟨by rw[HE2.out,HS.out,hS.out];rfl,K4.trans hK⟩
 ·
  have hlb:((f.length:Int) != (c.length:Int))=true:=by simp;omega
  have HS:Hid (srcB c f=false):=Lib.hid (by unfold srcB;simp[hl]);clear hl;go_wp2;go_ret;exact⟨by rw[HE2.out,HS.out];rfl,K4⟩
theorem workB_useI {dss:List (List Dd)}{f:List Int}(h:sourceB dss f=true):workB dss=true∧srcB (chcL (eventsB dss)) f=true:=by
 rw[sourceB,Bool.and_eq_true] at h;exact h
theorem implFromWeb_any (w:World)(v vf:Value)(dss:List (List Dd))(f:List Int)(h:RdW w v dss)(hf:Rd w vf f)(hx:dss.length≤1048576)(hm:∀i,i<dss.length→(dss.getD i []).length≤1048576)(hfl:f.length≤1048576):
  Calls Tryz.prog 54 #[v,vf] w fun e w'=>∃v',e = .returned v'∧Row w' w.heap.size v' (fwB dss f)∧Keep w w':=by
 cases hs:sourceB dss f
 ·
  have HE:Hid (fwB dss f=[]):=Lib.hid (by rw[fwB,hs];rfl);have C:=implSourceOk_any w v vf dss f h hf hx hm hfl;rw[hs] at C;go_enter Tryz.func54,Tryz.ntmps54
  go_wp2_with fail
  refine C.mono ?_;rintro e w1 ⟨rfl,k1⟩;have s1:=k1.size;go_wp2;go_ret;exact⟨_,rfl,by rw[HE.out];exact (row_empty w1 _).base_le s1,k1.alloc _⟩
 ·
  obtain⟨hb,hs2⟩:=workB_useI hs;have HE:Hid (fwB dss f=fwL (eventsB dss) f):=Lib.hid (by rw[fwB,if_pos hs]);have h12:(eventsB dss).length≤12:=by have:=eventsB_len9 dss;omega
  obtain⟨sl,su⟩:=src_use h12 hs2;have C:=implSourceOk_any w v vf dss f h hf hx hm hfl;rw[hs] at C
  have rl:(idxB rdE (eventsB dss)).length≤12:=by
   unfold idxB;rw[if_pos h12];have:=idxK_len rdE (eventsB dss) (eventsB dss).length;omega
  have rin:∀i,i<(idxB rdE (eventsB dss)).length→0≤(idxB rdE (eventsB dss)).getD i 0∧(idxB rdE (eventsB dss)).getD i 0<((eventsB dss).length:Int):=by
   intro i hi
   have hm:(idxB rdE (eventsB dss)).getD i 0∈idxB rdE (eventsB dss):=by
    rw[List.getD_eq_getElem?_getD,List.getElem?_eq_getElem hi];exact List.getElem_mem hi
   refine idxK_lt rdE (eventsB dss) _ _ ?_;unfold idxB at hm ⊢;rw[if_pos h12] at hm ⊢;exact hm
  have fin:∀i,i<(idxB rdE (eventsB dss)).length→0≤f.getD i 0∧f.getD i 0<((eventsB dss).length:Int):=fun i hi=>(su i hi).1
  have HL:Hid (fwL (eventsB dss) f=fwK (eventsB dss).length (idxB rdE (eventsB dss)) f (idxB rdE (eventsB dss)).length):=Lib.hid rfl;clear su;go_enter Tryz.func54,Tryz.ntmps54
  go_wp2_with fail
  refine C.mono ?_;rintro e w1 ⟨rfl,k1⟩;have s1:=k1.size;go_wp2_with fail
  refine (implEventsOf_any _ _ _ (h.keep k1) hx hm).mono ?_;rintro e w2 ⟨v2,rfl,a2,k2⟩;have s2:=k2.size;have re:=a2.rd;generalize eventsB dss=es at *;obtain⟨ae,ce,rfl,-⟩:=id re;go_wp2_with fail
  refine (blank_any _ _ h12).mono ?_;rintro e w3 ⟨rfl,rb,k3⟩;have s3:=k3.size;go_wp2_with fail
  refine (implReadsOf_any _ _ _ (re.keep k3) (by omega)).mono ?_;rintro e w4 ⟨vr,rfl,or4,k4⟩;have s4:=k4.size;have hr3:=rb.lt;generalize idxB rdE es=rs at *;have hF4:=hf.keep (((k1.trans k2).trans k3).trans k4);have hK4:Keep w w4:=((k1.trans k2).trans k3).trans k4
  have N2:vr.ownBlock=none∨vr.ownBlock≠some w2.heap.size:=by
   cases hu:vr.ownBlock with
   |none=>exact .inl rfl
   |some k=>exact .inr (fun e=>by have:=or4.ge k hu;have:=Option.some.inj e;omega)
  have hFB:0<f.length→(vf.ownBlock=none∨vf.ownBlock≠some w2.heap.size):=by
   intro hpos;obtain⟨a,c,rfl,hv⟩:=hf;rcases hv with hv|⟨b,o,rfl,hb,_⟩
   · rw[hv] at hpos;simp at hpos
   · exact .inr (by simp[Value.ownBlock];omega)
  have HFB:=Lib.hid hFB;clear hFB;have R4:=or4.rd;have rb4:RowAt w4 w2.heap.size (fwK es.length rs f 0):=rb.keep k4;have hb2:w.heap.size≤w2.heap.size:=by omega
  obtain⟨ar,cr,rfl,-⟩:=id R4;obtain⟨af,cf,rfl,-⟩:=id hf;have RIN:=Lib.hid rin;have FIN:=Lib.hid fin;have l1:rs.length≤f.length:=by omega
  clear rin fin sl a2 re k1 k2 k3 k4 C h hx hm rb or4 hs hs2 hb hr3 s1 s2 s3 s4 hf;go_wp2;go_loopw [22] (fun i wr=>∃k:Nat,k≤rs.length∧i = .int .i64 k∧RowAt wr w2.heap.size (fwK es.length rs f k)∧Rd wr (.slice ar rs.length cr) rs∧Keep w wr∧Rd wr (.slice af f.length cf) f) (fun i _=>rs.length-(intOf i).toNat)
  case atStart=>exact⟨0,Nat.zero_le _,rfl,rb4,R4,hK4,hF4⟩
  case round=>
   obtain⟨k,hk,rfl,hr,hR,hK,hF⟩:=hrel;clear rb4 R4 hK4 hF4;by_cases hlt:k<rs.length
   ·
    obtain⟨r,hr0⟩:=Int.eq_ofNat_of_zero_le (RIN.out k hlt).1;obtain⟨t,ht0⟩:=Int.eq_ofNat_of_zero_le (FIN.out k hlt).1;have hte:t<es.length:=by have:=(FIN.out k hlt).2;omega
    have hW:=(fw_line (n:=es.length) (rs:=rs) (f:=f) h12 k (fun i hi=>RIN.out i (by omega)) (fun i hi=>FIN.out i (by omega))).1;have hBl:(fwK es.length rs f k).length=es.length:=hW.2.1
    have HC:Hid (fwK es.length rs f (k+1)=(fwK es.length rs f k).set t (gAdd ((fwK es.length rs f k).getD t 0) (r:Int))):=Lib.hid (by
     rw[fwK,ht0,hr0,Int.toNat_natCast])
    obtain⟨a',c',he',hR'⟩:=id hR;simp only[Value.slice.injEq,true_and] at he';obtain⟨rfl,rfl⟩:=he';rcases hR' with h0|⟨br,orr,rfl,hbr,hcr⟩
    · exfalso;rw[h0] at hlt;simp at hlt
    have d3:=hcr k hlt;rw[hr0] at d3;obtain⟨a2,c2,he2,hF'⟩:=id hF;simp only[Value.slice.injEq,true_and] at he2;obtain⟨rfl,rfl⟩:=he2;rcases hF' with h0|⟨bf,off,rfl,hbf,hcf⟩
    · exfalso;rw[h0] at l1;simp only[List.length_nil] at l1;omega
    have d4:=hcf k (by omega);rw[ht0] at d4;clear hcr hcf hr0 ht0 hW;have i1:(0:Int)≤(k:Int):=Int.natCast_nonneg _;have i2:(k:Int)<(rs.length:Int):=by omega
    have i3:(k:Int)<(f.length:Int):=by omega
    have CL:=line_any wr w2.heap.size es.length es.length (fwK es.length rs f k) t (r:Int) hr hBl hte;rw[←HC.out] at CL;clear hBl;go_wp2_with fail
    refine CL.mono ?_;rintro e w5 ⟨rfl,hr5,hg5⟩;have hR5:=hR.keptR hg5 N2;have hF5:=hF.keptR hg5 (HFB.out (by omega));have hK5:Keep w w5:=hK.grown hg5 (by simp;omega);clear CL hR hF hK hr;go_wp2;go_roundw;case rel=>exact⟨k+1,by omega,by go_num,hr5,hR5,hK5,hF5⟩
    case measure=>simp[intOf];omega
   ·
    obtain rfl:k=rs.length:=by omega
    go_wp2;go_ret;refine⟨_,rfl,?_,hK⟩;rw[HE.out,HL.out];have hW:=(fw_line (n:=es.length) (rs:=rs) (f:=f) h12 rs.length (fun i hi=>RIN.out i (by omega)) (fun i hi=>FIN.out i (by omega))).1;exact .inr ⟨w2.heap.size,es.length,by rw[hW.2.1];rfl,hb2,hr⟩
theorem fw_web (dss:List (List Dd))(f:List Int):Web (fwB dss f).length (fwB dss f)∧(fwB dss f).length≤(eventsB dss).length:=by
 cases h:sourceB dss f with
 |false=>rw[(fo_none h).1];exact⟨⟨Nat.zero_le _,rfl,fun i hi=>absurd hi (Nat.not_lt_zero i)⟩,Nat.zero_le _⟩
 |true=>
  have hbs:=h;rw[sourceB,Bool.and_eq_true] at hbs;have hx:=eventsB_12 dss;obtain⟨sl,su⟩:=src_use hx hbs.2;have wf:=fw_line (f:=f) hx (idxB rdE (eventsB dss)).length (fun i hi=>rd_in hx hi) (fun i hi=>(su i hi).1);have ef:fwB dss f=fwL (eventsB dss) f:=by rw[fwB,if_pos h]
  have e1:(fwL (eventsB dss) f).length=(eventsB dss).length:=wf.1.2.1;rw[ef,e1];exact⟨wf.1,Nat.le_refl _⟩
theorem fo_all (dss:List (List Dd))(f:List Int):drwK (fwB dss f).length (othL (eventsB dss) (fwB dss f)) (othL (eventsB dss) (fwB dss f)).length=owB dss f:=by
 cases h:sourceB dss f with
 |false=>rw[(fo_none h).1,(fo_none h).2];rfl
 |true=>rw[(ow_cell h).2.1];exact fo_same h
theorem drwK_hit (n:Nat)(l:List (Int×Int))(k i j:Nat)(hk:k<l.length)(h:l.getD k (0,0)=((i:Int),(j:Int))):drwK n l (k+1)=(drwK n l k).set i (gAdd ((drwK n l k).getD i 0) (j:Int)):=by
 have e:=pr_get l k hk;rw[List.getD_eq_getElem?_getD,List.getElem?_eq_getElem hk] at h;rw[show l[k]=((i:Int),(j:Int)) from h] at e;have e1:=congrArg Prod.fst e;have e2:=congrArg Prod.snd e;simp only at e1 e2;unfold drwK;rw[fwK,e1,e2,Int.toNat_natCast]
theorem implFromOthers_any (w:World)(v vf:Value)(dss:List (List Dd))(f:List Int)(h:RdW w v dss)(hf:Rd w vf f)(hx:dss.length≤1048576)(hm:∀i,i<dss.length→(dss.getD i []).length≤1048576)(hfl:f.length≤1048576):
  Calls Tryz.prog 14 #[v,vf] w fun e w'=>∃v',e = .returned v'∧Row w' w.heap.size v' (owB dss f)∧Keep w w':=by
 have C1:=implFromWeb_any w v vf dss f h hf hx hm hfl;have C2:=fun (W:World) (k:Keep w W)=>implEventsOf_any W v dss (h.keep k) hx hm
 have HE:=Lib.hid (fo_all dss f);obtain⟨HW0,hle⟩:=fw_web dss f;have HW:=Lib.hid HW0;have h12:=HW0.1;have e12:=eventsB_12 dss
 have HIN:Hid (∀x∈linL (fwB dss f),∃i j:Nat,x=((i:Int),(j:Int))∧i<(fwB dss f).length∧j<(fwB dss f).length):=Lib.hid (fun x hx=>by
  obtain⟨a,j,e,ha,hj,-⟩:=lin_in HW0 hx
  exact⟨a,j,e,ha,hj⟩)
 clear HW0 h hx hm hfl;obtain⟨af,cf,rfl,-⟩:=hf;generalize owB dss f=OW at *;generalize fwB dss f=zs at *;generalize eventsB dss=es at *;go_enter Tryz.func14,Tryz.ntmps14
 go_wp2_with fail
 refine C1.mono ?_;rintro e w1 ⟨v1,rfl,o1,k1⟩;have s1:=k1.size;clear C1;go_wp2_with fail
 refine (C2 _ k1).mono ?_;rintro e w2 ⟨v2,rfl,a2,k2⟩;have s2:=k2.size;clear C2;have re:=a2.rd;have rz:=o1.rd.keep k2;have K2:=k1.trans k2;clear a2 o1 k1 k2;obtain⟨a1,c1,rfl,-⟩:=id rz;obtain⟨ae,ce,rfl,-⟩:=id re;have k3:Keep w2 (w2.alloc (.cells #[.slice ae es.length (es.length+ce)] 36)):=(Keep.refl w2).alloc _;have b3:(w2.alloc (.cells #[.slice ae es.length (es.length+ce)] 36)).cell? ⟨w2.heap.size,0,none⟩=some (.slice ae es.length (es.length+ce)):=box_cell (Keep.refl _) 0;have K3:=K2.trans k3;have re3:=re.keep k3;have rz3:=rz.keep k3;clear re rz K2;go_wp2_with fail
 refine (linesIn_any _ _ _ rz3 h12).mono ?_;rintro e w4 ⟨v4,rfl,o4,k4⟩;have b4:=(k4.cell (by simp)).trans b3;have z4:=box_size k4;have s4:=k4.size;have K4:=K3.trans k4
 have hl4:(linL zs).length≤144:=by
  have:=lin_len zs zs.length;unfold linL;omega
 have HO:Hid (othL es zs=(linL zs).filter (othP es)):=Lib.hid rfl;have re4:=re3.keep k4;have rz4:=rz3.keep k4;have rl4:=AppLn.rd o4;clear k3 k4 b3 K3 re3 rz3 o4;obtain⟨a4,c4,rfl,-⟩:=id rl4
 have C5:=only_any w4 _ _ _ _ rl4 hl4 re4 w2.heap.size b4 z4 (fun x hx=>by
  obtain⟨i,j,e,hi,hj⟩:=HIN.out x hx
  exact⟨i,j,e,by omega,by omega⟩)
 go_wp2_with fail
 refine C5.mono ?_;rintro e w5 ⟨v5,rfl,o5,k5⟩;rw[←HO.out] at o5;have HSUB:Hid (∀x∈othL es zs,∃i j:Nat,x=((i:Int),(j:Int))∧i<zs.length∧j<zs.length):=Lib.hid (fun x hx=>HIN.out x (oth_sub es zs x hx));have HD:Hid (∀k,k≤(othL es zs).length→(drwK zs.length (othL es zs) k).length=zs.length):=Lib.hid (fun k hk=>(drw_web HW.out (oth_sub es zs) k hk).1.2.1)
 have hl5:(othL es zs).length≤144:=by
  have:=List.length_filter_le (othP es) (linL zs);rw[HO.out];omega
 have K5:=K4.trans k5;have s5:=k5.size;have b5:w.heap.size≤w5.heap.size:=K5.size;have rl5:=AppLn.rd o5;clear C5 HO HIN HW re4 rz4 rl4 b4 k5 o5 K4 z4;generalize othL es zs=L at *;obtain⟨a5,c5,rfl,-⟩:=id rl5;go_wp2_with fail
 refine (blank_any _ _ h12).mono ?_;rintro e w6 ⟨rfl,rb,k6⟩;have K6:=K5.trans k6;have rl6:=rl5.keep k6;have s6:=k6.size;have hbw:=rb.lt;have hb:=b5;have rb6:RowAt w6 w5.heap.size (drwK zs.length L 0):=rb
 have HB:Hid (∀b off,a5=some ⟨b,off,none⟩→L=[]∨b<w5.heap.size):=Lib.hid (fun b off e=>by
  obtain⟨a',c',he',hR'⟩:=id rl5;simp only[Value.slice.injEq] at he';obtain⟨rfl,-,-⟩:=he';rcases hR' with h0|⟨b',o',e2,hb',-⟩
  · exact .inl h0
  ·
   rw[e] at e2;simp only[Option.some.injEq,Addr.mk.injEq,and_true] at e2;obtain⟨rfl,rfl⟩:=e2
   exact .inr hb')
 clear rb K5 rl5 k6;go_wp2;go_loopw [25] (fun i wr=>∃k:Nat,k≤L.length∧i = .int .i64 k∧RowAt wr w5.heap.size (drwK zs.length L k)∧RdLn wr (.slice a5 L.length (L.length+c5)) L∧Keep w wr) (fun i _=>L.length-(intOf i).toNat)
 case atStart=>exact⟨0,Nat.zero_le _,rfl,rb6,rl6,K6⟩
 case round=>
  obtain⟨k,hk,rfl,hr,hR,hK⟩:=hrel;clear rb6 rl6 K6 hbw;by_cases hlt:k<L.length
  ·
   obtain⟨a',c',he',hR'⟩:=id hR;simp only[Value.slice.injEq,true_and] at he';obtain⟨rfl,hc'⟩:=he';obtain rfl:c5=c':=by omega
   rcases hR' with h0|⟨b,off,rfl,hb',hc⟩
   · exfalso;rw[h0] at hlt;simp at hlt
   have hmem:L.getD k (0,0)∈L:=by
    rw[List.getD_eq_getElem?_getD,List.getElem?_eq_getElem hlt];exact List.getElem_mem hlt
   obtain⟨i,j,ex,hi,hj⟩:=HSUB.out _ hmem;have HK:Hid (drwK zs.length L (k+1)=(drwK zs.length L k).set i (gAdd ((drwK zs.length L k).getD i 0) (j:Int))):=Lib.hid (drwK_hit zs.length L k i j hlt ex);have AT:=hc k _ (ln_get hlt);rw[ex] at AT;obtain⟨d1,d2⟩:=atLn AT
   have hbl:b<w5.heap.size:=by
    rcases HB.out b off rfl with h0|h0
    · exfalso;rw[h0] at hlt;simp at hlt
    · exact h0
   have hdl:=HD.out k hk;clear AT hc ex hmem;have i1:(0:Int)≤(k:Int):=Int.natCast_nonneg _;have i2:(k:Int)<(L.length:Int):=by omega
   have K7:Keep wr (wr.alloc (lnO i j)):=(Keep.refl wr).alloc _;have CL:=line_any (wr.alloc (lnO i j)) w5.heap.size zs.length zs.length (drwK zs.length L k) i (j:Int) (hr.keep K7) hdl hi;rw[←HK.out] at CL;have hR7:=hR.keep K7;have hK7:=hK.trans K7;clear hdl hK hR hr;go_wp2_with fail
   refine CL.mono ?_;rintro e w8 ⟨rfl,hr8,hg8⟩
   have hR8:RdLn w8 (.slice (some ⟨b,off,none⟩) L.length (L.length+c5)) L:=by
    obtain⟨a',c',he',hR'⟩:=hR7;simp only[Value.slice.injEq,true_and] at he';obtain⟨rfl,hc'⟩:=he';refine⟨_,c5,rfl,?_⟩;rcases hR' with h0|⟨b',o',e2,hb2,hc2⟩
    · exact .inl h0
    ·
     simp only[Option.some.injEq,Addr.mk.injEq,and_true] at e2;obtain⟨rfl,rfl⟩:=e2;exact .inr ⟨b,off,rfl,Nat.lt_of_lt_of_le hb2 hg8.size,fun q x hq=>(hc2 q x hq).same (hg8.block b hb2 (fun e=>by have:=Option.some.inj e;omega))⟩
   have hK8:Keep w w8:=hK7.grown hg8 (by simp;omega);clear CL hR7 hK7 K7 hg8 d1 d2;go_wp2;go_roundw;case rel=>exact⟨k+1,by omega,by go_num,hr8,hR8,hK8⟩
   case measure=>simp[intOf];omega
  ·
   obtain rfl:k=L.length:=by omega
   have hdl:=HD.out L.length (Nat.le_refl _);go_wp2;go_ret;refine⟨_,rfl,?_,hK⟩;rw[←HE.out];exact .inr ⟨w5.heap.size,zs.length,by rw[hdl];rfl,hb,hr⟩
theorem Rd.upto {w:World}{a:Option Addr}{n c:Nat}{zs:List Int}(h:Rd w (.slice a n c) zs){k:Nat}(hk:k≤zs.length):Rd w (.slice a k c) (zs.take k):=by
 obtain⟨a',c',he,hr⟩:=h;simp only[Value.slice.injEq] at he;obtain⟨rfl,rfl,rfl⟩:=he;have hl:(zs.take k).length=k:=by rw[List.length_take];omega
 refine⟨_,_,by rw[hl],?_⟩;rcases hr with hr|⟨b,off,rfl,hb,hc⟩
 · exact .inl (by rw[hr];simp)
 ·
  refine .inr ⟨b,off,rfl,hb,fun i hi=>?_⟩;rw[hc i (by omega),List.getD_eq_getElem?_getD,List.getD_eq_getElem?_getD,List.getElem?_take,if_pos (by omega)]
theorem implRowsOk_any (w:World)(v vf:Value)(dss:List (List Dd))(f:List Int)(h:RdW w v dss)(hf:Rd w vf f)(hcap:f.length≤capZ vf)(hx:dss.length≤1048576)(hm:∀i,i<dss.length→(dss.getD i []).length≤1048576)(hfl:f.length≤1048576):
  Calls Tryz.prog 153 #[v,vf] w fun e w'=>e = .returned (.bool (rowsB dss f))∧Keep w w':=by
 have h12:(eventsB dss).length≤12:=by have:=eventsB_len9 dss;omega
 have sl:=seats_36 h12;have HS:=Lib.hid (fun i hi=>(seat_rises h12 (i:=i) hi).2);go_enter Tryz.func153,Tryz.ntmps153
 go_wp2_with fail
 refine (implEventsOf_any _ _ _ h hx hm).mono ?_;rintro e w2 ⟨v2,rfl,a2,k2⟩;go_wp2_with fail
 refine (seatsOf_any _ _ _ a2.rd h12).mono ?_;rintro e w3 ⟨v3,rfl,rc,k3⟩;have K3:=k2.trans k3;have hf3:=hf.keep K3;have HE:Hid (workB dss=true→rowsB dss f=(decide (f.length=(seatsL (eventsB dss)).length)&&sitK (seatsL (eventsB dss)) f f.length)):=Lib.hid (fun hb=>by rw[sit_same hb,rowsB,hb];rfl);generalize seatsL (eventsB dss)=c at rc HE HS sl;obtain⟨ac,cc,rfl,-⟩:=id rc;obtain⟨af,cf,rfl,-⟩:=id hf3;have hcf:f.length≤cf:=hcap;go_wp2_with fail
 refine (implWorkOk_any _ _ _ (h.keep K3) hx hm).mono ?_;rintro e w4 ⟨rfl,k4⟩;have K4:=K3.trans k4;have hf4:=hf3.keep k4;have rc4:=rc.keep k4;clear h a2 k2 k3 rc hf hf3 K3 k4 hx hm h12 hcap;cases hb:workB dss
 ·
  have HN:Hid (rowsB dss f=false):=Lib.hid (by rw[rowsB,hb];rfl);go_wp2;go_ret;exact⟨by rw[HN.out];rfl,K4⟩
 have HE2:Hid (rowsB dss f=(decide (f.length=c.length)&&sitK c f f.length)):=Lib.hid (HE.out hb);clear HE;by_cases hl:f.length=c.length
 ·
  have hlb:((f.length:Int) != (c.length:Int))=false:=by simp[hl]
  have l1:f.length≤c.length:=by omega
  have HR:Hid (rowsB dss f=sitK c f f.length):=Lib.hid (by rw[HE2.out,decide_eq_true hl];rfl);clear hl HE2;go_wp2;go_loopw [23] (fun i wr=>∃k:Nat,k≤f.length∧i = .int .i64 k∧Hid (sitK c f k=true)∧Keep w4 wr) (fun i _=>f.length-(intOf i).toNat)
  case atStart=>exact⟨0,Nat.zero_le _,rfl,Lib.hid rfl,Keep.refl _⟩
  case round=>
   obtain⟨k,hk,rfl,hS,hK⟩:=hrel;by_cases hlt:k<f.length
   ·
    have rck:=rc4.keep hK;have hfk:=hf4.keep hK;have hft:=hfk.upto (k:=k) hk;obtain⟨a',c',he',rck⟩:=rck;simp only[Value.slice.injEq,true_and] at he';obtain⟨rfl,rfl⟩:=he';rcases rck with h|⟨b,o,rfl,hbb,hc⟩
    · exfalso;rw[h] at l1;simp only[List.length_nil] at l1;omega
    obtain⟨a',c',he',hfk⟩:=hfk;simp only[Value.slice.injEq,true_and] at he';obtain⟨rfl,rfl⟩:=he';rcases hfk with h|⟨b2,o2,rfl,hb2,hc2⟩
    · exfalso;rw[h] at hlt;simp at hlt
    obtain⟨vi,d1,r2⟩:=hc k (by omega);have d2:=hc2 k hlt;have ck:=HS.out k (by omega);have tk:(f.take k).length≤1048576:=by rw[List.length_take];omega
    clear hc hc2;have HB:Hid (sitK c f (k+1)=(sitK c f k&&(isB (c.getD k []) (f.getD k 0)&&!isB (f.take k) (f.getD k 0)))):=Lib.hid rfl;generalize f.getD k 0=n at d2 HB;generalize c.getD k []=zs at r2 ck HB;generalize f.take k=ft at hft tk HB;obtain⟨az,cz,rfl,-⟩:=id r2;have i1:(0:Int)≤(k:Int):=Int.natCast_nonneg _;have i2:(k:Int)<(c.length:Int):=by omega
    have i3:(k:Int)<(f.length:Int):=by omega
    have i4:(k:Int)≤(cf:Int):=by omega
    have CI:=contains_any wr _ zs r2 (by omega) n;have CJ:=contains_any wr _ ft hft (by omega) n;cases hi:isB zs n
    ·
     have HN:Hid (sitK c f f.length=false):=Lib.hid (sitK_false (k:=k+1) (by rw[HB.out,hi];simp) _ hlt);rw[hi] at CI;clear CJ;go_wp2_with fail
     refine CI.mono ?_;rintro e w5 ⟨rfl,rfl⟩;go_wp2;go_ret;exact⟨by rw[HR.out,HN.out];rfl,K4.trans hK⟩
    ·
     rw[hi] at CI;cases hj:isB ft n
     ·
      have HN:Hid (sitK c f (k+1)=true):=Lib.hid (by rw[HB.out,hi,hj,hS.out];rfl);rw[hj] at CJ;go_wp2_with fail
      refine CI.mono ?_;rintro e w5 ⟨rfl,rfl⟩;go_wp2_with fail
      refine CJ.mono ?_;rintro e w6 ⟨rfl,rfl⟩;go_wp2;go_roundw;case rel=>exact⟨k+1,by omega,by go_num,HN,hK⟩
      case measure=>simp[intOf];omega
     ·
      have HN:Hid (sitK c f f.length=false):=Lib.hid (sitK_false (k:=k+1) (by rw[HB.out,hi,hj];simp) _ hlt);rw[hj] at CJ;go_wp2_with fail
      refine CI.mono ?_;rintro e w5 ⟨rfl,rfl⟩;go_wp2_with fail
      refine CJ.mono ?_;rintro e w6 ⟨rfl,rfl⟩;go_wp2;go_ret;exact⟨by rw[HR.out,HN.out];rfl,K4.trans hK⟩
   ·
    obtain rfl:k=f.length:=by omega
    go_wp2;go_ret;exact⟨by rw[HR.out,hS.out];rfl,K4.trans hK⟩
 ·
  have hlb:((f.length:Int) != (c.length:Int))=true:=by simp;omega
  have HR:Hid (rowsB dss f=false):=Lib.hid (by rw[HE2.out,decide_eq_false hl];rfl);clear hl HE2;go_wp2;go_ret;exact⟨by rw[HR.out];rfl,K4⟩
theorem implRowWeb_any (w:World)(v vf:Value)(dss:List (List Dd))(f:List Int)(h:RdW w v dss)(hf:Rd w vf f)(hcap:f.length≤capZ vf)(hx:dss.length≤1048576)(hm:∀i,i<dss.length→(dss.getD i []).length≤1048576)(hfl:f.length≤1048576):
  Calls Tryz.prog 98 #[v,vf] w fun e w'=>∃v',e = .returned v'∧Row w' w.heap.size v' (rwB dss f)∧Keep w w':=by
 have C:=implRowsOk_any w v vf dss f h hf hcap hx hm hfl;cases hs:rowsB dss f
 ·
  have HE:Hid (rwB dss f=[]):=Lib.hid (by rw[rwB,hs];rfl);rw[hs] at C;go_enter Tryz.func98,Tryz.ntmps98
  go_wp2_with fail
  refine C.mono ?_;rintro e w1 ⟨rfl,k1⟩;have s1:=k1.size;go_wp2;go_ret;exact⟨_,rfl,by rw[HE.out];exact (row_empty w1 _).base_le s1,k1.alloc _⟩
 ·
  have h12:(eventsB dss).length≤12:=by have:=eventsB_len9 dss;omega
  have hrl:rowsL (eventsB dss) f=true:=by rw[rowsB,Bool.and_eq_true] at hs;exact hs.2
  obtain⟨-,-,fin⟩:=rows_use h12 hrl;have HE:Hid (rwB dss f=pwAll (eventsB dss) f f.length):=Lib.hid (by rw[pw_same h12 fin,rwB,if_pos hs]);have HW:=Lib.hid (web_pwAll h12 fin);have HX:=Lib.hid (fun (i:Nat) (st:List Int) hi hst=>web_pwIn (es:=eventsB dss) (n:=(eventsB dss).length) (i:=i) (st:=st) fin hi hst);have FIN:=Lib.hid fin;rw[hs] at C;clear fin hrl hs;go_enter Tryz.func98,Tryz.ntmps98
  go_wp2_with fail
  refine C.mono ?_;rintro e w1 ⟨rfl,k1⟩;have s1:=k1.size;go_wp2_with fail
  refine (implEventsOf_any _ _ _ (h.keep k1) hx hm).mono ?_;rintro e w2 ⟨v2,rfl,a2,k2⟩;have s2:=k2.size;have re:=a2.rd;generalize eventsB dss=es at *;obtain⟨ae,ce,rfl,re⟩:=re;go_wp2_with fail
  refine (blank_any _ _ h12).mono ?_;rintro e w3 ⟨rfl,rb,k3⟩;have K2:=k1.trans k2;have hf2:=hf.keep K2;obtain⟨af,cf,rfl,-⟩:=id hf;have hcf:f.length≤cf:=hcap;have sw:w.heap.size≤w2.heap.size:=by omega
  clear C h hx hm a2 k1 k2 hf s1 s2 hcap;go_wp2;go_loopw [23] (fun i wr=>∃k:Nat,k≤f.length∧i = .int .i64 k∧RowAt wr w2.heap.size (pwAll es f k)∧Keep w2 wr) (fun i _=>f.length-(intOf i).toNat)
  case atStart=>exact⟨0,Nat.zero_le _,rfl,rb,k3⟩
  case round=>
   obtain⟨k,hk,rfl,hr,hK⟩:=hrel;clear rb k3;by_cases hlt:k<f.length
   ·
    have hfk:=hf2.keep hK;obtain⟨a',c',he',hfk⟩:=hfk;simp only[Value.slice.injEq,true_and] at he';obtain⟨rfl,rfl⟩:=he';rcases hfk with h0|⟨bf,off,rfl,hbf,hcf'⟩
    · exfalso;rw[h0] at hlt;simp at hlt
    obtain⟨rb,hrb⟩:=Int.eq_ofNat_of_zero_le (FIN.out k hlt).1;have hrbl:rb<es.length:=by have:=(FIN.out k hlt).2;omega
    have d1:=hcf' k hlt;rw[hrb] at d1;have HN:Hid (pwAll es f (k+1)=pwIn es f k (pwAll es f k) k):=Lib.hid rfl;have HWI:=Lib.hid (HX.out k (pwAll es f k) hlt (HW.out k hk).1);generalize pwAll es f k=S0 at hr HN HWI;have i1:(0:Int)≤(k:Int):=Int.natCast_nonneg _;have i2:(k:Int)<(f.length:Int):=by omega
    have i3:(k:Int)≤(cf:Int):=by omega
    clear hcf';go_wp2;clear d1;obtain⟨wo,rfl⟩:∃wo:World,wo=wr:=⟨_,rfl⟩;go_loopw [32] (fun i wr=>∃q:Nat,q≤k∧i = .int .i64 q∧RowAt wr w2.heap.size (pwIn es f k S0 q)∧Keep w2 wr) (fun i _=>k-(intOf i).toNat)
    case atStart=>exact⟨0,Nat.zero_le _,rfl,hr,hK⟩
    case round=>
     clear hr hK;obtain⟨q,hq,rfl,hr,hK⟩:=hrel;by_cases hqk:q<k
     ·
      have hfk:=hf2.keep hK;obtain⟨a',c',he',hfk⟩:=hfk;simp only[Value.slice.injEq,true_and] at he';obtain⟨rfl,rfl⟩:=he';rcases hfk with h0|⟨bf',off',he,hbf',hcf'⟩
      · exfalso;rw[h0] at hlt;simp at hlt
      simp only[Option.some.injEq,Addr.mk.injEq,and_true] at he;obtain⟨rfl,rfl⟩:=he;obtain⟨ra,hra⟩:=Int.eq_ofNat_of_zero_le (FIN.out q (by omega)).1;have hral:ra<es.length:=by have:=(FIN.out q (by omega)).2;omega
      have d2:=hcf' q (by omega);rw[hra] at d2;clear hcf';rcases re with h0|⟨be,oe,rfl,hbe,hce⟩
      · exfalso;rw[h0] at hral;simp at hral
      have AX:=(hce ra _ (evs_get hral)).keep hbe hK;have AY:=(hce rb _ (evs_get hrbl)).keep hbe hK
      have HH:Hid (((es.getD ra zE).2.2.2.1==(es.getD rb zE).2.2.2.1)=true→pwIn es f k S0 (q+1)=(pwIn es f k S0 q).set ra (gAdd ((pwIn es f k S0 q).getD ra 0) (rb:Int))):=Lib.hid (fun e=>by
       rw[pwIn,hra,hrb];unfold plE
       rw[Int.toNat_natCast,Int.toNat_natCast,if_pos e])
      have HM:Hid (((es.getD ra zE).2.2.2.1==(es.getD rb zE).2.2.2.1)=false→pwIn es f k S0 (q+1)=pwIn es f k S0 q):=Lib.hid (fun e=>by
       rw[pwIn,hra,hrb];unfold plE
       rw[Int.toNat_natCast,Int.toNat_natCast,if_neg (by rw[e];simp)])
      have hBl:=(HWI.out q hq).1.2.1;clear hce hra;generalize es.getD ra zE=ex at AX HH HM;generalize es.getD rb zE=ey at AY HH HM;obtain⟨x0,x1,x2,x3,x4,x5⟩:=ex;obtain⟨y0,y1,y2,y3,y4,y5⟩:=ey;obtain⟨A0,A1,A2,A3,A4,A5⟩:=atE AX;obtain⟨B0,B1,B2,B3,B4,B5⟩:=atE AY;clear AX AY;simp only at HH HM;generalize pwIn es f k S0 q=S at hr HH HM hBl;have n1:(0:Int)≤(q:Int):=Int.natCast_nonneg _;have n2:(q:Int)<(k:Int):=by omega
      have n3:(0:Int)≤(ra:Int):=Int.natCast_nonneg _;have n4:(ra:Int)<(es.length:Int):=by omega
      have n5:(0:Int)≤(rb:Int):=Int.natCast_nonneg _;have n6:(rb:Int)<(es.length:Int):=by omega
      have z1:be<wr.drew.heap.size:=Nat.lt_of_lt_of_le hbe hK.size;have CA:=fun u=>areAt_any u x0 x1 x2 x3 x4 x5 y0 y1 y2 y3 y4 y5
      have HO:Hid (onpE (x0,x1,x2,x3,x4,x5) (y0,y1,y2,y3,y4,y5)=(x3==y3)):=Lib.hid rfl;rw[HO.out] at CA;clear HO;cases ht:(x3==y3)
      ·
       have HE1:Hid (pwIn es f k S0 (q+1)=S):=Lib.hid (HM.out ht);rw[ht] at CA;clear HH HM ht;go_wp2
       go_region_held3 (fun w'=>w'.cell? ⟨be,oe+ra*6,none⟩=some (.int .i64 x0)∧w'.cell? ⟨be,oe+ra*6+1,none⟩=some (.int .i64 x1)∧w'.cell? ⟨be,oe+ra*6+2,none⟩=some (.bool x2)∧w'.cell? ⟨be,oe+ra*6+3,none⟩=some (.int .i64 x3)∧w'.cell? ⟨be,oe+ra*6+4,none⟩=some (.int .i64 x4)∧w'.cell? ⟨be,oe+ra*6+5,none⟩=some (.int .i64 x5)∧w'.cell? ⟨be,oe+rb*6,none⟩=some (.int .i64 y0)∧w'.cell? ⟨be,oe+rb*6+1,none⟩=some (.int .i64 y1)∧w'.cell? ⟨be,oe+rb*6+2,none⟩=some (.bool y2)∧w'.cell? ⟨be,oe+rb*6+3,none⟩=some (.int .i64 y3)∧w'.cell? ⟨be,oe+rb*6+4,none⟩=some (.int .i64 y4)∧w'.cell? ⟨be,oe+rb*6+5,none⟩=some (.int .i64 y5))
        (first|go_keep|(go_split_ands;refine⟨?_,?_,?_,?_,?_,?_,?_,?_,?_,?_,?_,?_⟩<;>(rw[kk.cell (by assumption)];assumption)))
        ((go_at_call 154;refine (CA _).mono ?_;rintro e wz ⟨rfl,kk⟩))
       all_goals
        clear A0 A1 A2 A3 A4 A5 B0 B1 B2 B3 B4 B5;go_wp2;go_roundw;case rel=>exact⟨q+1,by omega,by go_num,by rw[HE1.out];exact hr.drew.keep kk,hK.drew.trans kk⟩
        case measure=>simp[intOf];omega
      ·
       have HE1:Hid (pwIn es f k S0 (q+1)=S.set ra (gAdd (S.getD ra 0) (rb:Int))):=Lib.hid (HH.out ht);rw[ht] at CA;clear HH HM ht;go_wp2
       go_region_held3 (fun w'=>w'.cell? ⟨be,oe+ra*6,none⟩=some (.int .i64 x0)∧w'.cell? ⟨be,oe+ra*6+1,none⟩=some (.int .i64 x1)∧w'.cell? ⟨be,oe+ra*6+2,none⟩=some (.bool x2)∧w'.cell? ⟨be,oe+ra*6+3,none⟩=some (.int .i64 x3)∧w'.cell? ⟨be,oe+ra*6+4,none⟩=some (.int .i64 x4)∧w'.cell? ⟨be,oe+ra*6+5,none⟩=some (.int .i64 x5)∧w'.cell? ⟨be,oe+rb*6,none⟩=some (.int .i64 y0)∧w'.cell? ⟨be,oe+rb*6+1,none⟩=some (.int .i64 y1)∧w'.cell? ⟨be,oe+rb*6+2,none⟩=some (.bool y2)∧w'.cell? ⟨be,oe+rb*6+3,none⟩=some (.int .i64 y3)∧w'.cell? ⟨be,oe+rb*6+4,none⟩=some (.int .i64 y4)∧w'.cell? ⟨be,oe+rb*6+5,none⟩=some (.int .i64 y5))
        (first|go_keep|(go_split_ands;refine⟨?_,?_,?_,?_,?_,?_,?_,?_,?_,?_,?_,?_⟩<;>(rw[kk.cell (by assumption)];assumption)))
        ((go_at_call 154;refine (CA _).mono ?_;rintro e wz ⟨rfl,kk⟩))
       all_goals
        clear A0 A1 A2 A3 A4 A5 B0 B1 B2 B3 B4 B5;have hr5:=hr.drew.keep kk;have hK5:=hK.drew.trans kk;go_wp2_with fail
        refine (line_any _ w2.heap.size es.length es.length S ra (rb:Int) hr5 hBl hral).mono ?_;rintro e w7 ⟨rfl,R7,g7⟩;have hK7:Keep w2 w7:=hK5.grown g7 (by simp);go_wp2;go_roundw;case rel=>exact⟨q+1,by omega,by go_num,by rw[HE1.out];exact R7,hK7⟩
        case measure=>simp[intOf];omega
     ·
      obtain rfl:q=k:=by omega
      go_wp2;go_roundw;case rel=>exact⟨q+1,by omega,by go_num,by rw[HN.out];exact hr,hK⟩
      case measure=>simp[intOf];omega
   ·
    obtain rfl:k=f.length:=by omega
    have hl:=(HW.out f.length (Nat.le_refl _)).1.2.1;go_wp2;go_ret;exact⟨_,rfl,by rw[HE.out];exact .inr ⟨w2.heap.size,es.length,by rw[hl];rfl,sw,hr⟩,K2.trans hK⟩
theorem pg_zero:pgC (List.replicate 12 0)=#[.int .i64 0,.int .i64 0,.int .i64 0,.int .i64 0,.int .i64 0,.int .i64 0,.int .i64 0,.int .i64 0,.int .i64 0,.int .i64 0,.int .i64 0,.int .i64 0]:=rfl
theorem pageOf_any (w:World)(v vF vR:Value)(dss:List (List Dd))(f rows:List Int)(h:RdW w v dss)(hf:Rd w vF f)(hr:Rd w vR rows)(hcap:rows.length≤capZ vR)(hx:dss.length≤1048576)(hm:∀i,i<dss.length→(dss.getD i []).length≤1048576)(hfl:f.length≤1048576)(hrl:rows.length≤1048576):
  Calls Tryz.prog 155 #[v,.agg #[vF,vR]] w fun e w'=>e = .returned (pgV (pageB dss f rows))∧Keep w w':=by
 have CS:=fun (W:World) (kW:Keep w W)=>implSourceOk_any W v vF dss f (h.keep kW) (hf.keep kW) hx hm hfl
 have CR:=fun (W:World) (kW:Keep w W)=>implRowsOk_any W v vR dss rows (h.keep kW) (hr.keep kW) hcap hx hm hrl
 have HT:Hid (taleB dss f rows=(sourceB dss f&&rowsB dss rows)):=Lib.hid rfl;have C0:(pgC (List.replicate 12 0)).size=12:=rfl;obtain⟨aF,cF,rfl,-⟩:=id hf;obtain⟨aR,cR,rfl,-⟩:=id hr;obtain⟨W3,hW3⟩:∃W3,W3=(((w.alloc (.cells #[.slice aF f.length cF,.slice aR rows.length cR] 27)).alloc (.cells (pgC (List.replicate 12 0)) 156)).alloc (.cells (pgC (List.replicate 12 0)) 156)):=⟨_,rfl⟩;have K0:Keep w W3:=by rw[hW3];exact (((Keep.refl w).alloc _).alloc _).alloc _
 have z0:W3.heap.size=w.heap.size+3:=by rw[hW3];simp
 have c0:W3.cell? ⟨w.heap.size,0,none⟩=some (.slice aF f.length cF):=by rw[hW3];exact box_cell (((Keep.refl _).alloc _).alloc _) 0
 have c1:W3.cell? ⟨w.heap.size,1,none⟩=some (.slice aR rows.length cR):=by rw[hW3];exact box_cell (((Keep.refl _).alloc _).alloc _) 1
 have p1:Pg W3 (w.heap.size+1) (List.replicate 12 0):=by
  have:=(Pg.new (w:=w.alloc (.cells #[.slice aF f.length cF,.slice aR rows.length cR] 27)) (List.replicate 12 0)).keep ((Keep.refl _).alloc (.cells (pgC (List.replicate 12 0)) 156));rw[heap_size] at this;rw[hW3];exact this
 have p2:Pg W3 (w.heap.size+1+1) (List.replicate 12 0):=by
  have:=(Pg.new (w:=(w.alloc (.cells #[.slice aF f.length cF,.slice aR rows.length cR] 27)).alloc (.cells (pgC (List.replicate 12 0)) 156)) (List.replicate 12 0));rw[heap_size,heap_size] at this;rw[hW3];exact this
 generalize hS:sourceB dss f=S at CS HT;generalize hR:rowsB dss rows=R at CR HT;have HW:Hid (W3=(((w.alloc (.cells #[.slice aF f.length cF,.slice aR rows.length cR] 27)).alloc (.cells (pgC (List.replicate 12 0)) 156)).alloc (.cells (pgC (List.replicate 12 0)) 156))):=Lib.hid hW3;have HF:(S&&R)=false→∀(W:World),Keep W3 W→Hid (Keep w (W.setRow (w.heap.size+1) (pgC (List.replicate 12 0)))∧(W.setRow (w.heap.size+1) (pgC (List.replicate 12 0))).heap[w.heap.size+1]? = some (.cells (pgC (List.replicate 12 0)) 156 (0,0))∧pageB dss f rows=List.replicate 12 0):=fun e W kW=>Lib.hid ⟨(K0.trans kW).grown (grown_setRow _ _ _) (fun k hk=>by have:=Option.some.inj hk;omega),heap_setRow_same _ _ _ _ _ (p1.keep kW),by rw[pageB,HT.out,e];rfl⟩
 have BT:Hid (W3.heap[w.heap.size]? = some (taleC (.slice aF f.length cF) (.slice aR rows.length cR))):=Lib.hid (by rw[hW3];exact box_heap (((Keep.refl _).alloc _).alloc _));clear hW3;have B0:=Lib.hid c0;have B1:=Lib.hid c1;have P1:=Lib.hid p1;have P2:=Lib.hid p2;clear c0 c1 p1 p2;go_enter Tryz.func155,Tryz.ntmps155
 go_wp2_with fail
 rw[←pg_zero,←HW.out];refine (CS _ K0).mono ?_;rintro e w1 ⟨rfl,k1⟩;have c0:=(k1.cell (by omega)).trans B0.out;have c1:=(k1.cell (by omega)).trans B1.out;cases S
 ·
  have HF:=HF rfl _ k1;clear c0 c1;have q1:=P1.out.keep k1;have q2:=P2.out.keep k1;unfold Pg at q1 q2;go_wp2_with (first|refine wpList_load_row rfl 156 _ rfl (w.heap.size+1+1) rfl 156 _ (0,0) _ q2 Tryz.underlying156 rfl (by rw[C0];exact page_info) ?_|refine wpList_store_row rfl 156 _ _ rfl (w.heap.size+1) _ rfl rfl 156 _ q1 (by rw[C0];exact page_info) rfl (pg_one _) ?_)
  refine bodyPost_ret (results_row (by rfl) _ _ (w.heap.size+1) 156 _ (0,0) _ rfl HF.out.2.1 Tryz.underlying156 rfl (by rw[C0];exact page_info)) rfl ?_;exact⟨by rw[HF.out.2.2],HF.out.1⟩
 ·
  go_wp2_with fail
  refine (CR _ (K0.trans k1)).mono ?_;rintro e w2 ⟨rfl,k2⟩;have k12:=k1.trans k2;replace c0:=(k2.cell (by have:=k1.size;omega)).trans c0;replace c1:=(k2.cell (by have:=k1.size;omega)).trans c1;cases R
  ·
   have HF:=HF rfl _ k12;clear c0 c1;have q1:=P1.out.keep k12;have q2:=P2.out.keep k12;unfold Pg at q1 q2;go_wp2_with (first|refine wpList_load_row rfl 156 _ rfl (w.heap.size+1+1) rfl 156 _ (0,0) _ q2 Tryz.underlying156 rfl (by rw[C0];exact page_info) ?_|refine wpList_store_row rfl 156 _ _ rfl (w.heap.size+1) _ rfl rfl 156 _ q1 (by rw[C0];exact page_info) rfl (pg_one _) ?_)
   refine bodyPost_ret (results_row (by rfl) _ _ (w.heap.size+1) 156 _ (0,0) _ rfl HF.out.2.1 Tryz.underlying156 rfl (by rw[C0];exact page_info)) rfl ?_;exact⟨by rw[HF.out.2.2],HF.out.1⟩
  ·
   have hT:taleB dss f rows=true:=by rw[HT.out];rfl
   obtain⟨hx12,sl,f12,r36,-,-,ru,fu,-⟩:=page_use hT;have HE:Hid (pageB dss f rows=pgK (idxB rdE (eventsB dss)) f (sitS rows rows.length) (idxB rdE (eventsB dss)).length):=Lib.hid (by rw[pageB,if_pos hT];rfl);have RU:=Lib.hid ru;have FU:=Lib.hid fu;have SL:=Lib.hid sl;clear HF hT ru fu sl CS CR HT HW;have K2:=K0.trans k12;have q1:=P1.out.keep k12;have q2:=P2.out.keep k12;have z2:=k12.size;have BT:Hid (w2.heap[w.heap.size]? = some (taleC (.slice aF f.length cF) (.slice aR rows.length cR))):=Lib.hid ((Below.block k12 _ (by omega)).trans BT.out);have Q1:=Lib.hid q1;clear P1 P2 q1 k1 k2 k12;go_wp2;clear c0 c1;go_loopw [26] (fun i wr=>∃k:Nat,k≤rows.length∧i = .int .i64 k∧Pg wr (w.heap.size+1+1) (sitS rows k)∧w2.grownBy wr (some (w.heap.size+1+1))) (fun i _=>rows.length-(intOf i).toNat)
   case atStart=>exact⟨0,Nat.zero_le _,rfl,q2,World.grownBy.refl _ _⟩
   case round=>
    obtain⟨k,hk,rfl,hp,G⟩:=hrel;clear q2;have K3:Keep w wr:=K2.grown G (fun j hj=>by have:=Option.some.inj hj;omega);by_cases hlt:k<rows.length
    ·
     have hrk:=hr.keep K3;obtain⟨a',c',he',hrk⟩:=hrk;simp only[Value.slice.injEq,true_and] at he';obtain⟨rfl,rfl⟩:=he';rcases hrk with h0|⟨bf,off,rfl,hbf,hcf'⟩
     · exfalso;rw[h0] at hlt;simp at hlt
     obtain⟨rb,hrb⟩:=Int.eq_ofNat_of_zero_le (RU.out k hlt).1;have hrbl:rb<12:=by have:=(RU.out k hlt).2;omega
     have d1:=hcf' k hlt;rw[hrb] at d1;have HN:Hid (sitS rows (k+1)=(sitS rows k).set rb (k:Int)):=Lib.hid (by rw[sitS,hrb,Int.toNat_natCast]);have hl:(sitS rows k).length=12:=sitS_len _ _;have d2:=hp.cell (j:=rb) (by omega);have d3:=hp.free rb;generalize sitS rows k=S0 at hp HN hl d2;have i1:(0:Int)≤(k:Int):=Int.natCast_nonneg _;have i2:(k:Int)<(rows.length:Int):=by omega
     have j1:(0:Int)≤(rb:Int):=Int.natCast_nonneg _;have j2:(rb:Int)<12:=by omega
     clear hcf' hl hrb;go_wp2;go_roundw;case rel=>exact⟨k+1,by omega,by go_num,by rw[HN.out];exact hp.set rb _,grown_trans G (grown_set _ _ _ _)⟩
     case measure=>simp[intOf];omega
    ·
     obtain rfl:k=rows.length:=by omega
     go_wp2_with fail
     refine (implEventsOf_any _ _ _ (h.keep K3) hx hm).mono ?_;rintro e w4 ⟨v4,rfl,a4,k4⟩;have bt:=(G.block w.heap.size (by omega) (fun e=>by have:=Option.some.inj e;omega)).trans BT.out;have q1:=Q1.out.kept G (fun e=>by have:=Option.some.inj e;omega);have zr:=G.size;have re:=a4.rd;go_wp2_with fail
     refine (implReadsOf_any _ _ _ re (by omega)).mono ?_;rintro e w5 ⟨v5,rfl,o5,k5⟩;have K5:=(K3.trans k4).trans k5;have k45:=k4.trans k5;replace bt:=(Below.block k45 _ (by omega)).trans bt;replace q1:=q1.keep k45;replace hp:=hp.keep k45;have z4:=k4.size;have hB:w.heap.size+1+1<w4.heap.size:=by omega
     have z5:=k5.size;clear re a4 k4 k5 k45 G BT Q1 K3 K2 hr hcap;generalize eventsB dss=es at *;generalize idxB rdE es=rs at *;have HS:Hid (∀k,(pgK rs f (sitS rows rows.length) k).length=12):=Lib.hid (fun k=>by rw[pgK_len,sitS_len]);obtain⟨a5,c5,rfl,-⟩:=o5.rd;have R12:rs.length≤12:=by rw[SL.out];exact f12
     go_wp2;go_loopw [39] (fun i wr=>∃k:Nat,k≤rs.length∧i = .int .i64 k∧Pg wr (w.heap.size+1+1) (pgK rs f (sitS rows rows.length) k)∧w5.grownBy wr (some (w.heap.size+1+1))) (fun i _=>rs.length-(intOf i).toNat)
     case atStart=>exact⟨0,Nat.zero_le _,rfl,hp,World.grownBy.refl _ _⟩
     case round=>
      clear hp;obtain⟨k,hk,rfl,hp,G⟩:=hrel;have K6:Keep w wr:=K5.grown G (fun j hj=>by have:=Option.some.inj hj;omega);by_cases hlt:k<rs.length
      ·
       have hlf:k<f.length:=by rw[←SL.out];exact hlt
       have hrk:=(o5.other hB G).rd;obtain⟨a',c',he',hrk⟩:=hrk;simp only[Value.slice.injEq,true_and] at he';obtain⟨rfl,rfl⟩:=he';rcases hrk with h0|⟨bf,off,rfl,hbf,hcf'⟩
       · exfalso;rw[h0] at hlt;simp at hlt
       have hfk:=hf.keep K6;obtain⟨a',c',he',hfk⟩:=hfk;simp only[Value.slice.injEq,true_and] at he';obtain⟨rfl,rfl⟩:=he';rcases hfk with h0|⟨bg,oft,rfl,hbg,hcg'⟩
       · exfalso;rw[h0] at hlf;simp at hlf
       have bk:=(G.block w.heap.size (by omega) (fun e=>by have:=Option.some.inj e;omega)).trans bt;have c0:wr.cell? ⟨w.heap.size,0,none⟩=some _:=cell_of_row _ _ 0 _ _ (0,0) bk;obtain⟨⟨f0,f1⟩,⟨r0,r1⟩,-⟩:=FU.out k hlf;obtain⟨rb,hrb⟩:=Int.eq_ofNat_of_zero_le r0;obtain⟨fb,hfb⟩:=Int.eq_ofNat_of_zero_le f0;have hrbl:rb<12:=by omega
       have hfbl:fb<12:=by omega
       have d1:=hcf' k hlt;rw[hrb] at d1;have e1:=hcg' k hlf;rw[hfb] at e1;have HN:Hid (pgK rs f (sitS rows rows.length) (k+1)=(pgK rs f (sitS rows rows.length) k).set rb ((pgK rs f (sitS rows rows.length) k).getD fb 0)):=Lib.hid (by rw[pgK,hrb,hfb,Int.toNat_natCast,Int.toNat_natCast]);have hl:=HS.out k;have d2:=hp.cell (j:=rb) (by omega);have d3:=hp.free rb;have d4:=hp.cell (j:=fb) (by omega);generalize pgK rs f (sitS rows rows.length) k=S0 at hp HN hl d2 d4;have i1:(0:Int)≤(k:Int):=Int.natCast_nonneg _;have i2:(k:Int)<(rs.length:Int):=by omega
       have i3:(k:Int)<(f.length:Int):=by omega
       have j1:(0:Int)≤(rb:Int):=Int.natCast_nonneg _;have j2:(rb:Int)<12:=by omega
       have l1:(0:Int)≤(fb:Int):=Int.natCast_nonneg _;have l2:(fb:Int)<12:=by omega
       clear hcf' hcg' hl hrb hfb f0 f1 r0 r1 bk bt q1;go_wp2;go_roundw;case rel=>exact⟨k+1,by omega,by go_num,by rw[HN.out];exact hp.set rb _,grown_trans G (grown_set _ _ _ _)⟩
       case measure=>simp[intOf];omega
      ·
       obtain rfl:k=rs.length:=by omega
       have q3:=q1.kept G (fun e=>by have:=Option.some.inj e;omega);have hl:=HS.out rs.length;rw[←HE.out] at hl hp;have PS:=pg_size hl;have PI:(Tryz.prog.info? 156).map (·.size)=some (pgC (pageB dss f rows)).size:=by rw[PS];exact page_info
       have HF:Hid (Keep w (wr.setRow (w.heap.size+1) (pgC (pageB dss f rows)))∧(wr.setRow (w.heap.size+1) (pgC (pageB dss f rows))).heap[w.heap.size+1]? = some (.cells (pgC (pageB dss f rows)) 156 (0,0))):=Lib.hid ⟨K6.grown (grown_setRow _ _ _) (fun k hk=>by have:=Option.some.inj hk;omega),heap_setRow_same _ _ _ _ _ q3⟩;have HO:Hid ((pgC (List.replicate 12 0)).size=(pgC (pageB dss f rows)).size):=Lib.hid (by rw[PS];rfl);have HI:=Lib.hid PI;have HP:=Lib.hid (pg_one (pageB dss f rows));clear PI PS hl HE HS bt q1;unfold Pg at hp q3;obtain⟨P,hP⟩:∃P,P=pgC (pageB dss f rows):=⟨_,rfl⟩;rw[←hP] at hp HI HF HO HP;have HQ:=Lib.hid hP;clear hP;go_wp2_with (first|refine wpList_load_row rfl 156 _ rfl (w.heap.size+1+1) rfl 156 _ (0,0) _ hp Tryz.underlying156 rfl HI.out ?_|refine wpList_store_row rfl 156 _ _ rfl (w.heap.size+1) _ rfl rfl 156 _ q3 HI.out HO.out HP.out ?_)
       refine bodyPost_ret (results_row (by rfl) _ _ (w.heap.size+1) 156 _ (0,0) _ rfl HF.out.2 Tryz.underlying156 rfl HI.out) rfl ?_;exact⟨by rw[HQ.out],HF.out.1⟩
theorem idx_top {es:List Ev}(hx:es.length≤12)(t:Ev→Bool):(idxB t es).length≤12:=by
 unfold idxB;rw[if_pos hx];have:=idxK_len t es es.length;omega
theorem implAgainstWeb_any (w:World)(v vF vR:Value)(dss:List (List Dd))(f rows:List Int)(h:RdW w v dss)(hf:Rd w vF f)(hr:Rd w vR rows)(hcap:rows.length≤capZ vR)(hx:dss.length≤1048576)(hm:∀i,i<dss.length→(dss.getD i []).length≤1048576)(hfl:f.length≤1048576)(hrl:rows.length≤1048576):
  Calls Tryz.prog 99 #[v,.agg #[vF,vR]] w fun e w'=>∃v',e = .returned v'∧Row w' w.heap.size v' (agB dss f rows)∧Keep w w':=by
 have C:=fun (W:World) (kW:Keep w W)=>pageOf_any W v vF vR dss f rows (h.keep kW) (hf.keep kW) (hr.keep kW) hcap hx hm hfl hrl
 have CB:=fun (W:World)=>isBlank_any W (pageB dss f rows) (pageB_len dss f rows)
 rw[page_blank] at CB;have hPl:=pageB_len dss f rows;have HP:taleB dss f rows=true→Hid (pageB dss f rows=pageL (eventsB dss) f rows):=fun e=>Lib.hid (by rw[pageB,if_pos e])
 obtain⟨P,hP⟩:∃P,P=pageB dss f rows:=⟨_,rfl⟩;rw[←hP] at C CB hPl HP;clear hP;obtain⟨aF,cF,rfl,-⟩:=hf;obtain⟨aR,cR,rfl,-⟩:=hr;have PI:(Tryz.prog.info? 156).map (·.size)=some (pgC P).size:=by rw[pg_size hPl];exact page_info
 have HI:=Lib.hid PI;have HO:Hid ((pgC (List.replicate 12 0)).size=(pgC P).size):=Lib.hid (by rw[pg_size hPl];rfl);have H1:=Lib.hid (pg_one P);clear PI;go_enter Tryz.func99,Tryz.ntmps99
 go_wp2_with fail
 refine (C _ ((Keep.refl w).alloc _)).mono ?_;rintro e w1 ⟨rfl,k1⟩;have K1:=((Keep.refl w).alloc _).trans k1;have hz:=Pg.new (w:=w1) (List.replicate 12 0);have h1:((w1.alloc (.cells (pgC (List.replicate 12 0)) 156)).setRow w1.heap.size (pgC P)).heap[w1.heap.size]? = some (.cells (pgC P) 156 (0,0)):=heap_setRow_same _ _ _ _ _ hz;have k2:Keep w1 ((w1.alloc (.cells (pgC (List.replicate 12 0)) 156)).setRow w1.heap.size (pgC P)):=((Keep.refl w1).alloc _).grown (grown_setRow _ _ _) (fun k hk=>by have:=Option.some.inj hk;omega);clear k1 C;unfold Pg at hz;go_wp2_with (first|refine wpList_store_row rfl 156 _ _ rfl w1.heap.size _ rfl rfl 156 _ hz HI.out HO.out H1.out ?_|refine wpList_load_row rfl 156 _ rfl w1.heap.size rfl 156 _ (0,0) _ h1 Tryz.underlying156 rfl HI.out ?_|fail)
 have HH:=Lib.hid h1;have z1:w1.heap.size<((w1.alloc (.cells (pgC (List.replicate 12 0)) 156)).setRow w1.heap.size (pgC P)).heap.size:=by simp
 refine (CB _).mono ?_;rintro e w2 ⟨rfl,k3⟩;have K2:=(K1.trans k2).trans k3;have s1:=K1.size;have pg:Pg w2 w1.heap.size P:=(Below.block k3 _ z1).trans HH.out;clear hz h1 k2 k3 z1 HH HI HO H1 CB;cases hb:taleB dss f rows
 ·
  have HE:Hid (agB dss f rows=[]):=Lib.hid (by rw[agB,hb];rfl);have s2:=K2.size;clear hb HP;go_wp2;go_ret;exact⟨_,rfl,by rw[HE.out];exact (row_empty w2 _).base_le s2,K2.alloc _⟩
 ·
  have HP:=HP hb;obtain⟨h12,sl,f12,-,-,-,-,fu,-⟩:=page_use hb;have fin:∀i,i<(idxB rdE (eventsB dss)).length→0≤(idxB rdE (eventsB dss)).getD i 0∧(idxB rdE (eventsB dss)).getD i 0<((eventsB dss).length:Int):=fun i hi=>(fu i (by omega)).2.1
  have HE:Hid (agB dss f rows=agO (eventsB dss) P (idxB rdE (eventsB dss)) (idxB rdE (eventsB dss)).length):=Lib.hid (by rw[HP.out,ag_same hb]);have HWO:=Lib.hid (web_agO (p:=P) h12 fin);have HWI:=Lib.hid (fun (r:Nat) (p0:Int) (st:List Int) hr hst=>web_agI (p:=P) (ws:=idxB (toE p0) (eventsB dss)) (n:=(eventsB dss).length) (r:=r) (st:=st) (fun j hj=>(idx_all h12 (get_mem hj)).1) hr hst);have FIN:=Lib.hid fin;have WIN:=Lib.hid (fun (p0:Int) (j:Nat) (hj:j<(idxB (toE p0) (eventsB dss)).length)=>(idx_all h12 (get_mem hj)).1);have R12:(idxB rdE (eventsB dss)).length≤12:=by omega
  clear fin fu sl f12 hb HP;go_wp2_with fail
  refine (implEventsOf_any _ _ _ (h.keep K2) hx hm).mono ?_;rintro e w3 ⟨v3,rfl,a3,k3⟩;have s3:=k3.size;have s2:=K2.size;replace pg:=pg.keep k3;have re:=a3.rd;have K3:=K2.trans k3;generalize eventsB dss=es at *;obtain⟨ae,ce,rfl,re'⟩:=id re;go_wp2_with fail
  refine (blank_any _ _ h12).mono ?_;rintro e w4 ⟨rfl,rb,k4⟩;have s4:=rb.lt;go_wp2_with fail
  refine (implReadsOf_any _ _ _ (re.keep k4) (by omega)).mono ?_;rintro e w5 ⟨v5,rfl,o5,k5⟩;have s5:=k5.size;replace rb:=rb.keep k5;have k35:=k4.trans k5;obtain⟨a5,c5,rfl,-⟩:=o5.rd;generalize idxB rdE es=rs at *;clear a3 k4 k5 K1 K2 k3 h hx hm hcap;have pl:=pg.lt;go_wp2;go_loopw [26] (fun i wr=>∃k:Nat,k≤rs.length∧i = .int .i64 k∧RowAt wr w3.heap.size (agO es P rs k)∧w5.grownBy wr (some w3.heap.size)) (fun i _=>rs.length-(intOf i).toNat)
  case atStart=>exact⟨0,Nat.zero_le _,rfl,rb,World.grownBy.refl _ _⟩
  case round=>
   obtain⟨k,hk,rfl,hr,G⟩:=hrel;clear rb;have kr:Keep w3 wr:=k35.grown G (fun j hj=>by have:=Option.some.inj hj;omega);by_cases hlt:k<rs.length
   ·
    have hrk:=(o5.other (by omega) G).rd;obtain⟨a',c',he',hrk⟩:=hrk;simp only[Value.slice.injEq,true_and] at he';obtain⟨rfl,rfl⟩:=he';rcases hrk with h0|⟨bf,off,rfl,hbf,hcf'⟩
    · exfalso;rw[h0] at hlt;simp at hlt
    obtain⟨ra,hra⟩:=Int.eq_ofNat_of_zero_le (FIN.out k hlt).1;have hral:ra<es.length:=by have:=(FIN.out k hlt).2;omega
    have d1:=hcf' k hlt;rw[hra] at d1;clear hcf';rcases re' with h0|⟨be,oe,rfl,hbe,hce⟩
    · exfalso;rw[h0] at hral;simp at hral
    have AX:=(hce ra _ (evs_get hral)).keep hbe kr;have CW:=fun (W:World) (kW:Keep w3 W)=>implWritesTo_any W _ es (re.keep kW) (by omega) (es.getD ra zE).2.2.2.1
    have HN:Hid (agO es P rs (k+1)=agI P ra (idxB (toE (es.getD ra zE).2.2.2.1) es) (agO es P rs k) (idxB (toE (es.getD ra zE).2.2.2.1) es).length):=Lib.hid (by rw[agO,hra];unfold plE;rw[Int.toNat_natCast]);have HX:=Lib.hid (HWI.out ra (es.getD ra zE).2.2.2.1 (agO es P rs k) hral (HWO.out k hk).1);have HW:=Lib.hid (WIN.out (es.getD ra zE).2.2.2.1);generalize agO es P rs k=S0 at hr HN HX;generalize es.getD ra zE=ex at AX CW HN HX HW;obtain⟨x0,x1,x2,x3,x4,x5⟩:=ex;obtain⟨A0,A1,A2,A3,A4,A5⟩:=atE AX;simp only at CW HN HX HW A3;clear AX hce A0 A1 A2 A4 A5 hra;have i1:(0:Int)≤(k:Int):=Int.natCast_nonneg _;have i2:(k:Int)<(rs.length:Int):=by omega
    have i3:(0:Int)≤(ra:Int):=Int.natCast_nonneg _;have i4:(ra:Int)<(es.length:Int):=by omega
    go_wp2_with fail
    refine (CW _ kr).mono ?_;rintro e w6 ⟨v6,rfl,o6,k6⟩;clear CW d1 A3;have W12:=idx_top h12 (toE x3);generalize idxB (toE x3) es=ws at *;obtain⟨a6,c6,rfl,-⟩:=o6.rd;replace hr:=hr.keep k6;have kr6:=kr.trans k6;have sr:=G.size;have G6:w5.grownBy w6 (some w3.heap.size):=grown_trans G ⟨Below.os k6,Below.tape k6,Below.output k6,Below.size k6,fun i hi _=>Below.block k6 i hi⟩;clear kr G;go_wp2;go_loopw [38] (fun i wq=>∃q:Nat,q≤ws.length∧i = .int .i64 q∧RowAt wq w3.heap.size (agI P ra ws S0 q)∧w6.grownBy wq (some w3.heap.size)) (fun i _=>ws.length-(intOf i).toNat)
    case atStart=>exact⟨0,Nat.zero_le _,rfl,hr,World.grownBy.refl _ _⟩
    case round=>
     clear hr;obtain⟨q,hq,rfl,hr,Gq⟩:=hrel;have kq:Keep w3 wr:=kr6.grown Gq (fun j hj=>by have:=Option.some.inj hj;omega);by_cases hqk:q<ws.length
     ·
      have hrk:=(o6.other (by omega) Gq).rd;obtain⟨a',c',he',hrk⟩:=hrk;simp only[Value.slice.injEq,true_and] at he';obtain⟨rfl,rfl⟩:=he';rcases hrk with h0|⟨bg,ofg,rfl,hbg,hcg'⟩
      · exfalso;rw[h0] at hqk;simp at hqk
      obtain⟨rb,hrb⟩:=Int.eq_ofNat_of_zero_le (HW.out q hqk).1;have hrbl:rb<es.length:=by have:=(HW.out q hqk).2;omega
      have d2:=hcg' q hqk;rw[hrb] at d2;have pq:=pg.keep kq;have p1:=pq.cell (j:=ra) (by omega);have p2:=pq.cell (j:=rb) (by omega);have hBl:=(HX.out q hq).1.2.1;have HY:P.getD ra 0<P.getD rb 0→Hid (agI P ra ws S0 (q+1)=(agI P ra ws S0 q).set ra (gAdd ((agI P ra ws S0 q).getD ra 0) (rb:Int))):=fun e=>Lib.hid (by rw[agI,hrb,Int.toNat_natCast,if_pos (decide_eq_true e)])
      have HM:¬P.getD ra 0<P.getD rb 0→Hid (agI P ra ws S0 (q+1)=agI P ra ws S0 q):=fun e=>Lib.hid (by rw[agI,hrb,Int.toNat_natCast,if_neg (by simpa using e)])
      clear hcg' hrb;generalize agI P ra ws S0 q=S at hr HY HM hBl;generalize P.getD ra 0=pa at p1 HY HM;generalize P.getD rb 0=pb at p2 HY HM;have n1:(0:Int)≤(q:Int):=Int.natCast_nonneg _;have n2:(q:Int)<(ws.length:Int):=by omega
      have n3:(0:Int)≤(rb:Int):=Int.natCast_nonneg _;have n4:(rb:Int)<12:=by omega
      have n5:(ra:Int)<12:=by omega
      have n6:(0:Int)≤(ra:Int):=Int.natCast_nonneg _;by_cases hp:pa<pb
      ·
       have HE1:=HY hp;clear HY HM;go_wp2;go_quiet (fail)
       clear p1 p2 d2;go_wp2_with fail
       refine (line_any _ w3.heap.size es.length es.length S ra (rb:Int) (hr.drewN _) hBl hral).mono ?_;rintro e w7 ⟨rfl,R7,g7⟩;have G7:=grown_trans (grown_trans Gq (grown_draw wr _ _)) g7;go_wp2;go_roundw;case rel=>exact⟨q+1,by omega,by go_num,by rw[HE1.out];exact R7,G7⟩
       case measure=>simp[intOf];omega
      ·
       have HE1:=HM hp;have hp':pb≤pa:=by omega
       clear HY HM;go_wp2;go_quiet (fail)
       clear p1 p2 d2;go_wp2;go_roundw;case rel=>exact⟨q+1,by omega,by go_num,by rw[HE1.out];exact hr.drewN _,grown_trans Gq (grown_draw wr _ _)⟩
       case measure=>simp[intOf];omega
     ·
      obtain rfl:q=ws.length:=by omega
      go_wp2;go_roundw;case rel=>exact⟨k+1,by omega,by go_num,by rw[HN.out];exact hr,grown_trans G6 Gq⟩
      case measure=>simp[intOf];omega
   ·
    obtain rfl:k=rs.length:=by omega
    have hl:=(HWO.out rs.length (Nat.le_refl _)).1.2.1;go_wp2;go_ret;exact⟨_,rfl,by rw[HE.out];exact .inr ⟨w3.heap.size,es.length,by rw[hl];rfl,by omega,hr⟩,K3.trans kr⟩
theorem sw_chain (dss:List (List Dd))(f rows:List Int):chnL (kepL dss (eventsB dss)) (owB dss f) (rwB dss rows) (agB dss f rows)=swB dss f rows:=by
 cases hb:taleB dss f rows with
 |false=>
  rw[swB,agB,hb];exact mix_none _ _
 |true=>
  obtain⟨hw,hs,hr⟩:=tale_use hb;have h12:=(events_law hw).1;have e1:eventsB dss=evsW dss dss.length:=by rw[eventsB,if_pos hw]
  rw[←e1] at h12;have W:=webs_of h12 hs hr;have hb2:=hb;unfold taleB at hb2;rw[Bool.and_eq_true] at hb2;rw[swB,agB,if_pos hb,if_pos hb,owB,if_pos hb2.1,rwB,if_pos hb2.2];exact web_chn (kep_line h12).1 (ow_line W).1 W.rw' W.ag
theorem slowAhead_any (w:World)(v:Value)(dss:List (List Dd))(h:RdW w v dss)(hx:dss.length≤1048576)(hm:∀i,i<dss.length→(dss.getD i []).length≤1048576):
  Calls Tryz.prog 232 #[.agg #[],v] w fun e w'=>∃v',e = .returned v'∧Row w' w.heap.size v' (kepL dss (eventsB dss))∧Keep w w':=by
 go_enter Tryz.func232,Tryz.ntmps232
 go_wp2_with fail
 refine (implKept_any _ v dss (h.keep ((Keep.refl w).alloc (.cells #[] 65))) hx hm).mono ?_;rintro e w1 ⟨v',rfl,o,k⟩;have K:=(((Keep.refl w).alloc (.cells #[] 65))).trans k;have O:=o.base_le (((Keep.refl w).alloc (.cells #[] 65))).size;clear o k;obtain⟨a,c,rfl,-⟩:=id O.rd;go_wp2;go_ret;exact⟨_,rfl,O,K⟩
theorem slowOnBoard_any (w:World)(v vF:Value)(dss:List (List Dd))(f:List Int)(h:RdW w v dss)(hf:Rd w vF f)(hx:dss.length≤1048576)(hm:∀i,i<dss.length→(dss.getD i []).length≤1048576)(hfl:f.length≤1048576):
  Calls Tryz.prog 233 #[.agg #[],v,vF] w fun e w'=>∃v',e = .returned v'∧Row w' w.heap.size v' (owB dss f)∧Keep w w':=by
 go_enter Tryz.func233,Tryz.ntmps233
 go_wp2_with fail
 refine (implFromOthers_any _ v vF dss f (h.keep ((Keep.refl w).alloc (.cells #[] 65))) (hf.keep ((Keep.refl w).alloc (.cells #[] 65))) hx hm hfl).mono ?_;rintro e w1 ⟨v',rfl,o,k⟩;have K:=(((Keep.refl w).alloc (.cells #[] 65))).trans k;have O:=o.base_le (((Keep.refl w).alloc (.cells #[] 65))).size;clear o k;obtain⟨a,c,rfl,-⟩:=id O.rd;go_wp2;go_ret;exact⟨_,rfl,O,K⟩
@[go_sem] theorem slowHas (v:Value) (w:World):(Instr.typeAssert (.iface 65 v) 110 153 true).run Tryz.prog w = .ok (.tuple #[.iface 65 v,.bool true]) w:=run_typeAssert_hasB Tryz.underlying153 (by kernel_rfl) v 110 w
theorem slowIn_any (w:World)(v vF:Value)(dss:List (List Dd))(f:List Int)(h:RdW w v dss)(hf:Rd w vF f)(hx:dss.length≤1048576)(hm:∀i,i<dss.length→(dss.getD i []).length≤1048576)(hfl:f.length≤1048576):
  Calls Tryz.prog 97 #[.iface 65 (.agg #[]),v,vF] w fun e w'=>∃v',e = .returned v'∧Row w' w.heap.size v' (owB dss f)∧Keep w w':=by
 go_enter Tryz.func97,Tryz.ntmps97
 go_wp2_with fail
 refine (slowOnBoard_any w v vF dss f h hf hx hm hfl).mono ?_;rintro e w1 ⟨v',rfl,o,k⟩;have K:=((Keep.refl w)).trans k;have O:=o.base_le ((Keep.refl w)).size;clear o k;obtain⟨a,c,rfl,-⟩:=id O.rd;go_wp2;go_ret;exact⟨_,rfl,O,K⟩
theorem slowWeb_any (w:World)(v vF vR:Value)(dss:List (List Dd))(f rows:List Int)(h:RdW w v dss)(hf:Rd w vF f)(hr:Rd w vR rows)(hcap:rows.length≤capZ vR)(hx:dss.length≤1048576)(hm:∀i,i<dss.length→(dss.getD i []).length≤1048576)(hfl:f.length≤1048576)(hrl:rows.length≤1048576):
  Calls Tryz.prog 52 #[.iface 65 (.agg #[]),v,.agg #[vF,vR]] w fun e w'=>∃v',e = .returned v'∧Row w' w.heap.size v' (swB dss f rows)∧Keep w w':=by
 have C1:=Lib.hid (fun (W:World) (kW:Keep w W)=>slowAhead_any W v dss (h.keep kW) hx hm);have C2:=Lib.hid (fun (W:World) (kW:Keep w W)=>slowIn_any W v vF dss f (h.keep kW) (hf.keep kW) hx hm hfl);have C3:=Lib.hid (fun (W:World) (kW:Keep w W)=>implRowWeb_any W v vR dss rows (h.keep kW) (hr.keep kW) hcap hx hm hrl);have C4:=Lib.hid (fun (W:World) (kW:Keep w W)=>implAgainstWeb_any W v vF vR dss f rows (h.keep kW) (hf.keep kW) (hr.keep kW) hcap hx hm hfl hrl);have HE:=Lib.hid (sw_chain dss f rows)
 have lA:(kepL dss (eventsB dss)).length≤1048576:=by
  have h9:=eventsB_len9 dss;have:=(kep_line (dss:=dss) (es:=eventsB dss) (by omega)).1.2.1;omega
 have lF:(owB dss f).length≤1048576:=by have:=owB_len dss f;omega
 have lR:(rwB dss rows).length≤1048576:=by have:=rwB_len dss rows;omega
 have lG:(agB dss f rows).length≤1048576:=by have:=agB_len dss f rows;omega
 generalize swB dss f rows=L at *;generalize kepL dss (eventsB dss)=L1 at *;generalize owB dss f=L2 at *;generalize rwB dss rows=L3 at *;generalize agB dss f rows=L4 at *;clear h hcap hx hm hfl hrl;obtain⟨aF,cF,rfl,-⟩:=hf;obtain⟨aR,cR,rfl,-⟩:=hr;go_enter Tryz.func52,Tryz.ntmps52
 have b0:(w.alloc (.cells #[.slice aF f.length cF,.slice aR rows.length cR] 27)).cell? ⟨w.heap.size,0,none⟩=some (.slice aF f.length cF):=box_cell (Keep.refl _) 0;have b1:(w.alloc (.cells #[.slice aF f.length cF,.slice aR rows.length cR] 27)).cell? ⟨w.heap.size,1,none⟩=some (.slice aR rows.length cR):=box_cell (Keep.refl _) 1;have K0:Keep w (w.alloc (.cells #[.slice aF f.length cF,.slice aR rows.length cR] 27)).drew:=((Keep.refl w).alloc _).drew;have z0:w.heap.size<(w.alloc (.cells #[.slice aF f.length cF,.slice aR rows.length cR] 27)).drew.heap.size:=by simp
 go_wp2_with fail
 go_cut [7] from 8 (fun s wx=>∃u1 u2 u3 u4:Value,∃w9:World,s = .slice (some ⟨w9.heap.size,0,none⟩) 4 4∧wx=w9.alloc (.cells #[u1,u2,u3,u4] 25)∧Rd w9 u1 L1∧Rd w9 u2 L2∧Rd w9 u3 L3∧Rd w9 u4 L4∧Keep w w9)
 case first=>
  go_region_held3 (fun w'=>w'.cell? ⟨w.heap.size,0,none⟩=some (.slice aF f.length cF)∧w'.cell? ⟨w.heap.size,1,none⟩=some (.slice aR rows.length cR))
   (first|go_keep|(go_split_ands;refine⟨?_,?_⟩<;>(rw[kk.cell (by assumption)];assumption)))
   ((first
    | (go_at_call 232;refine (C1.out _ K0).mono ?_;rintro e w1 ⟨v1,rfl,o1,kk⟩;have z1:w.heap.size<w1.heap.size:=Nat.lt_of_lt_of_le z0 kk.size;have K1:=K0.trans kk;have r1:=o1.rd;clear o1;obtain⟨a1,c1,rfl,-⟩:=id r1)
    | (go_at_call 97;refine (C2.out _ K1).mono ?_;clear kk;rintro e w2 ⟨v2,rfl,o2,kk⟩;have z2:w.heap.size<w2.heap.size:=Nat.lt_of_lt_of_le z1 kk.size;have K2:=K1.trans kk;have r2:=o2.rd;replace r1:=r1.keep kk;clear o2;obtain⟨a2,c2,rfl,-⟩:=id r2)
    | (go_at_call 98;refine (C3.out _ K2).mono ?_;clear kk;rintro e w3 ⟨v3,rfl,o3,kk⟩;have z3:w.heap.size<w3.heap.size:=Nat.lt_of_lt_of_le z2 kk.size;have K3:=K2.trans kk;have r3:=o3.rd;replace r1:=r1.keep kk;replace r2:=r2.keep kk;clear o3;obtain⟨a3,c3,rfl,-⟩:=id r3)
    | (go_at_call 99;refine (C4.out _ K3).mono ?_;clear kk;rintro e w4 ⟨v4,rfl,o4,kk⟩;have z4:w.heap.size<w4.heap.size:=Nat.lt_of_lt_of_le z3 kk.size;have K4:=K3.trans kk;have r4:=o4.rd;replace r1:=r1.keep kk;replace r2:=r2.keep kk;replace r3:=r3.keep kk;clear o4;obtain⟨a4,c4,rfl,-⟩:=id r4)))
  all_goals
   go_wp2;go_meet;case rel=>exact⟨_,_,_,_,w4,rfl,rfl,r1,r2,r3,r4,K4⟩
 case rest=>
  obtain⟨u1,u2,u3,u4,w9,rfl,rfl,r1,r2,r3,r4,K9⟩:=hcut;have k9:Keep w9 (w9.alloc (.cells #[u1,u2,u3,u4] 25)):=(Keep.refl w9).alloc _;have C:=toOne_four _ w9.heap.size u1 u2 u3 u4 L1 L2 L3 L4 (heap_alloc_new w9 _) (r1.keep k9) (r2.keep k9) (r3.keep k9) (r4.keep k9) lA lF lR lG;have b9:w.heap.size≤(w9.alloc (.cells #[u1,u2,u3,u4] 25)).heap.size:=(K9.trans k9).size;rw[HE.out] at C;go_wp2_with fail
  refine C.mono ?_;rintro e wa ⟨va,rfl,oa,ka⟩;have KA:=(K9.trans k9).trans ka;have OA:=oa.base_le b9;clear oa ka C;obtain⟨aa,ca,rfl,-⟩:=id OA.rd;go_wp2;go_ret;exact⟨_,rfl,OA,KA⟩
theorem implSlowWeb_any (w:World)(v vF vR:Value)(dss:List (List Dd))(f rows:List Int)(h:RdW w v dss)(hf:Rd w vF f)(hr:Rd w vR rows)(hcap:rows.length≤capZ vR)(hx:dss.length≤1048576)(hm:∀i,i<dss.length→(dss.getD i []).length≤1048576)(hfl:f.length≤1048576)(hrl:rows.length≤1048576):
  Calls Tryz.prog 12 #[v,.agg #[vF,vR]] w fun e w'=>∃v',e = .returned v'∧Row w' w.heap.size v' (swB dss f rows)∧Keep w w':=by
 have C:=fun (W:World) (kW:Keep w W)=>slowWeb_any W v vF vR dss f rows (h.keep kW) (hf.keep kW) (hr.keep kW) hcap hx hm hfl hrl
 clear h hf hr hcap hx hm hfl hrl;go_enter Tryz.func12,Tryz.ntmps12
 go_wp2_with fail
 refine (C _ ((Keep.refl w).alloc (.cells #[vF,vR] 27))).mono ?_;rintro e w1 ⟨v',rfl,o,k⟩;have K:=(((Keep.refl w).alloc (.cells #[vF,vR] 27))).trans k;have O:=o.base_le (((Keep.refl w).alloc (.cells #[vF,vR] 27))).size;clear o k;obtain⟨a,c,rfl,-⟩:=id O.rd;go_wp2;go_ret;exact⟨_,rfl,O,K⟩
end Go.Proofs.YtgikcfdckddgpaaGreat
