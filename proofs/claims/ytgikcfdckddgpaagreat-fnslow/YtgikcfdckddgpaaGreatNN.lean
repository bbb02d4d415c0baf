/- Gathered texts. -/
import Derived.Test.YtgikcfdckddgpaaGreatMO
import Derived.Test.YtgikcfdckddgpaaGreatRows
import Derived.OpenShut
import Derived.Outline
import Derived.Test.YtgikcfdckddgpaaGreatMG
set_option maxRecDepth 100000
set_option maxHeartbeats 8000000
namespace Go.Proofs.YtgikcfdckddgpaaGreat
open Go.ChangeShapes Go.WideShapes Go.ChangeAt Go.RowKit
theorem drawSlowWeb_any (w:World)(a:Option Addr)(cap:Nat)(zs:List Int)(hb:RdB w w.heap.size a zs):
  Calls Tryz.prog 10 #[.slice a zs.length cap] w fun e w'=>∃v vF vR dss f r bs N,e = .returned (.tuple #[v,.agg #[vF,vR]])∧RdXN w' bs N v dss∧(dss.length≤6∧∀i,i<dss.length→(dss.getD i []).length≤7)∧Own w' N vF f∧Own w' N vR r∧(f.length≤13∧r.length≤36)∧(w.heap.size<bs∧bs≤N)∧Keep w w':=by
 have k0:Keep w (w.alloc (taleC nilV nilV)):=(Keep.refl w).alloc _;have s0:(w.alloc (taleC nilV nilV)).heap.size=w.heap.size+1:=heap_size _ _;have H0:(w.alloc (taleC nilV nilV)).heap[w.heap.size]? = some (taleC nilV nilV):=heap_alloc_new w _;have hb0:RdB (w.alloc (taleC nilV nilV)) (w.alloc (taleC nilV nilV)).heap.size a zs:=RdB.up hb k0;go_enter Tryz.func10,Tryz.ntmps10
 go_wp2_with fail
 refine (drawTaleOk_any _ a cap zs hb0).mono ?_;rintro e w2 ⟨v,vF,vR,dss,f,r,bs,N,rfl,hR,hs,hF,hO,hl,hbs,k2⟩;have H2:=blk_kept H0 k2.grownBy (by simp);have K2:=k0.trans k2;rw[s0] at hbs;obtain⟨aF,cF,rfl⟩:=hF.shp;obtain⟨aR,cR,rfl⟩:=hO.shp;have S6:StT w2 w2 w.heap.size nilV nilV:=⟨H2,grown_drewN w2 0 _⟩;obtain⟨r0,r1⟩:=S6.cells;have g0:=S6.free 0;have g1:=S6.free 1;have hZ:=(S6.set0 (.slice aF f.length cF)).set1 (.slice aR r.length cR);have HR:=Lib.hid (hR.kept hZ.2 (by intro g hg;simp at hg;omega));have HF:=Lib.hid (own_kept hF hZ.2 (by intro g hg;simp at hg;omega));have HO:=Lib.hid (own_kept hO hZ.2 (by intro g hg;simp at hg;omega));have HK:=Lib.hid (K2.grown hZ.2 (by intro g hg;simp at hg;omega));have HS:=Lib.hid hs;have HL:=Lib.hid hl;have HB:=Lib.hid hbs;have HZ:=Lib.hid hZ.1;clear hR hs hF hO k2 H0 H2 K2 k0 s0 hb0 hl hbs hZ S6;go_wp2;refine bodyPost_ret (results_tmp_row (by rfl) _ _ w.heap.size _ _ (0,0) _ v rfl HZ.out rfl Tryz.underlying27 rfl (by kernel_rfl)) rfl ?_;exact⟨v,_,_,dss,f,r,bs,N,rfl,HR.out,HS.out,HF.out,HO.out,HL.out,⟨by have:=HB.out.1;omega,HB.out.2⟩,HK.out⟩
theorem specSetOk_any (n s:Int)(w:World):
  Calls Tryz.prog 127 #[.int .i64 n,.int .i64 s] w fun e w'=>e = .returned (.bool (okB n s))∧w'=w:=by
 cases hn:inB n 0 12
 ·
  go_enter Tryz.func127,Tryz.ntmps127
  go_wp2_with (go_at_call 75;refine (l1In_any _ _ _ _).mono ?_;rintro e w' ⟨rfl,rfl⟩)
  go_ret;refine⟨ret_bool ?_,rfl⟩;simp[inB] at hn;rw[Bool.eq_iff_iff];unfold okB;simp;omega
 ·
  have hn':=hn;simp only[inB,decide_eq_true_eq] at hn';obtain⟨n1,n2⟩:=hn';have hp:=pow_le12 n.toNat (by omega);go_enter Tryz.func127,Tryz.ntmps127
  go_wp2_with (go_at_call 75;refine (l1In_any _ _ _ _).mono ?_;rintro e w' ⟨rfl,rfl⟩)
  go_ret;refine⟨ret_bool ?_,rfl⟩;rw[Bool.eq_iff_iff];unfold okB inB;simp;omega
theorem specWebOk_any (w:World)(v:Value)(zs:List Int)(h:Rd w v zs)(hn:zs.length≤1048576):
  Calls Tryz.prog 71 #[v] w fun e w'=>e = .returned (.bool (webB zs))∧w'=w:=by
 obtain⟨a,c,rfl,h⟩:=h;go_enter Tryz.func71,Tryz.ntmps71
 go_wp2;go_loop [4] (fun i=>∃k:Nat,k≤zs.length∧i = .int .i64 k∧∀j,j<k→okB zs.length (zs.getD j 0)=true) (fun i=>zs.length-(intOf i).toNat)
 case atStart=>exact⟨0,Nat.zero_le _,rfl,fun j hj=>by omega⟩
 case round=>
  obtain⟨k,hk,rfl,hall⟩:=hrel;have HA:Hid (∀j,j<k→okB zs.length (zs.getD j 0)=true):=hall;clear hall;by_cases hlt:k<zs.length
  ·
   rcases h with h|⟨b,o,rfl,hb,hc⟩
   · exfalso;rw[h] at hlt;simp at hlt
   have d0:=hc k hlt;obtain⟨p,hp⟩:∃p,p=zs.getD k 0:=⟨_,rfl⟩;have HP:Hid (p=zs.getD k 0):=hp;rw[←hp] at d0;clear hc hp;cases hok:okB zs.length p
   ·
    go_wp2_with (go_at_call 127;refine (specSetOk_any _ _ _).mono ?_;rintro e w' ⟨rfl,rfl⟩)
    go_ret;exact⟨ret_bool (webB_bad hlt (by rw[←HP.out];exact hok)).symm,rfl⟩
   ·
    go_wp2_with (go_at_call 127;refine (specSetOk_any _ _ _).mono ?_;rintro e w' ⟨rfl,rfl⟩)
    go_round
    case rel=>
     refine⟨k+1,by omega,by go_num,fun j hj=>?_⟩;by_cases e:j=k
     · subst e;rw[←HP.out];exact hok
     · exact HA.out j (by omega)
    case measure=>simp[intOf];omega
  ·
   have hw:webB zs=true:=webB_all fun i hi=>HA.out i (by omega)
   have hl:=webB_len hw;have HW:Hid (webB zs=true):=hw;clear hw;go_wp2;go_ret;exact⟨ret_bool (by rw[HW.out];simp;omega),rfl⟩
theorem specRound_any (w:World)(base:Nat)(v:Value)(zs:List Int)(h:Row w base v zs)(hn:zs.length≤1048576):
  Calls Tryz.prog 24 #[v] w fun e w'=>e = .returned (.bool (roundB zs))∧Keep w w':=by
 cases ht:webB zs
 ·
  go_enter Tryz.func24,Tryz.ntmps24
  go_wp2_with fail
  refine (specWebOk_any _ _ _ h.rd hn).mono ?_;rintro e w' ⟨rfl,rfl⟩;go_wp2;go_ret;exact⟨ret_bool (by unfold roundB;rw[ht];rfl),Keep.refl _⟩
 ·
  have HT:Hid (webB zs=true):=ht;go_enter Tryz.func24,Tryz.ntmps24
  go_wp2_with fail
  refine (specWebOk_any _ _ _ h.rd hn).mono ?_;rintro e w' ⟨rfl,rfl⟩;go_wp2_with fail
  refine (l3Round_any _ _ _ _ h HT.out).mono ?_;rintro e w2 ⟨rfl,k⟩;go_wp2;go_ret;exact⟨rfl,k⟩
theorem workB_useS {dss:List (List Dd)}(h:workB dss=true):dss.length≤3∧∀i,i<dss.length→okL (dss.getD i [])=true:=by
 simp only[workB,Bool.and_eq_true,decide_eq_true_eq] at h;obtain⟨⟨⟨⟨h1,h2⟩,_⟩,_⟩,_⟩:=h;exact⟨h1.2,fun i hi=>all_get [] h2 i hi⟩
theorem appE_base {w:World}{base base':Nat}{v:Value}{es:List Ev}(h:AppE w base v es)(hb:base'≤base):AppE w base' v es:=by
 refine⟨h.1,?_⟩;rcases h.2 with h|⟨g,cap,cur,hv,hg,rest⟩
 · exact .inl h
 · exact .inr ⟨g,cap,cur,hv,Nat.le_trans hb hg,rest⟩
theorem specEventsOf_any (w:World)(v:Value)(dss:List (List Dd))(h:RdW w v dss)(hx:dss.length≤1048576)(hm:∀i,i<dss.length→(dss.getD i []).length≤1048576):
  Calls Tryz.prog 20 #[v] w fun e w'=>∃v',e = .returned v'∧AppE w' w.heap.size v' (eventsB dss)∧Keep w w':=by
 cases hb:workB dss
 ·
  have HE:Hid (eventsB dss=[]):=Lib.hid (by rw[eventsB,hb];rfl);have O:∀w1:World,Keep w w1→AppE (w1.alloc (.cells #[] 40)) w.heap.size (.slice (some ⟨w1.heap.size,0,none⟩) 0 0) []:=fun w1 k1=>World.ownsRow_lit w1 #[] 0 k1.size (by decide) (by simp)
  go_enter Tryz.func20,Tryz.ntmps20
  go_wp2_with fail
  refine (specWorkOk_any _ _ _ h hx hm).mono ?_;rintro e w1 ⟨rfl,k1⟩;go_wp2;go_ret;exact⟨_,rfl,by rw[HE.out];exact O w1 k1,k1.alloc _⟩
 ·
  have HE:Hid (eventsB dss=evsW dss dss.length):=Lib.hid (by rw[eventsB,if_pos hb]);obtain⟨u1,u2⟩:=workB_useS hb;go_enter Tryz.func20,Tryz.ntmps20
  go_wp2_with fail
  refine (specWorkOk_any _ _ _ h hx hm).mono ?_;rintro e w1 ⟨rfl,k1⟩;have h:=h.keep k1;have hs:=k1.size;go_wp2_with fail
  refine (l6Events_any _ _ _ h u1 u2).mono ?_;rintro e w2 ⟨v2,rfl,a2,k2⟩;go_wp2;go_ret;exact⟨_,rfl,by rw[HE.out];exact appE_base a2 hs,k1.trans k2⟩
end Go.Proofs.YtgikcfdckddgpaaGreat
