/- Gathered texts. -/
import Derived.Test.YtgakfkjjkobpiabGreatMH
set_option maxRecDepth 100000
set_option maxHeartbeats 8000000
namespace Go.Proofs.YtgakfkjjkobpiabGreat
open Go.ChangeShapes Go.WideShapes Go.ChangeAt Go.RowKit
theorem markD_any (w:World)(base:Nat)(v:Value)(k:Int)(ds:List Dd)(h:OwnD w base v ds)(hn:ds.length≤1048576)(h0:1≤k)(h1:k≤8388608):
  Calls Tryz.prog 52 #[v,.int .i64 k] w fun e w'=>e = .returned (.int .i64 (k+4*ds.length))∧OwnD w' base v (mksD k ds.length)∧w.grownBy w' (ownO v ds):=by
 obtain⟨a,cap,rfl,h⟩:=h;by_cases hne:ds=[]
 ·
  subst hne;clear h;go_enter Tryz.func52,Tryz.ntmps52
  go_wp2;refine wp_loop_rounds 1 ?_;rw[rounds_succ];go_wp2;go_ret;exact⟨by simp,⟨a,cap,rfl,.inl rfl⟩,World.grownBy.refl _ _⟩
 ·
  rcases h with h|⟨g,rfl,hb,hB,hA⟩
  · exact absurd h hne
  clear hA;go_enter Tryz.func52,Tryz.ntmps52
  go_wp2;go_loopw [1,5] (fun q i wr=>∃j:Nat,j≤ds.length∧i = .int .i64 j∧q = .int .i64 (k+4*j)∧Blk wr g (ds.length*4)∧(∀i,i<j→AtD wr g (i*4) (mkD k i))∧w.grownBy wr (some g)) (fun _ i _=>ds.length-(intOf i).toNat)
  case atStart=>exact⟨0,Nat.zero_le _,rfl,by simp,hB,by omega,World.grownBy.refl _ _⟩
  case round=>
   obtain⟨j,hj,rfl,rfl,hR,hA,hg⟩:=hrel;clear hB;by_cases hlt:j<ds.length
   ·
    obtain⟨u0,c0⟩:=hR.cell (i:=j*4) (by omega);obtain⟨u1,c1⟩:=hR.cell (i:=j*4+1) (by omega);obtain⟨u2,c2⟩:=hR.cell (i:=j*4+2) (by omega);obtain⟨u3,c3⟩:=hR.cell (i:=j*4+3) (by omega);have f0:=hR.free (j*4);have f1:=hR.free (j*4+1);have f2:=hR.free (j*4+2);have f3:=hR.free (j*4+3);have i1:(0:Int)≤(j:Int):=Int.natCast_nonneg _;have i2:(j:Int)<(ds.length:Int):=by omega
    have HA:∀i,i<j+1→AtD ((((wr.setCell ⟨g,j*4,none⟩ (.int .i64 (mkD k j).1)).setCell ⟨g,j*4+1,none⟩ (.int .i64 (mkD k j).2.1)).setCell ⟨g,j*4+2,none⟩ (.int .i64 (mkD k j).2.2.1)).setCell ⟨g,j*4+3,none⟩ (.int .i64 (mkD k j).2.2.2)) g (i*4) (mkD k i):=by
     intro i hi;by_cases e:i=j
     ·
      subst e;exact putD_same hR (by omega)
     · exact putD (hA i (by omega)) (.inr (by omega))
    clear hA;go_wp2;go_roundw;case rel=>exact⟨j+1,by omega,by go_num,by go_num,(((hR.set _ _).set _ _).set _ _).set _ _,HA,grown_trans (grown_trans (grown_trans (grown_trans hg (grown_put _ _ _ _)) (grown_put _ _ _ _)) (grown_put _ _ _ _)) (grown_put _ _ _ _)⟩
    case measure=>simp[intOf];omega
   ·
    have:j=ds.length:=by omega
    subst this;have HO:ds≠[]→ownO (.slice (some ⟨g,0,none⟩) ds.length (ds.length+cap)) ds=some g:=fun h=>by rw[ownO,if_neg h];rfl
    go_wp2;go_ret;refine⟨rfl,⟨_,cap,by rw[mksD_len],.inr ⟨g,rfl,hb,by rw[mksD_len];exact hR,?_⟩⟩,by rw[HO hne];exact hg⟩;intro i hi;rw[mksD_len] at hi;rw[mksD_get _ _ _ hi];exact hA i hi
theorem markW_any (w wo:World)(base:Nat)(v:Value)(k:Int)(dss:List (List Dd))(h:OwnW wo base v dss)(hsame:∀b,base≤b→b<wo.heap.size→w.heap[b]? = wo.heap[b]?)
  (hn:dss.length≤1048576) (hs:lenW dss≤1048576) (h0:1≤k) (h1:k≤1048576):
  Calls Tryz.prog 20 #[v,.int .i64 k] w fun e w'=>e = .returned (.int .i64 (k+4*lenW dss))∧OwnW w' base v (mksW k dss)∧Only base wo.heap.size w w':=by
 obtain⟨a,cap,rfl,h⟩:=h;by_cases hne:dss=[]
 ·
  subst hne;clear h;go_enter Tryz.func20,Tryz.ntmps20
  go_wp2;refine wp_loop_rounds 1 ?_;rw[rounds_succ];go_wp2;go_ret;exact⟨by simp[lenW],⟨a,cap,rfl,.inl rfl⟩,Only.refl _ _ _⟩
 ·
  rcases h with h|⟨g,V,rfl,hg,hB,hc,hA⟩
  · exact absurd h hne
  have gl:=hB.lt
  have top:∀i,i<dss.length→∀b,ownO (V i) (dss.getD i [])=some b→base≤b∧b<wo.heap.size:=by
   intro i hi b hb;obtain⟨a',cap',e,h⟩:=(hc i hi).2;rw[ownO] at hb;split at hb
   · cases hb
   ·
    rename_i hd;rcases h with h|⟨g',rfl,hb',hB',_⟩
    · exact absurd h hd
    ·
     rw[e] at hb;simp only[Value.ownBlock,Option.some.injEq] at hb;subst hb;exact⟨hb',hB'.lt⟩
  have eg:=hsame g hg gl
  have start:Blk w g dss.length∧∀i,i<dss.length→w.cell? ⟨g,i,none⟩=some (V i)∧OwnD w base (V i) (dss.getD i []):=
   ⟨hB.same eg,fun i hi=>⟨(cell_same eg _).trans (hc i hi).1,(hc i hi).2.same (fun b _ hlt hbb=>hsame b hbb hlt)⟩⟩
  clear hB hc eg;go_enter Tryz.func20,Tryz.ntmps20
  go_wp2
  go_loopw [1,5] (fun q i wr=>∃j m:Nat,j≤dss.length∧i = .int .i64 j∧q = .int .i64 (k+4*m)∧Hid (m=lenW (dss.take j))∧Blk wr g dss.length ∧
   (∀i,i<dss.length→wr.cell? ⟨g,i,none⟩=some (V i)∧OwnD wr base (V i) (if i<j then (mksW k dss).getD i [] else dss.getD i []))∧Only base wo.heap.size w wr) (fun _ i _=>dss.length-(intOf i).toNat)
  case atStart=>exact⟨0,0,Nat.zero_le _,rfl,by simp,Lib.hid (by simp[lenW]),start.1,fun i hi=>by rw[if_neg (by omega)];exact start.2 i hi,Only.refl _ _ _⟩
  case round=>
   obtain⟨j,m,hj,rfl,rfl,hm,hR,hD,hO⟩:=hrel;clear start;by_cases hlt:j<dss.length
   ·
    obtain⟨c1,o1⟩:=hD j hlt;rw[if_neg (by omega)] at o1;have hlen:=lenW_one dss j hlt;have HM:Hid (m+(dss.getD j []).length=lenW (dss.take (j+1))):=Lib.hid (by rw[take_moreM dss j [] hlt,lenW_snocM,hm.out]);rw[←hm.out] at hlen
    have REST:∀wz:World,OwnD wz base (V j) (mksD (k+4*(m:Int)) (dss.getD j []).length)→wr.grownBy wz (ownO (V j) (dss.getD j [])) →
      Blk wz g dss.length∧(∀i,i<dss.length→wz.cell? ⟨g,i,none⟩=some (V i)∧OwnD wz base (V i) (if i<j+1 then (mksW k dss).getD i [] else dss.getD i []))∧Only base wo.heap.size w wz:=by
     intro wz hz gz
     have hrow:ownO (V j) (dss.getD j [])≠some g:=by
      rw[ownO];split
      · simp
      ·
       rename_i hd;exact hA.1 j hlt hd
     have eg:wz.heap[g]? = wr.heap[g]?:=gz.block g hR.lt (fun e=>hrow e.symm);refine⟨hR.same eg,?_,hO.grown gz (top j hlt)⟩;intro i hi;refine⟨(cell_same eg _).trans (hD i hi).1,?_⟩;by_cases e:i=j
     ·
      subst e;rw[if_pos (by omega),mksW_get _ _ _ hlt,←hm.out];exact hz
     ·
      have hh:=(hD i hi).2
      rw[show (if i<j+1 then (mksW k dss).getD i [] else dss.getD i [])=(if i<j then (mksW k dss).getD i [] else dss.getD i []) by
       by_cases h':i<j
       · rw[if_pos h',if_pos (by omega)]
       · rw[if_neg h',if_neg (by omega)]]
      refine hh.kept gz ?_;by_cases hd:dss.getD i []=[]
      ·
       left;split
       · rw[mksW_get _ _ _ hi,hd];rfl
       · exact hd
      ·
       right;rw[ownO];split
       ·
        rename_i hdj;obtain⟨a',cap',e',h'⟩:=hh;rcases h' with h'|⟨g',rfl,_,_,_⟩
        ·
         exfalso;split at h'
         ·
          rw[mksW_get _ _ _ hi,mksD_nil] at h';exact hd (List.eq_nil_of_length_eq_zero h')
         · exact hd h'
        · rw[e'];simp[Value.ownBlock]
       ·
        rename_i hdj;rcases Nat.lt_or_gt_of_ne e with hl|hl
        · exact hA.2 i j hl hlt hd hdj
        · exact fun e'=>hA.2 j i hl hi hdj hd e'.symm
    clear hD hR hO hm;generalize (dss.getD j [])=dj at o1 hlen HM REST;have i1:(0:Int)≤(j:Int):=Int.natCast_nonneg _;have i2:(j:Int)<(dss.length:Int):=by omega
    go_wp2_with fail
    refine (markD_any _ _ _ _ _ o1 (by omega) (by omega) (by omega)).mono ?_;rintro e wz ⟨rfl,hz,gz⟩;obtain⟨R1,R2,R3⟩:=REST wz hz gz;clear REST hz gz o1 c1;go_wp2;go_roundw;case rel=>exact⟨j+1,m+dj.length,by omega,by go_num,by go_num,HM,R1,R2,R3⟩
    case measure=>simp[intOf];omega
   ·
    have:j=dss.length:=by omega
    subst this;rw[List.take_length] at hm;go_wp2;go_ret;refine⟨by rw[←hm.out];rfl,⟨_,cap,by rw[mksW_len],.inr ⟨g,V,rfl,hg,by rw[mksW_len];exact hR,?_,?_⟩⟩,hO⟩
    ·
     intro i hi;rw[mksW_len] at hi;have:=hD i hi;rw[if_pos hi] at this;exact this
    ·
     rw[mksW_len]
     have nz:∀i,i<dss.length→(mksW k dss).getD i []≠[]→dss.getD i []≠[]:=by
      intro i hi hd e;rw[mksW_get _ _ _ hi,e] at hd;exact hd rfl
     exact⟨fun i hi hd=>hA.1 i hi (nz i hi hd),fun i j hij hj hd he=>hA.2 i j hij hj (nz i (by omega) hd) (nz j hj he)⟩
theorem OwnW.keep {w w':World}{base:Nat}{v:Value}{dss:List (List Dd)}(h:OwnW w base v dss)(k:Keep w w'):OwnW w' base v dss:=by
 obtain⟨a,cap,rfl,h⟩:=h;refine⟨a,cap,rfl,?_⟩;rcases h with h|⟨g,V,rfl,hg,hB,hc,hA⟩
 · exact .inl h
 ·
  have e:=Below.block k g hB.lt;exact .inr ⟨g,V,rfl,hg,hB.same e,fun i hi=>⟨(cell_same e _).trans (hc i hi).1,(hc i hi).2.keep k⟩,hA⟩
end Go.Proofs.YtgakfkjjkobpiabGreat
