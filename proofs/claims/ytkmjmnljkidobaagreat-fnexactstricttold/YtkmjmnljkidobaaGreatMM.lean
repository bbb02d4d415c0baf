/- Gathered texts. -/
import Derived.Test.YtkmjmnljkidobaaGreatML
import Derived.Lib.Hide
import Derived.BigRegion
import Derived.Deep.CutRange
import Derived.Outline
import Derived.Laws.AppendOwnNone
import Derived.Deep.RegionLaw
set_option maxRecDepth 100000
set_option maxHeartbeats 8000000
namespace Go.Proofs.YtkmjmnljkidobaaGreat
open Go.ChangeShapes Go.WideShapes Go.ChangeAt Go.RowKit
theorem AppL.held {w:World}{base:Nat}{x:Value}{vs:List Value}{zss:List (List Int)}(h:AppL w base x vs zss)(hV:∀u∈vs,∀g,u.ownBlock=some g→base≤g):HeldL base w x zss:=by
 have hl:vs.length=zss.length:=by have:=h.row.1;omega
 have o:OwnP w (fun g=>base≤g∧g<w.heap.size∧x.ownBlock≠some g) base x vs zss:=by
  refine⟨h.row,fun g hg hp=>hp.2.2 hg,fun i hi=>?_⟩;have e:vs[i]? = some (vs.getD i nilS):=by rw[List.getD_eq_getElem?_getD,List.getElem?_eq_getElem (by omega)];rfl
  have q:=h.each i _ e;refine⟨q.rd,fun g hg=>⟨hV _ (List.mem_of_getElem? e) g hg,q.lt g hg,fun hx=>?_⟩⟩;rcases q.ne with hn|hn
  · rw[hn] at hg;cases hg
  · exact hn (hg.trans hx.symm)
 exact o.heldL (fun g hg=>⟨hg.1,hg.2.1⟩)
theorem l8Choices_held (w:World)(v:Value)(es:List Ev)(h:RdE w v es)(hx:es.length≤12):
  Calls Tryz.prog 91 #[v] w fun e w'=>∃v',e = .returned v'∧HeldL w.heap.size w' v' (chcL es)∧Keep w w':=by
 obtain⟨i0,hi,hz0,hz1,hz2⟩:=info_parts Tryz.infoL;have A0:=appL_empty w
 have rl:(idxB rdE es).length≤12:=by
  unfold idxB;rw[if_pos hx];have:=idxK_len rdE es es.length;omega
 have rin:∀i,i<(idxB rdE es).length→0≤(idxB rdE es).getD i 0∧(idxB rdE es).getD i 0<(es.length:Int):=by
  intro i hi
  have hm:(idxB rdE es).getD i 0∈idxB rdE es:=by
   rw[List.getD_eq_getElem?_getD,List.getElem?_eq_getElem hi];exact List.getElem_mem hi
  refine idxK_lt rdE es _ _ ?_;unfold idxB at hm ⊢;rw[if_pos hx] at hm ⊢;exact hm
 have HL:Hid (chcL es=chcK es (idxB rdE es) (idxB rdE es).length):=Lib.hid rfl;go_enter Tryz.func91,Tryz.ntmps91
 go_wp2_with fail
 refine (specReadsOf_any _ _ _ (h.keep ((Keep.refl w).alloc _)) (by omega)).mono ?_;rintro e w1 ⟨vr,rfl,or1,k1⟩;generalize idxB rdE es=rs at rl rin HL or1;have A1:=A0.keep k1;have K1:Keep w w1:=((Keep.refl w).alloc _).trans k1;have R1:Beside w1 (.slice (some ⟨w.heap.size,0,none⟩) 0 0) vr rs:=or1.beside (fun k hk=>by rw[heap_size];simp[Value.ownBlock] at hk;omega);have RIN:=Lib.hid rin;obtain⟨ar,cr,rfl,-⟩:=R1.rd;clear A0 k1 or1 rin;go_wp2;go_loopw [3,5] (fun x i wr=>∃k:Nat,∃vs:List Value,k≤rs.length∧i = .int .i64 k∧AppL wr w.heap.size x vs (chcK es rs k)∧Beside wr x (.slice ar rs.length cr) rs∧Keep w wr∧Hid (∀u∈vs,∀g,u.ownBlock=some g→w.heap.size≤g)) (fun _ i _=>rs.length-(intOf i).toNat)
 case atStart=>exact⟨0,[],Nat.zero_le _,rfl,A1,R1,K1,Lib.hid (by simp)⟩
 case round=>
  obtain⟨k,vs,hk,rfl,hA,hB,hK,hV⟩:=hrel;clear A1 R1 K1;by_cases hlt:k<rs.length
  ·
   have hr:=RIN.out k hlt;obtain⟨r,hr'⟩:=Int.eq_ofNat_of_zero_le hr.1;have hre:r<es.length:=by omega
   have hRd:=hB.rd;obtain⟨a',c',he',hRd⟩:=hRd;simp only[Value.slice.injEq,true_and] at he';obtain⟨rfl,rfl⟩:=he';rcases hRd with h0|⟨br,or',rfl,hbr,hcr⟩
   · exfalso;rw[h0] at hlt;simp at hlt
   have d1:=hcr k hlt;rw[hr'] at d1;have HC:Hid (chcK es rs (k+1)=chcK es rs k++[idxB (toE (plE es (r:Int))) es]):=Lib.hid (by rw[chcK,hr']);have HP:Hid (plE es (r:Int)=(es.getD r zE).2.2.2.1):=Lib.hid (by unfold plE;rw[Int.toNat_natCast]);clear hr hr' hcr;have hE:=h.keep hK;obtain⟨ae,ce,rfl,h2⟩:=id hE;rcases h2 with h0|⟨be,oe,rfl,hbe,hce⟩
   · exfalso;rw[h0] at hre;simp at hre
   have AT:=hce r _ (evs_get hre);clear hce;generalize es.getD r zE=e at AT HP;obtain⟨x0,x1,x2,x3,x4,x5⟩:=e;obtain⟨-,-,-,q3,-,-⟩:=atE AT;clear AT;simp only at HP;rw[HP.out] at HC;clear HP;have i1:(0:Int)≤(k:Int):=Int.natCast_nonneg _;have i2:(k:Int)<(rs.length:Int):=by omega
   have j1:(0:Int)≤(r:Int):=Int.natCast_nonneg _;have j2:(r:Int)<(es.length:Int):=by omega
   have hcl:=chcK_len es rs k;go_wp2_with fail
   refine (specWritesTo_any _ _ _ _ hE (by omega)).mono ?_;rintro e w2 ⟨v2,rfl,o2,k2⟩;obtain⟨D,hD⟩:∃D,D=chcK es rs k:=⟨_,rfl⟩;rw[←hD] at hA HC hcl;clear hD;generalize idxB (toE x3) es=zs at o2 HC;have hA2:=(hA.keep k2).keep ((Keep.refl w2).alloc (.cells #[v2] 50));have hB2:=(hB.keep k2).keep ((Keep.refl w2).alloc (.cells #[v2] 50));have hU:Beside (w2.alloc (.cells #[v2] 50)) _ v2 zs:=(o2.beside (x:=u3) (fun k hk=>(hA.lt k hk).2)).keep ((Keep.refl w2).alloc _);have hK2:=hK.trans k2;have hsz:=hK2.size;have hge2:=Lib.hid (fun g (hg:v2.ownBlock=some g)=>Nat.le_trans hK.size (o2.ge g hg));obtain⟨a2,c2,hv2,-⟩:=o2.rd;clear hA hB o2;generalize zs.length=nz at hv2;subst hv2;go_wp2_with (at_builtin;refine wpList_append_own_at _ rfl _ _ 26 rfl w.heap.size 50 i0 (.slice none 0 0) 1 24 Tryz.underlying26 hi hz0 hz1 hz2 rfl (by decide) _ _ _ rfl hA2.row ⟨_,0,none⟩ 1 1 [.slice a2 nz c2] rfl rfl ?c1 ?c2 ?c3 ?c4 ?c5 ?_)
   case c1=>exact new_one _ _ _ rfl
   case c2=>intro u hu;simp at hu;subst hu;rfl
   case c3=>unfold maxLen;omega
   case c4=>omega
   case c5=>first|omega|(simp;omega)
   intro v' w3 hown' hgrow _ hblk;have hblk':v'.ownBlock=u3.ownBlock∨v'.ownBlock=some (w2.alloc (.cells #[.slice a2 nz c2] 50)).heap.size:=by rw[heap_size];exact hblk
   have hA3:=hA2.push hU (by rw[hcl];exact hown') hgrow hblk';have hB3:=hB2.grow hgrow hblk';have hK3:Keep w w3:=(hK2.alloc _).grown hgrow (fun k hk=>(hA2.lt k hk).1);clear hown' hgrow hblk hblk' hA2 hB2 hU;go_wp2;go_roundw;case rel=>exact⟨k+1,_,by omega,by go_num,by rw[HC.out];exact hA3,hB3,hK3,Lib.hid (fun u hu g hg=>by rcases List.mem_append.1 hu with hu|hu;exact hV.out u hu g hg;rw[List.mem_singleton.1 hu] at hg;exact hge2.out g hg)⟩
   case measure=>simp[intOf];omega
  ·
   obtain rfl:k=rs.length:=by omega
   have HR:=Lib.hid (hA.held hV.out);go_wp2;go_ret;exact⟨_,rfl,by rw[HL.out];exact HR.out,hK⟩
section
abbrev dC (k p v g:Int):Obj:= .cells #[.int .i64 k,.int .i64 p,.int .i64 v,.int .i64 g] 64
abbrev eC (i k:Int)(r:Bool)(p v c:Int):Obj:= .cells #[.int .i64 i,.int .i64 k,.bool r,.int .i64 p,.int .i64 v,.int .i64 c] 85
structure InL (w wr:World)(F:Nat)(out:Value)(es:List Ev)(f:List Int):Prop where
 app:AppE wr w.heap.size out es
 row:RowAt wr F f
 keep:Keep w wr
 hF:w.heap.size≤F
 oF:out.ownBlock≠some F
structure InE (w wr:World)(F D X:Nat)(out:Value)(es:List Ev)(f:List Int)(k p v g:Int)(i q:Int)(r:Bool)(pl vl c:Int):Prop where
 l:InL w wr F out es f
 box:wr.heap[D]? = some (dC k p v g)
 ev:wr.heap[X]? = some (eC i q r pl vl c)
 hD:w.heap.size≤D
 hX:w.heap.size≤X
 DX:D≠X
 FD:F≠D
 FX:F≠X
 oD:out.ownBlock≠some D
 oX:out.ownBlock≠some X
theorem InL.more {w wr wr':World}{F:Nat}{out:Value}{es:List Ev}{f:List Int}(h:InL w wr F out es f)(k:Keep wr wr'):InL w wr' F out es f:=
 ⟨h.app.keep k,h.row.keep k,h.keep.trans k,h.hF,h.oF⟩
theorem InL.boxes {w wr:World}{F:Nat}{out:Value}{es:List Ev}{f:List Int}(h:InL w wr F out es f)(k p v g i q:Int)(r:Bool)(pl vl c:Int):
  InE w ((wr.alloc (dC k p v g)).alloc (eC i q r pl vl c)) F wr.heap.size (wr.heap.size+1) out es f k p v g i q r pl vl c:=by
 have hs:=h.keep.size;have hR:=h.row.lt;have hl:=h.app.lt;have z:(wr.alloc (dC k p v g)).heap.size=wr.heap.size+1:=heap_size wr _;refine⟨h.more (((Keep.refl wr).alloc _).alloc _),?_,?_,hs,by omega,by omega,by omega,by omega,fun e=>?_,fun e=>?_⟩
 · rw[heap_at,if_neg (by rw[z];omega),heap_at,if_pos rfl]
 · rw[heap_at,if_pos z.symm]
 · have:=(hl _ e).2;omega
 · have:=(hl _ e).2;omega
variable {w wr:World} {F D X:Nat} {out:Value} {es:List Ev} {f:List Int} {k p v g i q pl vl c:Int} {r:Bool}
theorem InE.more {wr':World}(h:InE w wr F D X out es f k p v g i q r pl vl c)(kk:Keep wr wr'):InE w wr' F D X out es f k p v g i q r pl vl c:=
 ⟨h.l.more kk,(Below.block kk D (Array.getElem?_eq_some_iff.1 h.box).1).trans h.box,(Below.block kk X (Array.getElem?_eq_some_iff.1 h.ev).1).trans h.ev,h.hD,h.hX,h.DX,h.FD,h.FX,h.oD,h.oX⟩
theorem InE.lt (h:InE w wr F D X out es f k p v g i q r pl vl c):D<wr.heap.size∧X<wr.heap.size∧F<wr.heap.size:=
 ⟨(Array.getElem?_eq_some_iff.1 h.box).1,(Array.getElem?_eq_some_iff.1 h.ev).1,h.l.row.lt⟩
theorem InE.deed (h:InE w wr F D X out es f k p v g i q r pl vl c):
  wr.cell? ⟨D,0,none⟩=some (.int .i64 k)∧wr.cell? ⟨D,1,none⟩=some (.int .i64 p)∧wr.cell? ⟨D,2,none⟩=some (.int .i64 v)∧wr.cell? ⟨D,3,none⟩=some (.int .i64 g):=
 ⟨cell_of_row wr D 0 _ _ (0,0) h.box,cell_of_row wr D 1 _ _ (0,0) h.box,cell_of_row wr D 2 _ _ (0,0) h.box,cell_of_row wr D 3 _ _ (0,0) h.box⟩
theorem InE.event (h:InE w wr F D X out es f k p v g i q r pl vl c):
  wr.cell? ⟨X,0,none⟩=some (.int .i64 i)∧wr.cell? ⟨X,1,none⟩=some (.int .i64 q)∧wr.cell? ⟨X,2,none⟩=some (.bool r)∧wr.cell? ⟨X,3,none⟩=some (.int .i64 pl)∧wr.cell? ⟨X,4,none⟩=some (.int .i64 vl)∧wr.cell? ⟨X,5,none⟩=some (.int .i64 c):=
 ⟨cell_of_row wr X 0 _ _ (0,0) h.ev,cell_of_row wr X 1 _ _ (0,0) h.ev,cell_of_row wr X 2 _ _ (0,0) h.ev,cell_of_row wr X 3 _ _ (0,0) h.ev,cell_of_row wr X 4 _ _ (0,0) h.ev,cell_of_row wr X 5 _ _ (0,0) h.ev⟩
theorem InE.free (h:InE w wr F D X out es f k p v g i q r pl vl c)(j:Nat):wr.frozen? ⟨X,j,none⟩=false:=frozen_of_row wr X j _ _ h.ev
theorem InE.setX (h:InE w wr F D X out es f k p v g i q r pl vl c)(j:Nat)(x:Value){r':Bool}{pl' vl' c':Int}
  (he:(wr.setCell ⟨X,j,none⟩ x).heap[X]? = some (eC i q r' pl' vl' c')):InE w (wr.setCell ⟨X,j,none⟩ x) F D X out es f k p v g i q r' pl' vl' c':=by
 have hg:=grown_set wr X j x;have a:=h.l;refine⟨⟨a.app.kept hg (.inr h.oX),a.row.kept hg (by simp;exact fun e=>h.FX e.symm),a.keep.grown hg (by simp;exact h.hX),a.hF,a.oF⟩,(hg.block D h.lt.1 (by simp;exact h.DX)).trans h.box,he,h.hD,h.hX,h.DX,h.FD,h.FX,h.oD,h.oX⟩
theorem InE.set2 (h:InE w wr F D X out es f k p v g i q r pl vl c)(x:Bool):InE w (wr.setCell ⟨X,2,none⟩ (.bool x)) F D X out es f k p v g i q x pl vl c:=
 h.setX 2 _ (by rw[heap_setCell_same wr X 2 _ _ _ h.ev];rfl)
theorem InE.set4 (h:InE w wr F D X out es f k p v g i q r pl vl c)(x:Int):InE w (wr.setCell ⟨X,4,none⟩ (.int .i64 x)) F D X out es f k p v g i q r pl x c:=
 h.setX 4 _ (by rw[heap_setCell_same wr X 4 _ _ _ h.ev];rfl)
theorem InE.set5 (h:InE w wr F D X out es f k p v g i q r pl vl c)(x:Int):InE w (wr.setCell ⟨X,5,none⟩ (.int .i64 x)) F D X out es f k p v g i q r pl vl x:=
 h.setX 5 _ (by rw[heap_setCell_same wr X 5 _ _ _ h.ev];rfl)
theorem InE.setF (h:InE w wr F D X out es f k p v g i q r pl vl c)(j:Nat)(x:Int):InE w (wr.setCell ⟨F,j,none⟩ (.int .i64 x)) F D X out es (f.set j x) k p v g i q r pl vl c:=by
 have hg:=grown_set wr F j (.int .i64 x);have a:=h.l;exact⟨⟨a.app.kept hg (.inr a.oF),a.row.set j x,a.keep.grown hg (by simp;exact a.hF),a.hF,a.oF⟩,(hg.block D h.lt.1 (by simp;exact fun e=>h.FD e.symm)).trans h.box,(hg.block X h.lt.2.1 (by simp;exact fun e=>h.FX e.symm)).trans h.ev,h.hD,h.hX,h.DX,h.FD,h.FX,h.oD,h.oX⟩
theorem InE.hit (h:InE w wr F D X out es f k p v g i q r pl vl c){o:Obj}{v':Value}{w':World}(e:Ev)
  (ho:w'.ownsRow w.heap.size 85 6 v' (es.length+1) (es.flatMap cE++cE e)) (hg:(wr.alloc o).grownBy w' out.ownBlock) (hb:v'.ownBlock=out.ownBlock∨v'.ownBlock=some (wr.heap.size+1)):
  InE w w' F D X v' (es++[e]) f k p v g i q r pl vl c:=by
 have h1:=h.more ((Keep.refl wr).alloc o);obtain⟨a1,a2,a3⟩:=h1.lt
 have apart:∀n,n<(wr.alloc o).heap.size→out.ownBlock≠some n→v'.ownBlock≠some n:=fun n hn hne e=>by
  rcases hb with hb|hb
  · exact hne (hb ▸ e)
  · rw[hb] at e;have:=Option.some.inj e;rw[heap_size] at hn;omega
 exact⟨⟨appT_hit ho,h1.l.row.kept hg h1.l.oF,h1.l.keep.grown hg h1.l.app.ge,h1.l.hF,apart F a3 h1.l.oF⟩,(hg.block D a1 (fun e=>h1.oD e.symm)).trans h1.box,(hg.block X a2 (fun e=>h1.oX e.symm)).trans h1.ev,h1.hD,h1.hX,h1.DX,h1.FD,h1.FX,apart D a1 h1.oD,apart X a2 h1.oX⟩
theorem cE_one (e:Ev):∀u∈cE e,u.oneCell'=true:=by
 intro u hu;simp only[cE,List.mem_cons,List.not_mem_nil,or_false] at hu;rcases hu with rfl|rfl|rfl|rfl|rfl|rfl<;>rfl
theorem cE_new (w:World)(i q:Int)(r:Bool)(pl vl c:Int):∀j u,(cE (i,q,r,pl,vl,c))[j]? = some u→(w.alloc (eC i q r pl vl c)).cell? ((⟨w.heap.size,0,none⟩:Addr).add j)=some u:=by
 intro j u hj
 match j,hj with
 | 0,hj=>simp[cE] at hj;subst hj;simp[Addr.add]
 | 1,hj=>simp[cE] at hj;subst hj;simp[Addr.add]
 | 2,hj=>simp[cE] at hj;subst hj;simp[Addr.add]
 | 3,hj=>simp[cE] at hj;subst hj;simp[Addr.add]
 | 4,hj=>simp[cE] at hj;subst hj;simp[Addr.add]
 | 5,hj=>simp[cE] at hj;subst hj;simp[Addr.add]
theorem cE_newAt (w:World)(n:Nat)(hn:w.heap.size=n)(i q:Int)(r:Bool)(pl vl c:Int):∀j u,(cE (i,q,r,pl,vl,c))[j]? = some u→(w.alloc (eC i q r pl vl c)).cell? ((⟨n,0,none⟩:Addr).add j)=some u:=by
 subst hn;exact cE_new w i q r pl vl c
end
theorem okD_kind {d:Dd}(h:okD d=true):d.1=1∨d.1=2∨d.1=3∨d.1=4:=by
 simp[okD,deedB] at h;omega
theorem okD_group {d:Dd}(h:okD d=true):0≤d.2.2.2∧d.2.2.2≤9:=by
 simp[okD,deedB] at h;omega
theorem l5Events_any (w:World)(v:Value)(dss:List (List Dd))(h:RdW w v dss)(hx:dss.length≤3)(hok:∀i,i<dss.length→okL (dss.getD i [])=true):
  Calls Tryz.prog 45 #[v] w fun e w'=>e = .returned (.int .i64 (evW dss dss.length))∧Keep w w':=by
 obtain⟨a,c,rfl,h⟩:=h;go_enter Tryz.func45,Tryz.ntmps45
 go_wp2;go_loopw [3,4] (fun n i wr=>∃k:Nat,∃m:Int,k≤dss.length∧n = .int .i64 m∧i = .int .i64 k∧Hid (m=evW dss k)∧0≤m∧m≤10*k∧Keep w wr) (fun _ i _=>dss.length-(intOf i).toNat)
 case atStart=>exact⟨0,0,Nat.zero_le _,rfl,rfl,Lib.hid rfl,by omega,by omega,Keep.refl _⟩
 case round=>
  obtain⟨k,m,hk,rfl,rfl,hm,m0,m1,hK⟩:=hrel;by_cases hlt:k<dss.length
  ·
   rcases h with h|⟨b,o,rfl,hb,hc⟩
   · exfalso;rw[h] at hlt;simp at hlt
   obtain⟨u,e1,r1⟩:=hc k hlt;have d1:=(hK.cell hb).trans e1;have r1:=r1.keep hK;have okk:=hok k hlt;clear hc e1 hok;obtain⟨ds,hds⟩:∃ds,ds=dss.getD k []:=⟨_,rfl⟩;have HDS:=Lib.hid hds;rw[←hds] at r1 okk;clear hds;obtain⟨ai,ci,rfl,r1⟩:=r1;have i1:(0:Int)≤(k:Int):=Int.natCast_nonneg _;have i2:(k:Int)<(dss.length:Int):=by omega
   have hl5:ds.length≤5:=by simp[okL] at okk;omega
   have hbw:b<wr.heap.size:=Nat.lt_of_lt_of_le hb hK.size;go_wp2;obtain⟨wo,hwo⟩:∃wo:World,wo=wr:=⟨_,rfl⟩;subst hwo;go_loopw [3,5] (fun n i wq=>∃q:Nat,∃t:Int,q≤ds.length∧n = .int .i64 t∧i = .int .i64 q∧Hid (t=m+evK ds q)∧0≤t∧t≤10*k+2*q∧Keep wo wq) (fun _ i _=>ds.length-(intOf i).toNat)
   case atStart=>exact⟨0,m,Nat.zero_le _,rfl,rfl,Lib.hid (by simp[evK]),by omega,by omega,Keep.refl _⟩
   case round=>
    obtain⟨q,t,hq,rfl,rfl,ht,t0,t1,hQ⟩:=hrel;have d1:=(hQ.cell hbw).trans d1;have hbq:b<wr.heap.size:=Nat.lt_of_lt_of_le hbw hQ.size;by_cases hlq:q<ds.length
    ·
     rcases r1 with h|⟨b2,o2,rfl,hb2,hc2⟩
     · exfalso;rw[h] at hlq;simp at hlq
     have AT:=(hc2 q hlq).keep hb2 hQ
     have okq:okD (ds.getD q zD)=true:=by
      simp only[okL,Bool.and_eq_true] at okk;exact all_get zD okk.1 q hlq
     clear hc2 okk;have hb3:b2<wr.heap.size:=Nat.lt_of_lt_of_le hb2 hQ.size;have HEV:Hid (t+evD (ds.getD q zD)=m+evK ds (q+1)):=Lib.hid (by rw[evK,ht.out];omega);clear ht;obtain⟨d,hd⟩:∃d,d=ds.getD q zD:=⟨_,rfl⟩;rw[←hd] at AT okq HEV;clear hd;have KD:=okD_kind okq;obtain⟨x0,x1,x2,x3⟩:=d;obtain⟨A0,-,-,-⟩:=AT;simp only at A0 KD;have j1:(0:Int)≤(q:Int):=Int.natCast_nonneg _;have j2:(q:Int)<(ds.length:Int):=by omega
     rcases KD with rfl|rfl|rfl|rfl
     all_goals
      go_wp2;go_roundw;case rel=>exact⟨q+1,_,by omega,rfl,by go_num,Lib.hid (by have:=HEV.out;simp[evD] at this;omega),by omega,by omega,hQ.alloc _⟩
      case measure=>simp[intOf];omega
    ·
     obtain rfl:q=ds.length:=by omega
     go_wp2;go_roundw;case rel=>exact⟨k+1,t,by omega,rfl,by go_num,Lib.hid (by rw[evW,←HDS.out,ht.out,hm.out]),t0,by omega,hK.trans hQ⟩
     case measure=>simp[intOf];omega
  ·
   obtain rfl:k=dss.length:=by omega
   go_wp2;go_ret;exact⟨by rw[hm.out];rfl,hK⟩
theorem made_ten:(madeCells (Value.int .i64 0).cells (10*1)).toList=((List.replicate 10 (0:Int)).map (Value.int .i64)):=by
 rw[Nat.mul_one,List.map_replicate];exact toList_madeCells_one _ _
theorem grp_skip {i:Nat}{own o:List Int}{ds:List Dd}{k:Nat}(h:grpK i own ds k=some o)(hg:(ds.getD k zD).2.2.2=0):grpK i own ds (k+1)=some o:=by
 rw[grpK,h];simp only[hg,if_true]
theorem grp_bad {i:Nat}{own o:List Int}{ds:List Dd}{k:Nat}(h:grpK i own ds k=some o)(hg:(ds.getD k zD).2.2.2≠0)
  (hb:o.getD (ds.getD k zD).2.2.2.toNat 0≠0∧(o.getD (ds.getD k zD).2.2.2.toNat 0≠(i:Int)+1∨k=0∨(ds.getD (k-1) zD).2.2.2≠(ds.getD k zD).2.2.2)):grpK i own ds (k+1)=none:=by
 rw[grpK,h];simp only;rw[if_neg hg,if_pos hb]
theorem grp_own {i:Nat}{own o:List Int}{ds:List Dd}{k:Nat}(h:grpK i own ds k=some o)(hg:(ds.getD k zD).2.2.2≠0)
  (hb:¬(o.getD (ds.getD k zD).2.2.2.toNat 0≠0∧(o.getD (ds.getD k zD).2.2.2.toNat 0≠(i:Int)+1∨k=0∨(ds.getD (k-1) zD).2.2.2≠(ds.getD k zD).2.2.2))):
  grpK i own ds (k+1)=some (o.set (ds.getD k zD).2.2.2.toNat ((i:Int)+1)):=by
 rw[grpK,h];simp only;rw[if_neg hg,if_neg hb]
theorem grp_out {dss:List (List Dd)}{k:Nat}{own:List Int}(hk:k<dss.length)(h:grpW dss k=some own){q:Nat}(hq:q≤(dss.getD k []).length)(hn:grpK k own (dss.getD k []) q=none):grpB dss=false:=by
 have h1:grpW dss (k+1)=none:=by
  rw[grpW,h];exact grpK_none hn _ hq
 rw[grpB,grpW_none h1 _ hk];rfl
theorem l5Groups_any (w:World)(v:Value)(dss:List (List Dd))(h:RdW w v dss)(hx:dss.length≤3)(hok:∀i,i<dss.length→okL (dss.getD i [])=true):
  Calls Tryz.prog 46 #[v] w fun e w'=>e = .returned (.bool (grpB dss))∧Keep w w':=by
 obtain⟨a,c,rfl,h⟩:=h;obtain⟨i0,hi,hz0,hz1,hz2⟩:=info_parts Tryz.infoI;go_enter Tryz.func46,Tryz.ntmps46
 go_wp2_with (at_make;refine wpList_make_full _ rfl _ _ 50 rfl w.heap.size 2 i0 (.int .i64 0) 1 Tryz.underlying50 hi hz0 hz1 .i64 .i64 _ _ 10 rfl rfl rfl rfl (by rw[hz2];omega) (by unfold maxLen;omega) (Nat.le_refl _) ?_;intro w1 hown hgrow)
 have k1:Keep w w1:=(Keep.refl w).grown hgrow (by simp)
 have rb:RowAt w1 w.heap.size (List.replicate 10 0):=by
  have o:Own w1 w.heap.size (.slice (some ⟨w.heap.size,0,none⟩) 10 10) (List.replicate 10 0):=by
   rw[made_ten] at hown;unfold Own;simpa using hown
  rcases o.row with ⟨e,_⟩|⟨g,cap,e,_,hr⟩
  · cases e
  ·
   have e1:=congrArg Value.ownBlock e;simp[Value.ownBlock] at e1;rw[e1];exact hr
 clear hgrow hown hi hz0 hz1 hz2;go_loopw [4] (fun i wr=>∃k:Nat,∃own:List Int,k≤dss.length∧i = .int .i64 k∧Hid (grpW dss k=some own)∧RowAt wr w.heap.size own∧Keep w wr) (fun i _=>dss.length-(intOf i).toNat)
 case atStart=>exact⟨0,List.replicate 10 0,Nat.zero_le _,rfl,Lib.hid rfl,rb,k1⟩
 case round=>
  obtain⟨k,own,hk,rfl,hG,hR,hK⟩:=hrel;clear rb k1;by_cases hlt:k<dss.length
  ·
   rcases h with h|⟨b,o,rfl,hb,hc⟩
   · exfalso;rw[h] at hlt;simp at hlt
   obtain⟨u,e1,r1⟩:=hc k hlt;have okk:=hok k hlt;clear hc hok;obtain⟨ds,hds⟩:∃ds,ds=dss.getD k []:=⟨_,rfl⟩;have HDS:=Lib.hid hds;rw[←hds] at r1 okk;clear hds;obtain⟨ai,ci,rfl,r1⟩:=r1;have d1:=(hK.cell hb).trans e1;have i1:(0:Int)≤(k:Int):=Int.natCast_nonneg _;have i2:(k:Int)<(dss.length:Int):=by omega
   have hl5:ds.length≤5:=by simp[okL] at okk;omega
   go_wp2;go_loopw [5] (fun i wq=>∃q:Nat,∃ow:List Int,q≤ds.length∧i = .int .i64 q∧Hid (grpK k own ds q=some ow)∧RowAt wq w.heap.size ow∧Keep w wq) (fun i _=>ds.length-(intOf i).toNat)
   case atStart=>exact⟨0,own,Nat.zero_le _,rfl,Lib.hid rfl,hR,hK⟩
   case round=>
    obtain⟨q,ow,hq,rfl,hQ,hS,hL⟩:=hrel;have d1:=(hL.cell hb).trans e1;by_cases hlq:q<ds.length
    ·
     rcases r1 with h|⟨b2,o2,rfl,hb2,hc2⟩
     · exfalso;rw[h] at hlq;simp at hlq
     have A3:=((hc2 q hlq).keep hb2 hL).2.2.2
     have okq:okD (ds.getD q zD)=true:=by
      simp only[okL,Bool.and_eq_true] at okk;exact all_get zD okk.1 q hlq
     have g09:0≤(ds.getD q zD).2.2.2∧(ds.getD q zD).2.2.2≤9:=okD_group okq;clear okk okq;have AP:0<q→wr.cell? ⟨b2,o2+(q-1)*4+3,none⟩=some (.int .i64 (ds.getD (q-1) zD).2.2.2):=fun _=>((hc2 (q-1) (by omega)).keep hb2 hL).2.2.2
     clear hc2;have S1:=@grp_skip k own ow ds q hQ.out;have S2:=@grp_bad k own ow ds q hQ.out;have S3:=@grp_own k own ow ds q hQ.out;have hlen:ow.length=10:=(grpK_len hQ.out).trans (grpW_len hG.out);clear hQ;obtain⟨g,hg⟩:∃g:Nat,(ds.getD q zD).2.2.2=(g:Int):=⟨_,(Int.toNat_of_nonneg g09.1).symm⟩;rw[hg] at A3 g09 S1 S2 S3;rw[Int.toNat_natCast] at S2 S3;clear hg;have hg9:g<10:=by omega
     obtain⟨p,hp⟩:∃p:Int,p=(ds.getD (q-1) zD).2.2.2:=⟨_,rfl⟩;rw[←hp] at AP S2 S3;clear hp;have hRC:=hS.cell (j:=g) (by omega);obtain⟨y,hy⟩:∃y:Int,y=ow.getD g 0:=⟨_,rfl⟩;rw[←hy] at hRC S2 S3;clear hy g09;have j1:(0:Int)≤(q:Int):=Int.natCast_nonneg _;have j2:(q:Int)<(ds.length:Int):=by omega
     have j3:(0:Int)≤(g:Int):=Int.natCast_nonneg _;have j4:(g:Int)<10:=by omega
     have hbq:b<wr.heap.size:=Nat.lt_of_lt_of_le hb hL.size;have hb3:b2<wr.heap.size:=Nat.lt_of_lt_of_le hb2 hL.size;by_cases g0:g=0
     ·
      have eg:((g:Int)==0)=true:=by simp[g0]
      have HE:=Lib.hid (S1 (by omega));clear S1 S2 S3 AP;go_wp2;go_roundw;case rel=>exact⟨q+1,ow,by omega,by go_num,HE,hS,hL⟩
      case measure=>simp[intOf];omega
     ·
      have HN:Hid ((g:Int)≠0):=Lib.hid (by omega);have eg:((g:Int)==0)=false:=by simp;omega
      have hF:=hS.free g;clear S1;by_cases y0:y=0
      ·
       subst y0;have HE:=Lib.hid (S3 HN.out (by simp));clear S2 S3 AP;go_wp2;go_roundw;case rel=>exact⟨q+1,_,by omega,by go_num,HE,hS.set g _,hL.set (Nat.le_refl _) g _⟩
       case measure=>simp[intOf];omega
      ·
       have ey:(y != 0)=true:=by simp[y0]
       by_cases yk:y=(k:Int)+1
       ·
        subst yk;have ek:((k:Int)+1 != (k:Int)+1)=false:=by simp
        by_cases q0:q=0
        ·
         have eq:((q:Int)==0)=true:=by simp[q0]
         have HE:Hid (grpB dss=false):=Lib.hid (grp_out hlt hG.out (q:=q+1) (by rw[←HDS.out];omega) (by rw[←HDS.out];exact S2 HN.out ⟨y0,.inr (.inl q0)⟩));clear S2 S3 AP y0 q0;go_wp2;go_ret;exact⟨by rw[HE.out];rfl,hL⟩
        ·
         have eq:((q:Int)==0)=false:=by simp;omega
         have AP:=AP (by omega);obtain⟨r,rfl⟩:∃r:Nat,q=r+1:=⟨q-1,by omega⟩;rw[Nat.add_sub_cancel] at AP;have j5:(0:Int)≤(r:Int):=Int.natCast_nonneg _;have j6:(r:Int)<(ds.length:Int):=by omega
         by_cases pg:p=(g:Int)
         ·
          subst pg;have ep:((g:Int) != (g:Int))=false:=by simp
          have HE:=Lib.hid (S3 HN.out (by simp));clear S2 S3 y0;go_wp2;go_roundw;case rel=>exact⟨r+1+1,_,by omega,by go_num,HE,hS.set g _,hL.set (Nat.le_refl _) g _⟩
          case measure=>simp[intOf];omega
         ·
          have ep:(p != (g:Int))=true:=by simp[pg]
          have HE:Hid (grpB dss=false):=Lib.hid (grp_out hlt hG.out (q:=r+1+1) (by rw[←HDS.out];omega) (by rw[←HDS.out];exact S2 HN.out ⟨y0,.inr (.inr pg)⟩));clear S2 S3 y0 pg;go_wp2;go_ret;exact⟨by rw[HE.out];rfl,hL⟩
       ·
        have ek:(y != (k:Int)+1)=true:=by simp[yk]
        have HE:Hid (grpB dss=false):=Lib.hid (grp_out hlt hG.out (q:=q+1) (by rw[←HDS.out];omega) (by rw[←HDS.out];exact S2 HN.out ⟨y0,.inl yk⟩));clear S2 S3 AP yk y0;go_wp2;go_ret;exact⟨by rw[HE.out];rfl,hL⟩
    ·
     obtain rfl:q=ds.length:=by omega
     go_wp2;go_roundw;case rel=>exact⟨k+1,ow,by omega,by go_num,Lib.hid (by rw[grpW,hG.out,←HDS.out];exact hQ.out),hS,hL⟩
     case measure=>simp[intOf];omega
  ·
   obtain rfl:k=dss.length:=by omega
   go_wp2;go_ret;exact⟨by rw[grpB,hG.out];rfl,hK⟩
theorem fstE_len (g:Int)(n:Nat)(f:List Int):(fstE g n f).length=f.length:=by unfold fstE;split<;>simp
theorem l6Events_any (w:World)(v:Value)(dss:List (List Dd))(h:RdW w v dss)(hx:dss.length≤3)(hok:∀i,i<dss.length→okL (dss.getD i [])=true):
  Calls Tryz.prog 90 #[v] w fun e w'=>∃v',e = .returned v'∧AppE w' w.heap.size v' (evsW dss dss.length)∧Keep w w':=by
 obtain⟨a,c,rfl,h⟩:=h;obtain⟨i0,hi,hz0,hz1,hz2⟩:=info_parts Tryz.infoI;obtain⟨j0,hj,hy0,hy1,hy2⟩:=info_parts Tryz.infoE;have A0:AppE (w.alloc (.cells #[] 85)) w.heap.size (.slice (some ⟨w.heap.size,0,none⟩) 0 0) []:=appT_empty w;go_enter Tryz.func90,Tryz.ntmps90
 go_wp2;go_loopw [3,4] (fun v i wr=>∃k:Nat,∃m:Int,∃es:List Ev,k≤3∧i = .int .i64 m∧m=(k:Int)∧Hid (es=evBeg.take k)∧es.length≤k∧AppE wr w.heap.size v es∧Keep w wr) (fun _ i _=>3-(intOf i).toNat)
 case atStart=>exact⟨0,0,[],Nat.zero_le _,rfl,rfl,Lib.hid rfl,Nat.le_refl _,A0,(Keep.refl _).alloc _⟩
 case round=>
  obtain⟨k,m,es,hk,rfl,hm,hE,hel,ho,hK⟩:=hrel;clear A0;have hsz:=hK.size;by_cases hlt:k<3
  ·
   subst hm
   have HM:Hid (es++[((-1:Int),(-1:Int),false,(k:Int),0,(k:Int))]=evBeg.take (k+1)):=Lib.hid (by
    rw[hE.out];have:k=0∨k=1∨k=2:=by omega
    rcases this with rfl|rfl|rfl<;>rfl)
   clear hE;go_wp2_with (at_builtin;refine wpList_append_own_at _ rfl _ _ 82 rfl w.heap.size 85 j0 (.agg #[.int .i64 0,.int .i64 0,.bool false,.int .i64 0,.int .i64 0,.int .i64 0]) 6 48 Tryz.underlying82 hj hy0 hy1 hy2 rfl (by decide) _ _ _ rfl (ho.keep ((Keep.refl _).alloc _)) ⟨_,0,none⟩ 1 1 (cE ((-1:Int),(-1:Int),false,(k:Int),0,(k:Int))) rfl rfl ?c1 ?c2 ?c3 ?c4 ?c5 ?_)
   case c1=>exact cE_new _ _ _ _ _ _ _
   case c2=>exact cE_one _
   case c3=>unfold maxLen;omega
   case c4=>omega
   case c5=>simp;omega
   intro v' w1 hown' hgrow _ _;have hK1:Keep w w1:=(hK.alloc _).grown hgrow ho.ge;have hA:=appT_hit hown';clear hgrow hown';go_wp2;go_roundw;case rel=>exact⟨k+1,_,_,by omega,rfl,by omega,HM,by simp;omega,hA,hK1⟩
   case measure=>simp[intOf];omega
  obtain rfl:m=3:=by omega
  have HB:Hid (es=evsW dss 0):=Lib.hid (by rw[hE.out,show k=3 by omega];rfl);clear hE hm;go_wp2;go_loopw [3,5] (fun v i wr=>∃k:Nat,∃es:List Ev,k≤dss.length∧i = .int .i64 k∧Hid (es=evsW dss k)∧es.length≤3+10*k∧AppE wr w.heap.size v es∧Keep w wr) (fun _ i _=>dss.length-(intOf i).toNat)
  case atStart=>exact⟨0,es,Nat.zero_le _,rfl,HB,by omega,ho,hK⟩
  case round=>
   clear HB hel ho hK hsz hlt hk;obtain⟨k,es,hk,rfl,hE,hel,ho,hK⟩:=hrel;have hsz:=hK.size;by_cases hlt:k<dss.length
   ·
    rcases h with h|⟨b,o,rfl,hb,hc⟩
    · exfalso;rw[h] at hlt;simp at hlt
    obtain⟨u,e1,r1⟩:=hc k hlt;have okk:=hok k hlt;clear hc hok;obtain⟨ds,hds⟩:∃ds,ds=dss.getD k []:=⟨_,rfl⟩;have HDS:=Lib.hid hds;rw[←hds] at r1 okk;clear hds;obtain⟨ai,ci,rfl,r1⟩:=r1;have d1:=(hK.cell hb).trans e1;have i1:(0:Int)≤(k:Int):=Int.natCast_nonneg _;have i2:(k:Int)<(dss.length:Int):=by omega
    have hl5:ds.length≤5:=by simp[okL] at okk;omega
    obtain⟨wo,hwo⟩:∃wo:World,wo=wr:=⟨_,rfl⟩;subst hwo;go_wp2_with (at_make;refine wpList_make_full _ rfl _ _ 50 rfl wo.heap.size 2 i0 (.int .i64 0) 1 Tryz.underlying50 hi hz0 hz1 .i64 .i64 _ _ 10 rfl rfl rfl rfl (by rw[hz2];omega) (by unfold maxLen;omega) (Nat.le_refl _) ?_;intro w1 hown hgrow)
    have k1:Keep wo w1:=(Keep.refl wo).grown hgrow (by simp)
    have rb:RowAt w1 wo.heap.size (List.replicate 10 0):=by
     have o:Own w1 wo.heap.size (.slice (some ⟨wo.heap.size,0,none⟩) 10 10) (List.replicate 10 0):=by
      rw[made_ten] at hown;unfold Own;simpa using hown
     rcases o.row with ⟨e,_⟩|⟨g,cap,e,_,hr⟩
     · cases e
     ·
      have e1:=congrArg Value.ownBlock e;simp[Value.ownBlock] at e1;rw[e1];exact hr
    clear hgrow hown;have L0:InL w w1 wo.heap.size _ es (List.replicate 10 0):=⟨ho.keep k1,rb,hK.trans k1,hsz,fun e=>by have:=(ho.lt _ e).2;omega⟩;go_loopw [3,7] (fun v i wq=>∃q:Nat,∃evs:List Ev,∃f:List Int,q≤ds.length∧i = .int .i64 q∧Hid (clkE k ds es q=(evs,f))∧Hid (f.length=10)∧evs.length≤3+10*k+2*q∧InL w wq wo.heap.size v evs f) (fun _ i _=>ds.length-(intOf i).toNat)
    case atStart=>exact⟨0,es,_,Nat.zero_le _,rfl,Lib.hid rfl,Lib.hid rfl,by omega,L0⟩
    case round=>
     clear L0 rb k1 w1 d1;obtain⟨q,evs,f,hq,rfl,hC,hfl,hev,hI⟩:=hrel;have d1:=(hI.keep.cell hb).trans e1;have hbq:b<wr.heap.size:=Nat.lt_of_lt_of_le hb hI.keep.size;by_cases hlq:q<ds.length
     ·
      rcases r1 with h|⟨b2,o2,rfl,hb2,hc2⟩
      · exfalso;rw[h] at hlq;simp at hlq
      have AT:=(hc2 q hlq).keep hb2 hI.keep
      have okq:okD (ds.getD q zD)=true:=by
       simp only[okL,Bool.and_eq_true] at okk;exact all_get zD okk.1 q hlq
      clear hc2 okk;have hb3:b2<wr.heap.size:=Nat.lt_of_lt_of_le hb2 hI.keep.size;have HST:Hid (clkE k ds es (q+1)=stepE k q (ds.getD q zD) (evs,f)):=Lib.hid (by rw[clkE,hC.out]);clear hC;obtain⟨d,hd⟩:∃d,d=ds.getD q zD:=⟨_,rfl⟩;rw[←hd] at AT okq HST;clear hd;have KD:=okD_kindE okq;have RD:=okD_restE okq;obtain⟨x0,x1,x2,x3⟩:=d;obtain⟨A0,A1,A2,A3⟩:=AT;simp only at A0 A1 A2 A3 KD RD;obtain⟨-,-,r2,r3,r4⟩:=RD;obtain⟨g,rfl⟩:=Int.eq_ofNat_of_zero_le r2;have j1:(0:Int)≤(q:Int):=Int.natCast_nonneg _;have j2:(q:Int)<(ds.length:Int):=by omega
      have j3:(0:Int)≤(g:Int):=Int.natCast_nonneg _;have j4:(g:Int)<10:=by omega
      have hg9:g<10:=by omega
      clear r2 r3 okq;obtain⟨av,cv,rfl⟩:=hI.app.shape;rcases KD with rfl|rfl|rfl|rfl
      ·
       obtain⟨f',hf'⟩:∃f',f'=fstE (g:Int) evs.length f:=⟨_,rfl⟩;obtain⟨cl,hcl⟩:∃cl,cl=clsE (g:Int) evs.length f:=⟨_,rfl⟩;have HS:Hid (clkE k ds es (q+1)=(evs++[((k:Int),(q:Int),true,x1,0,cl)],f')):=Lib.hid (by rw[HST.out,hf',hcl];rfl);have hfl':Hid (f'.length=10):=Lib.hid (by rw[hf',fstE_len];exact hfl.out);have HF:=Lib.hid hf';have HC:=Lib.hid hcl;clear HST hf' hcl;clear r4;go_upto_if 61 with fail
       have I1:=hI.boxes 1 x1 x2 (g:Int) (k:Int) (q:Int) true x1 0 (evs.length:Int);go_cut [] from 29 to 99 (fun wx=>InE w wx wo.heap.size wr.heap.size (wr.heap.size+1) (.slice av evs.length cv) evs f 1 x1 x2 g k q true x1 0 evs.length)
       case first=>
        go_wp2;go_meet;case rel=>exact I1
       case rest=>
        clear I1 A0 A1 A2 A3 d1;have IH:=hcut;clear hcut;obtain⟨t0,t1,t2,t3⟩:=IH.deed;obtain⟨s0,s1,s2,s3,s4,s5⟩:=IH.event;have F2:=IH.free 2;have F4:=IH.free 4;have F5:=IH.free 5;obtain⟨z1,z2,z3⟩:=IH.lt;go_upto_if 67 with fail
        go_cut [] from 29 to 99 (fun wx=>InE w wx wo.heap.size wr.heap.size (wr.heap.size+1) (.slice av evs.length cv) evs f' 1 x1 x2 g k q true x1 0 cl)
        case first=>
         by_cases g0:g=0
         ·
          have n0:(g:Int)≤0:=by omega
          have E1:Hid (f'=f):=Lib.hid (by rw[HF.out,fstE,if_neg (by omega)]);have E2:Hid (cl=(evs.length:Int)):=Lib.hid (by rw[HC.out,clsE,if_neg (by omega)]);go_wp2;go_meet;case rel=>rw[E1.out,E2.out];exact IH
         ·
          have n0:(0:Int)<(g:Int):=by omega
          have gg:Hid (f'.getD g 0=cl):=Lib.hid (by rw[HC.out,HF.out,clsE,if_pos n0,Int.toNat_natCast]);have hRC:=IH.l.row.cell (j:=g) (by rw[hfl.out];exact hg9);obtain⟨y,hy⟩:∃y,y=f.getD g 0:=⟨_,rfl⟩;rw[←hy] at hRC;have HY:=Lib.hid hy;have FG:=IH.l.row.free g;clear hy g0;go_upto_if 73 with fail
          go_cut [] from 29 to 99 (fun wx=>InE w wx wo.heap.size wr.heap.size (wr.heap.size+1) (.slice av evs.length cv) evs f' 1 x1 x2 g k q true x1 0 evs.length)
          case first=>
           by_cases y0:y=0
           ·
            have E1:Hid (f'=f.set g (evs.length:Int)):=Lib.hid (by rw[HF.out,fstE,Int.toNat_natCast,if_pos ⟨n0,by rw[←HY.out];exact y0⟩]);subst y0;go_wp2;go_meet;case rel=>rw[E1.out];exact IH.setF g _
           ·
            have E1:Hid (f'=f):=Lib.hid (by rw[HF.out,fstE,Int.toNat_natCast,if_neg (fun e=>y0 (HY.out.trans e.2))]);have ey:(y==0)=false:=by simp[y0]
            clear y0;go_wp2;go_meet;case rel=>rw[E1.out];exact IH
          case rest=>
           clear t0 t1 t2 t3 s0 s1 s2 s3 s4 s5 F2 F4 F5 z1 z2 z3;clear hRC FG IH;have hRC:=hcut.l.row.cell (j:=g) (by rw[hfl'.out];exact hg9);rw[gg.out] at hRC;obtain⟨t0,t1,t2,t3⟩:=hcut.deed;obtain⟨s0,s1,s2,s3,s4,s5⟩:=hcut.event;have F2:=hcut.free 2;have F4:=hcut.free 4;have F5:=hcut.free 5;obtain⟨z1,z2,z3⟩:=hcut.lt;go_wp2;go_meet;case rel=>exact hcut.set5 _
        case rest=>
         clear t0 t1 t2 t3 s0 s1 s2 s3 s4 s5 F2 F4 F5 z1 z2 z3;clear IH hI;obtain⟨t0,t1,t2,t3⟩:=hcut.deed;obtain⟨s0,s1,s2,s3,s4,s5⟩:=hcut.event;have F2:=hcut.free 2;have F4:=hcut.free 4;have F5:=hcut.free 5;obtain⟨z1,z2,z3⟩:=hcut.lt;go_wp2_with (at_builtin;refine wpList_append_own_at _ rfl _ _ 82 rfl w.heap.size 85 j0 (.agg #[.int .i64 0,.int .i64 0,.bool false,.int .i64 0,.int .i64 0,.int .i64 0]) 6 48 Tryz.underlying82 hj hy0 hy1 hy2 rfl (by decide) _ _ _ rfl (hcut.l.app.keep ((Keep.refl _).alloc _)) ⟨_,0,none⟩ 1 1 (cE ((k:Int),(q:Int),true,x1,0,cl)) rfl rfl ?a1 ?a2 ?a3 ?a4 ?a5 ?_)
         case a1=>exact cE_new _ _ _ _ _ _ _
         case a2=>exact cE_one _
         case a3=>unfold maxLen;omega
         case a4=>omega
         case a5=>simp;omega
         intro v' w5 hown' hgrow _ hbl;have I5:=hcut.hit ((k:Int),(q:Int),true,x1,0,cl) hown' hgrow hbl;clear hown' hgrow hbl;obtain⟨es1,h1⟩:∃es1,es1=evs++[((k:Int),(q:Int),true,x1,0,cl)]:=⟨_,rfl⟩;have l1:es1.length≤evs.length+1:=by rw[h1];simp
         rw[←h1] at I5;clear t0 t1 t2 t3 s0 s1 s2 s3 s4 s5 F2 F4 F5 z1 z2 z3;clear hcut;obtain⟨t0,t1,t2,t3⟩:=I5.deed;obtain⟨s0,s1,s2,s3,s4,s5⟩:=I5.event;have F2:=I5.free 2;have F4:=I5.free 4;have F5:=I5.free 5;obtain⟨z1,z2,z3⟩:=I5.lt;have HS1:Hid (clkE k ds es (q+1)=(es1,f')):=Lib.hid (by rw[HS.out,h1]);clear h1 HS;go_wp2;go_roundw;case rel=>exact⟨q+1,es1,f',by omega,by go_num,HS1,hfl',by omega,I5.l⟩
         case measure=>simp[intOf];omega
      ·
       obtain⟨f',hf'⟩:∃f',f'=fstE (g:Int) evs.length f:=⟨_,rfl⟩;obtain⟨cl,hcl⟩:∃cl,cl=clsE (g:Int) evs.length f:=⟨_,rfl⟩;have HS:Hid (clkE k ds es (q+1)=(evs++[((k:Int),(q:Int),false,x1,x2,cl)],f')):=Lib.hid (by rw[HST.out,hf',hcl];rfl);have hfl':Hid (f'.length=10):=Lib.hid (by rw[hf',fstE_len];exact hfl.out);have HF:=Lib.hid hf';have HC:=Lib.hid hcl;clear HST hf' hcl;clear r4;go_upto_if 61 with fail
       have I1:=hI.boxes 2 x1 x2 (g:Int) (k:Int) (q:Int) false x1 x2 (evs.length:Int);go_cut [] from 29 to 99 (fun wx=>InE w wx wo.heap.size wr.heap.size (wr.heap.size+1) (.slice av evs.length cv) evs f 2 x1 x2 g k q false x1 x2 evs.length)
       case first=>
        go_wp2;go_meet;case rel=>exact I1
       case rest=>
        clear I1 A0 A1 A2 A3 d1;have IH:=hcut;clear hcut;obtain⟨t0,t1,t2,t3⟩:=IH.deed;obtain⟨s0,s1,s2,s3,s4,s5⟩:=IH.event;have F2:=IH.free 2;have F4:=IH.free 4;have F5:=IH.free 5;obtain⟨z1,z2,z3⟩:=IH.lt;go_upto_if 67 with fail
        go_cut [] from 29 to 99 (fun wx=>InE w wx wo.heap.size wr.heap.size (wr.heap.size+1) (.slice av evs.length cv) evs f' 2 x1 x2 g k q false x1 x2 cl)
        case first=>
         by_cases g0:g=0
         ·
          have n0:(g:Int)≤0:=by omega
          have E1:Hid (f'=f):=Lib.hid (by rw[HF.out,fstE,if_neg (by omega)]);have E2:Hid (cl=(evs.length:Int)):=Lib.hid (by rw[HC.out,clsE,if_neg (by omega)]);go_wp2;go_meet;case rel=>rw[E1.out,E2.out];exact IH
         ·
          have n0:(0:Int)<(g:Int):=by omega
          have gg:Hid (f'.getD g 0=cl):=Lib.hid (by rw[HC.out,HF.out,clsE,if_pos n0,Int.toNat_natCast]);have hRC:=IH.l.row.cell (j:=g) (by rw[hfl.out];exact hg9);obtain⟨y,hy⟩:∃y,y=f.getD g 0:=⟨_,rfl⟩;rw[←hy] at hRC;have HY:=Lib.hid hy;have FG:=IH.l.row.free g;clear hy g0;go_upto_if 73 with fail
          go_cut [] from 29 to 99 (fun wx=>InE w wx wo.heap.size wr.heap.size (wr.heap.size+1) (.slice av evs.length cv) evs f' 2 x1 x2 g k q false x1 x2 evs.length)
          case first=>
           by_cases y0:y=0
           ·
            have E1:Hid (f'=f.set g (evs.length:Int)):=Lib.hid (by rw[HF.out,fstE,Int.toNat_natCast,if_pos ⟨n0,by rw[←HY.out];exact y0⟩]);subst y0;go_wp2;go_meet;case rel=>rw[E1.out];exact IH.setF g _
           ·
            have E1:Hid (f'=f):=Lib.hid (by rw[HF.out,fstE,Int.toNat_natCast,if_neg (fun e=>y0 (HY.out.trans e.2))]);have ey:(y==0)=false:=by simp[y0]
            clear y0;go_wp2;go_meet;case rel=>rw[E1.out];exact IH
          case rest=>
           clear t0 t1 t2 t3 s0 s1 s2 s3 s4 s5 F2 F4 F5 z1 z2 z3;clear hRC FG IH;have hRC:=hcut.l.row.cell (j:=g) (by rw[hfl'.out];exact hg9);rw[gg.out] at hRC;obtain⟨t0,t1,t2,t3⟩:=hcut.deed;obtain⟨s0,s1,s2,s3,s4,s5⟩:=hcut.event;have F2:=hcut.free 2;have F4:=hcut.free 4;have F5:=hcut.free 5;obtain⟨z1,z2,z3⟩:=hcut.lt;go_wp2;go_meet;case rel=>exact hcut.set5 _
        case rest=>
         clear t0 t1 t2 t3 s0 s1 s2 s3 s4 s5 F2 F4 F5 z1 z2 z3;clear IH hI;obtain⟨t0,t1,t2,t3⟩:=hcut.deed;obtain⟨s0,s1,s2,s3,s4,s5⟩:=hcut.event;have F2:=hcut.free 2;have F4:=hcut.free 4;have F5:=hcut.free 5;obtain⟨z1,z2,z3⟩:=hcut.lt;go_wp2_with (at_builtin;refine wpList_append_own_at _ rfl _ _ 82 rfl w.heap.size 85 j0 (.agg #[.int .i64 0,.int .i64 0,.bool false,.int .i64 0,.int .i64 0,.int .i64 0]) 6 48 Tryz.underlying82 hj hy0 hy1 hy2 rfl (by decide) _ _ _ rfl (hcut.l.app.keep ((Keep.refl _).alloc _)) ⟨_,0,none⟩ 1 1 (cE ((k:Int),(q:Int),false,x1,x2,cl)) rfl rfl ?a1 ?a2 ?a3 ?a4 ?a5 ?_)
         case a1=>exact cE_new _ _ _ _ _ _ _
         case a2=>exact cE_one _
         case a3=>unfold maxLen;omega
         case a4=>omega
         case a5=>simp;omega
         intro v' w5 hown' hgrow _ hbl;have I5:=hcut.hit ((k:Int),(q:Int),false,x1,x2,cl) hown' hgrow hbl;clear hown' hgrow hbl;obtain⟨es1,h1⟩:∃es1,es1=evs++[((k:Int),(q:Int),false,x1,x2,cl)]:=⟨_,rfl⟩;have l1:es1.length≤evs.length+1:=by rw[h1];simp
         rw[←h1] at I5;clear t0 t1 t2 t3 s0 s1 s2 s3 s4 s5 F2 F4 F5 z1 z2 z3;clear hcut;obtain⟨t0,t1,t2,t3⟩:=I5.deed;obtain⟨s0,s1,s2,s3,s4,s5⟩:=I5.event;have F2:=I5.free 2;have F4:=I5.free 4;have F5:=I5.free 5;obtain⟨z1,z2,z3⟩:=I5.lt;have HS1:Hid (clkE k ds es (q+1)=(es1,f')):=Lib.hid (by rw[HS.out,h1]);clear h1 HS;go_wp2;go_roundw;case rel=>exact⟨q+1,es1,f',by omega,by go_num,HS1,hfl',by omega,I5.l⟩
         case measure=>simp[intOf];omega
      ·
       obtain⟨f',hf'⟩:∃f',f'=fstE (g:Int) evs.length f:=⟨_,rfl⟩;obtain⟨cl,hcl⟩:∃cl,cl=clsE (g:Int) evs.length f:=⟨_,rfl⟩;have HS:Hid (clkE k ds es (q+1)=(evs++[((k:Int),(q:Int),true,x1,0,cl),((k:Int),(q:Int),false,x1,x2,cl)],f')):=Lib.hid (by rw[HST.out,hf',hcl];rfl);have hfl':Hid (f'.length=10):=Lib.hid (by rw[hf',fstE_len];exact hfl.out);have HF:=Lib.hid hf';have HC:=Lib.hid hcl;clear HST hf' hcl;have n0:(g:Int)≤0:=by have:=r4 (by omega);omega
       clear r4;go_upto_if 61 with fail
       have I1:=hI.boxes 3 x1 x2 (g:Int) (k:Int) (q:Int) true x1 0 (evs.length:Int);go_cut [] from 29 to 99 (fun wx=>InE w wx wo.heap.size wr.heap.size (wr.heap.size+1) (.slice av evs.length cv) evs f 3 x1 x2 g k q true x1 0 evs.length)
       case first=>
        go_wp2;go_meet;case rel=>exact I1
       case rest=>
        clear I1 A0 A1 A2 A3 d1;have IH:=hcut;clear hcut;obtain⟨t0,t1,t2,t3⟩:=IH.deed;obtain⟨s0,s1,s2,s3,s4,s5⟩:=IH.event;have F2:=IH.free 2;have F4:=IH.free 4;have F5:=IH.free 5;obtain⟨z1,z2,z3⟩:=IH.lt;go_upto_if 67 with fail
        go_cut [] from 29 to 99 (fun wx=>InE w wx wo.heap.size wr.heap.size (wr.heap.size+1) (.slice av evs.length cv) evs f' 3 x1 x2 g k q true x1 0 cl)
        case first=>
         have E1:Hid (f'=f):=Lib.hid (by rw[HF.out,fstE,if_neg (by omega)]);have E2:Hid (cl=(evs.length:Int)):=Lib.hid (by rw[HC.out,clsE,if_neg (by omega)]);go_wp2;go_meet;case rel=>rw[E1.out,E2.out];exact IH
        case rest=>
         clear t0 t1 t2 t3 s0 s1 s2 s3 s4 s5 F2 F4 F5 z1 z2 z3;clear IH hI;obtain⟨t0,t1,t2,t3⟩:=hcut.deed;obtain⟨s0,s1,s2,s3,s4,s5⟩:=hcut.event;have F2:=hcut.free 2;have F4:=hcut.free 4;have F5:=hcut.free 5;obtain⟨z1,z2,z3⟩:=hcut.lt;go_wp2_with (at_builtin;refine wpList_append_own_at _ rfl _ _ 82 rfl w.heap.size 85 j0 (.agg #[.int .i64 0,.int .i64 0,.bool false,.int .i64 0,.int .i64 0,.int .i64 0]) 6 48 Tryz.underlying82 hj hy0 hy1 hy2 rfl (by decide) _ _ _ rfl (hcut.l.app.keep ((Keep.refl _).alloc _)) ⟨_,0,none⟩ 1 1 (cE ((k:Int),(q:Int),true,x1,0,cl)) rfl rfl ?a1 ?a2 ?a3 ?a4 ?a5 ?_)
         case a1=>exact cE_new _ _ _ _ _ _ _
         case a2=>exact cE_one _
         case a3=>unfold maxLen;omega
         case a4=>omega
         case a5=>simp;omega
         intro v' w5 hown' hgrow _ hbl;have I5:=hcut.hit ((k:Int),(q:Int),true,x1,0,cl) hown' hgrow hbl;clear hown' hgrow hbl;obtain⟨es1,h1⟩:∃es1,es1=evs++[((k:Int),(q:Int),true,x1,0,cl)]:=⟨_,rfl⟩;have l1:es1.length≤evs.length+1:=by rw[h1];simp
         rw[←h1] at I5;clear t0 t1 t2 t3 s0 s1 s2 s3 s4 s5 F2 F4 F5 z1 z2 z3;clear hcut;obtain⟨t0,t1,t2,t3⟩:=I5.deed;obtain⟨s0,s1,s2,s3,s4,s5⟩:=I5.event;have F2:=I5.free 2;have F4:=I5.free 4;have F5:=I5.free 5;obtain⟨z1,z2,z3⟩:=I5.lt;have HS1:Hid (clkE k ds es (q+1)=(es1++[((k:Int),(q:Int),false,x1,x2,cl)],f')):=Lib.hid (by rw[HS.out,h1,List.append_assoc];rfl);clear h1 HS;go_upto_region 26 with fail
         have zz:w.heap.size≤w5.heap.size:=I5.l.keep.size;have I6:=I5.set2 false;clear t0 t1 t2 t3 s0 s1 s2 s3 s4 s5 F2 F4 F5 z1 z2 z3;obtain⟨t0,t1,t2,t3⟩:=I6.deed;obtain⟨s0,s1,s2,s3,s4,s5⟩:=I6.event;have F2:=I6.free 2;have F4:=I6.free 4;have F5:=I6.free 5;obtain⟨z1,z2,z3⟩:=I6.lt;go_upto_region 27 with fail
         have I7:=I6.set4 x2;clear t0 t1 t2 t3 s0 s1 s2 s3 s4 s5 F2 F4 F5 z1 z2 z3;obtain⟨t0,t1,t2,t3⟩:=I7.deed;obtain⟨s0,s1,s2,s3,s4,s5⟩:=I7.event;have F2:=I7.free 2;have F4:=I7.free 4;have F5:=I7.free 5;obtain⟨z1,z2,z3⟩:=I7.lt;go_wp2_with (at_builtin;refine wpList_append_own_at _ rfl _ _ 82 rfl w.heap.size 85 j0 (.agg #[.int .i64 0,.int .i64 0,.bool false,.int .i64 0,.int .i64 0,.int .i64 0]) 6 48 Tryz.underlying82 hj hy0 hy1 hy2 rfl (by decide) _ _ _ rfl (I7.l.app.keep ((Keep.refl _).alloc _)) ⟨_,0,none⟩ 1 1 (cE ((k:Int),(q:Int),false,x1,x2,cl)) rfl rfl ?b1 ?b2 ?b3 ?b4 ?b5 ?_)
         case b1=>exact cE_newAt _ _ (by simp) _ _ _ _ _ _
         case b2=>exact cE_one _
         case b3=>unfold maxLen;omega
         case b4=>omega
         case b5=>simp;omega
         intro v' w5 hown' hgrow _ hbl;have I8:=I7.hit ((k:Int),(q:Int),false,x1,x2,cl) hown' hgrow (by simpa using hbl);clear hown' hgrow hbl;clear t0 t1 t2 t3 s0 s1 s2 s3 s4 s5 F2 F4 F5 z1 z2 z3;clear I5 I6 I7;go_wp2;go_roundw;case rel=>exact⟨q+1,_,f',by omega,by go_num,HS1,hfl',by simp;omega,I8.l⟩
         case measure=>simp[intOf];omega
      ·
       have HS:Hid (clkE k ds es (q+1)=(evs,f)):=Lib.hid (by rw[HST.out];rfl);clear HST r4;go_wp2;go_roundw;case rel=>exact⟨q+1,evs,f,by omega,by go_num,HS,hfl,by omega,hI.more ((Keep.refl _).alloc _)⟩
       case measure=>simp[intOf];omega
     ·
      obtain rfl:q=ds.length:=by omega
      go_wp2;go_roundw;case rel=>exact⟨k+1,evs,by omega,by go_num,Lib.hid (by rw[evsW,←HDS.out,←hE.out,hC.out]),by omega,hI.app,hI.keep⟩
      case measure=>simp[intOf];omega
   ·
    obtain rfl:k=dss.length:=by omega
    go_wp2;go_ret;exact⟨_,rfl,by rw[←hE.out];exact ho,hK⟩
def plcK (es:List Ev):Nat→List (List Int)
 | 0=>[]
 |k+1=>plcK es k++[plcW es k]
theorem plcK_len (es:List Ev):∀k:Nat,(plcK es k).length=k
 | 0=>rfl
 |k+1=>by rw[plcK,List.length_append,plcK_len es k];rfl
theorem plcK_get (es:List Ev)(i:Nat)(hi:i<3):(plcK es 3).getD i []=plcW es i:=by
 have:i=0∨i=1∨i=2:=by omega
 rcases this with rfl|rfl|rfl<;>rfl
theorem l9Places_cap (w:World)(v:Value)(es:List Ev)(h:RdE w v es)(hx:es.length≤12):
  Calls Tryz.prog 170 #[v] w fun e w'=>∃v',e = .returned v'∧RdLC w' v' (plcK es 3)∧Keep w w':=by
 obtain⟨i0,hi,hz0,hz1,hz2⟩:=info_parts Tryz.infoL;have A0:=appL_empty w;go_enter Tryz.func170,Tryz.ntmps170
 go_wp2;go_loopw [3,4] (fun x i wr=>∃k:Nat,∃vs:List Value,k≤3∧i = .int .i64 k∧AppL wr w.heap.size x vs (plcK es k)∧Keep w wr) (fun _ i _=>3-(intOf i).toNat)
 case atStart=>exact⟨0,[],Nat.zero_le _,rfl,A0,(Keep.refl w).alloc _⟩
 case round=>
  obtain⟨k,vs,hk,rfl,hA,hK⟩:=hrel;clear A0;by_cases hlt:k<3
  ·
   have HC:Hid (plcK es (k+1)=plcK es k++[idxB (toE (k:Int)) es]):=Lib.hid rfl;have hcl:=plcK_len es k;have hE:=h.keep hK;have i1:(0:Int)≤(k:Int):=Int.natCast_nonneg _;have i2:(k:Int)<3:=by omega
   go_wp2_with fail
   refine (specWritesTo_any _ _ _ _ hE (by omega)).mono ?_;rintro e w2 ⟨v2,rfl,o2,k2⟩;obtain⟨D,hD⟩:∃D,D=plcK es k:=⟨_,rfl⟩;rw[←hD] at hA HC hcl;clear hD;generalize idxB (toE (k:Int)) es=zs at o2 HC;have hA2:=(hA.keep k2).keep ((Keep.refl w2).alloc (.cells #[v2] 50));have hU:Beside (w2.alloc (.cells #[v2] 50)) _ v2 zs:=(o2.beside (x:=u3) (fun k hk=>(hA.lt k hk).2)).keep ((Keep.refl w2).alloc _);have hK2:=hK.trans k2;have hsz:=hK2.size;obtain⟨a2,c2,hv2,-⟩:=o2.rd;clear hA o2;generalize zs.length=nz at hv2;subst hv2;go_wp2_with (at_builtin;refine wpList_append_own_at _ rfl _ _ 26 rfl w.heap.size 50 i0 (.slice none 0 0) 1 24 Tryz.underlying26 hi hz0 hz1 hz2 rfl (by decide) _ _ _ rfl hA2.row ⟨_,0,none⟩ 1 1 [.slice a2 nz c2] rfl rfl ?c1 ?c2 ?c3 ?c4 ?c5 ?_)
   case c1=>exact new_one _ _ _ rfl
   case c2=>intro u hu;simp at hu;subst hu;rfl
   case c3=>unfold maxLen;omega
   case c4=>omega
   case c5=>first|omega|(simp;omega)
   intro v' w3 hown' hgrow _ hblk;have hblk':v'.ownBlock=u3.ownBlock∨v'.ownBlock=some (w2.alloc (.cells #[.slice a2 nz c2] 50)).heap.size:=by rw[heap_size];exact hblk
   have hA3:=hA2.push hU (by rw[hcl];exact hown') hgrow hblk';have hK3:Keep w w3:=(hK2.alloc _).grown hgrow (fun k hk=>(hA2.lt k hk).1);clear hown' hgrow hblk hblk' hA2 hU;go_wp2;go_roundw;case rel=>exact⟨k+1,_,by omega,by go_num,by rw[HC.out];exact hA3,hK3⟩
   case measure=>simp[intOf];omega
  ·
   obtain rfl:k=3:=by omega
   have HR:=Lib.hid hA.rdc;go_wp2;go_ret;exact⟨_,rfl,HR.out,hK⟩
theorem l9Places_any (w:World)(v:Value)(es:List Ev)(h:RdE w v es)(hx:es.length≤12):
  Calls Tryz.prog 170 #[v] w fun e w'=>∃v',e = .returned v'∧RdL w' v' (plcK es 3)∧Keep w w':=
 (l9Places_cap w v es h hx).mono fun _ _ ⟨v',h1,h2,h3⟩=>⟨v',h1,h2.rd,h3⟩
theorem l9Factorial_any (w:World)(n:Nat)(hn:n≤12):
  Calls Tryz.prog 171 #[.int .i64 n] w fun e w'=>e = .returned (.int .i64 (fac n))∧w'=w:=by
 go_enter Tryz.func171,Tryz.ntmps171
 go_wp2;go_loopw [3,4] (fun x i wr=>∃k:Nat,1≤k∧(k≤n∨k=1)∧x = .int .i64 (fac k)∧i = .int .i64 ((k:Int)+1)∧wr=w) (fun _ i _=>(n+2-(intOf i).toNat))
 case atStart=>exact⟨1,Nat.le_refl _,.inr rfl,rfl,rfl,rfl⟩
 case round=>
  obtain⟨k,h1,hk,rfl,rfl,rfl⟩:=hrel;by_cases hlt:k+1≤n
  ·
   have f0:=fac_pos k;have f1:=fac_top (n:=k) (by omega);have g1:=fac_top (n:=k+1) (by omega);have g0:=fac_pos (k+1);have HN:Hid (fac (k+1)=fac k*((k:Int)+1)):=Lib.hid rfl;rw[HN.out] at g0 g1;generalize fac k=x at f0 f1 HN g0 g1;have i2:(k:Int)+1≤(n:Int):=by omega
   have i3:(n:Int)≤12:=by omega
   have i4:(0:Int)≤(k:Int):=Int.natCast_nonneg _;go_wp2;go_roundw;case rel=>exact⟨k+1,by omega,.inl hlt,by rw[HN.out],by go_num,trivial⟩
   case measure=>simp[intOf];omega
  ·
   have HE:Hid (fac k=fac n):=Lib.hid (by
    by_cases e:k=n
    · rw[e]
    ·
     have e1:k=1:=by omega
     have e0:n=0:=by omega
     rw[e1,e0];rfl)
   have i2:(n:Int)<(k:Int)+1:=by omega
   go_wp2;go_ret;exact⟨by rw[←HE.out];rfl,rfl⟩
def rcK (es:List Ev):Nat→Int
 | 0=>1
 |k+1=>rcK es k*fac ((plcW es k).length-1)
theorem rcK_three (es:List Ev):rcK es 3=rcntL es:=by
 unfold rcntL;show 1*_*_*_=_;rw[Int.one_mul]
theorem rcK_in {es:List Ev}(hx:es.length≤9):∀k:Nat,k≤3→0<rcK es k∧rcK es k≤40320 ^ k
 | 0,_=>⟨by simp[rcK],by simp[rcK]⟩
 |k+1,h=>by
  obtain⟨h1,h2⟩:=rcK_in hx k (by omega)
  have b:(plcW es k).length-1≤8:=by
   unfold plcW idxB;rw[if_pos (by omega)];have:=idxK_len (toE (k:Int)) es es.length;omega
  have top:∀j:Nat,j≤8→fac j≤40320:=by decide +kernel
  have f0:=fac_pos ((plcW es k).length-1);have t0:=top _ b;rw[rcK];refine⟨Int.mul_pos h1 f0,?_⟩;rw[Int.pow_succ];exact Int.mul_le_mul h2 t0 (by omega) (Int.le_trans (by omega) h2)
theorem plcW_len9 {es:List Ev}(hx:es.length≤9)(p:Nat):(plcW es p).length≤9:=by
 unfold plcW idxB;rw[if_pos (by omega)];have:=idxK_len (toE (p:Int)) es es.length;omega
theorem l9Count_any (w:World)(v:Value)(es:List Ev)(h:RdE w v es)(hx:es.length≤9)(hp:∀p,p<3→0<(plcW es p).length):
  Calls Tryz.prog 92 #[v] w fun e w'=>e = .returned (.int .i64 (rcntL es))∧Keep w w':=by
 rw[←rcK_three];go_enter Tryz.func92,Tryz.ntmps92
 go_wp2_with fail
 refine (l9Places_any _ _ _ h (by omega)).mono ?_;rintro e w1 ⟨v1,rfl,r1,k1⟩;obtain⟨a,c,rfl,r1⟩:=r1;rcases r1 with h0|⟨b,o,rfl,hb,hc⟩
 · exfalso;have:=plcK_len es 3;rw[h0] at this;simp at this
 rw[plcK_len] at hc ⊢;go_wp2;go_loopw [4,5] (fun x i wr=>∃k:Nat,k≤3∧x = .int .i64 (rcK es k)∧i = .int .i64 k∧wr=w1) (fun _ i _=>3-(intOf i).toNat)
 case atStart=>exact⟨0,Nat.zero_le _,rfl,rfl,rfl⟩
 case round=>
  obtain⟨k,hk,rfl,rfl,rfl⟩:=hrel;by_cases hlt:k<3
  ·
   obtain⟨vi,e1,r2⟩:=hc k hlt;rw[plcK_get es k hlt] at r2;have HN:Hid (rcK es (k+1)=rcK es k*fac ((plcW es k).length-1)):=Lib.hid rfl;obtain⟨t0,t1⟩:=rcK_in hx k (by omega);obtain⟨s0,s1⟩:=rcK_in hx (k+1) (by omega);rw[HN.out] at s0 s1;have p40:∀j:Nat,j≤3→(40320:Int) ^ j≤65548320768000:=by decide +kernel
   have q0:=p40 k (by omega);have q1:=p40 (k+1) (by omega);have hl:=plcW_len9 hx k;have hp0:=hp k hlt;clear hc hp;obtain⟨az,cz,rfl,-⟩:=r2;obtain⟨m,hm⟩:∃m,(plcW es k).length=m+1:=⟨(plcW es k).length-1,by omega⟩;rw[hm] at hl e1 HN s0 s1;rw[Nat.add_sub_cancel] at HN s0 s1;clear hm hp0;have C:=fun (W:World)=>l9Factorial_any W m (by omega)
   have fp:=fac_pos m;have ft:=fac_top (n:=m) (by omega);generalize fac m=F at C HN s0 s1 fp ft;generalize rcK es k=x at t0 t1 s0 s1 HN;have i1:(0:Int)≤(k:Int):=Int.natCast_nonneg _;have i2:(k:Int)<3:=by omega
   have i3:(m:Int)≤8:=by omega
   have x1:x≤65548320768000:=by omega
   have y1:x*F≤65548320768000:=by omega
   clear t1 s1 q0 q1;go_wp2_with fail
   refine (C _).mono ?_;rintro e w2 ⟨rfl,rfl⟩;go_wp2;go_roundw;case rel=>exact⟨k+1,by omega,by rw[HN.out],by go_num,trivial⟩
   case measure=>simp[intOf];omega
  ·
   obtain rfl:k=3:=by omega
   go_wp2;go_ret;exact⟨rfl,k1⟩
theorem l1Copy_rd (w:World)(v:Value)(zs:List Int)(h:Rd w v zs)(hn:zs.length≤1048576):
  Calls Tryz.prog 195 #[v] w fun e w'=>∃v',e = .returned v'∧Own w' w.heap.size v' zs∧Keep w w':=by
 have ho:Own (w.alloc (.cells #[] 2)) w.heap.size (.slice (some ⟨w.heap.size,0,none⟩) 0 0) []:=World.ownsRow_lit w #[] 0 (Nat.le_refl _) (by decide) rfl;have hK:Keep w (w.alloc (.cells #[] 2)):=(Keep.refl w).alloc _;obtain⟨i0,hi,hz0,hz1,hz2⟩:=info_parts Tryz.infoI;obtain⟨a,cap,rfl,h⟩:=h;rcases h with rfl|⟨g,off,rfl,hg,hc⟩
 ·
  cases a with
  |none=>
   go_enter Tryz.func195,Tryz.ntmps195
   go_wp2;go_ret;exact⟨_,rfl,ho,hK⟩
  |some x=>
   go_enter Tryz.func195,Tryz.ntmps195
   go_wp2_with (at_builtin;refine wpList_append_own _ rfl _ _ 50 rfl w.heap.size 2 i0 (.int .i64 0) 1 8 Tryz.underlying50 hi hz0 hz1 hz2 rfl (by decide) _ _ _ rfl ho x 0 cap [] rfl rfl ?c1 ?c2 ?c3 ?c4 ?c5 ?_)
   case c1=>intro j u hj;simp at hj
   case c2=>intro u hu;simp at hu
   case c3=>simp
   case c4=>simp
   case c5=>simp
   intro v' w1 hown' hgrow _;have k1:Keep w w1:=hK.grown hgrow ho.ge;have o1:Own w1 w.heap.size v' []:=by unfold Own;simpa using hown'
   clear hgrow hown';go_wp2;go_ret;exact⟨_,rfl,o1,k1⟩
 ·
  have C:=rd_cells (w:=w.alloc (.cells #[] 2)) (b:=g) (off:=off) (zs:=zs) (fun i hi=>(hK.cell hg).trans (hc i hi));go_enter Tryz.func195,Tryz.ntmps195
  go_wp2_with (at_builtin;refine wpList_append_own _ rfl _ _ 50 rfl w.heap.size 2 i0 (.int .i64 0) 1 8 Tryz.underlying50 hi hz0 hz1 hz2 rfl (by decide) _ _ _ rfl ho ⟨g,off,none⟩ zs.length cap (zs.map (Value.int .i64)) rfl (by simp) ?c1 ?c2 ?c3 ?c4 ?c5 ?_)
  case c1=>exact C
  case c2=>exact ints_one zs
  case c3=>simp;unfold maxLen;omega
  case c4=>simp;omega
  case c5=>simp
  intro v' w1 hown' hgrow _;have k1:Keep w w1:=hK.grown hgrow ho.ge;have o1:Own w1 w.heap.size v' zs:=by unfold Own;simpa using hown'
  clear hgrow hown';go_wp2;go_ret;exact⟨_,rfl,o1,k1⟩
def lenZ:Value→Nat
 | .slice _ n _=>n
 |_=>0
theorem Own.at {w:World}{base:Nat}{v:Value}{zs:List Int}(h:Own w base v zs)(h0:0<zs.length):∃g cap,v = .slice (some ⟨g,0,none⟩) zs.length cap∧zs.length≤cap∧base≤g∧g<w.heap.size:=by
 have hlt:=World.ownsRow.lt h;rcases h.2 with ⟨_,hz⟩|⟨g,cap,cur,rfl,hb,hg,hc,_⟩
 · omega
 · exact⟨g,cap,rfl,hc,hb,(hlt g rfl).2⟩
theorem Own.shp {w:World}{base:Nat}{v:Value}{zs:List Int}(h:Own w base v zs):∃a cap,v = .slice a zs.length cap:=by
 obtain⟨a,c,e,_⟩:=h.rd;exact⟨a,c,e⟩
theorem apart_le {u v:Value}{m:Nat}(h1:∀k,u.ownBlock=some k→k<m)(h2:∀k,v.ownBlock=some k→m≤k):u.ownBlock=none∨u.ownBlock≠v.ownBlock:=by
 cases hu:u.ownBlock with
 |none=>exact .inl rfl
 |some k=>exact .inr (fun e=>by have:=h1 k hu;have:=h2 k e.symm;omega)
theorem apart_ge {u v:Value}{m:Nat}(h1:∀k,u.ownBlock=some k→k<m)(h2:∀k,v.ownBlock=some k→m≤k):v.ownBlock=none∨v.ownBlock≠u.ownBlock:=by
 cases hv:v.ownBlock with
 |none=>exact .inl rfl
 |some k=>exact .inr (fun e=>by have:=h1 k e.symm;have:=h2 k hv;omega)
theorem erase_split (l:List Int)(q:Nat):l.eraseIdx q=l.take q++l.drop (q+1):=List.eraseIdx_eq_take_drop_succ l q
theorem l9Order_any (w:World)(v:Value)(l:List Int)(n:Int)(h:Rd w v l)(hl:l.length≤12)(h0:0≤n)(h1:n<fac l.length):
  Calls Tryz.prog 175 #[v,.int .i64 n] w fun e w'=>∃g c,e = .returned (.slice (some ⟨g,0,none⟩) l.length c)∧Own w' w.heap.size (.slice (some ⟨g,0,none⟩) l.length c) (ordL l.length l n)∧Keep w w':=by
 obtain⟨i0,hi,hz0,hz1,hz2⟩:=info_parts Tryz.infoI;go_enter Tryz.func175,Tryz.ntmps175
 go_wp2_with fail
 refine (l1Copy_rd _ _ _ h (by omega)).mono ?_;rintro e w1 ⟨vl,rfl,ol,k1⟩;have s1:=k1.size;have O0:Own (w1.alloc (.cells #[] 2)) w.heap.size (.slice (some ⟨w1.heap.size,0,none⟩) 0 0) []:=World.ownsRow_lit w1 #[] 0 s1 (by decide) rfl;have ol1:=ol.keep ((Keep.refl w1).alloc (.cells #[] 2))
 have ne1:vl.ownBlock=none∨vl.ownBlock≠some w1.heap.size:=by
  cases hv:vl.ownBlock with
  |none=>exact .inl rfl
  |some k=>exact .inr (fun e=>by have:=(World.ownsRow.lt ol k hv).2;have:=Option.some.inj e;omega)
 clear h;go_wp2;go_loopw [1,5,6] (fun x xl xo wr=>∃(l' o':List Int) (x':Int),x = .int .i64 x'∧0≤x'∧x'<fac l'.length∧l'.length+o'.length=l.length∧Hid (o'++ordL l'.length l' x'=ordL l.length l n)∧Own wr w.heap.size xl l'∧Own wr w.heap.size xo o'∧(xl.ownBlock=none∨xl.ownBlock≠xo.ownBlock)∧(∃d,xo.ownBlock=some d)∧Keep w wr) (fun _ xl _ _=>lenZ xl)
 case atStart=>exact⟨l,[],n,rfl,h0,h1,by simp,Lib.hid rfl,ol1,O0,ne1,⟨_,rfl⟩,k1.alloc _⟩
 case round=>
  clear ol ol1 O0 ne1;obtain⟨l',o',x',rfl,x0,x1,hlen,HO,hL,hO,hne,⟨bo,hbo⟩,hK⟩:=hrel
  cases hm:l'.length with
  |zero=>
   have e0:l'=[]:=List.eq_nil_of_length_eq_zero hm;subst e0;have HE:Hid (o'=ordL l.length l n):=Lib.hid (by have:=HO.out;simpa [ordL] using this);obtain⟨al,cl,rfl⟩:=hL.shp;have hol:o'.length=l.length:=by simpa using hlen
   obtain⟨go,co,hvo⟩:∃g c,u6 = .slice (some ⟨g,0,none⟩) l.length c:=by
    rcases hO.2 with ⟨e,_⟩|⟨g,cap,cur,e,_⟩
    · rw[e] at hbo;cases hbo
    · exact⟨g,cap,by rw[e,hol]⟩
   subst hvo;clear hol;go_wp2;go_ret;exact⟨go,co,rfl,by rw[←HE.out];exact hO,hK⟩
  |succ m=>
   have HBO:=Lib.hid hbo;clear hbo;obtain⟨g,cap,rfl,hcap,hgb,hgl⟩:=hL.at (by omega);rw[hm] at x1 hlen HO hcap;obtain⟨q0,q1,y0,y1⟩:=ord_next x0 x1;obtain⟨q,hq⟩:=Int.eq_ofNat_of_zero_le q0;have hql:q<m+1:=by omega
   have HO2:Hid ((o'++[l'.getD q 0])++ordL m (l'.eraseIdx q) (x' % fac m)=ordL l.length l n):=Lib.hid (by
    have:=HO.out;rw[ordL,hq,Int.toNat_natCast] at this;rw[←this,List.append_assoc]
    rfl)
   have hR:=hL.rowAt;have c1:=hR.cell (j:=q) (by omega);have hel:=erase_len hm hql;have fp:=fac_pos m;have ft:=fac_top (n:=m) (by omega);have e1:x'.tdiv (fac m)=(q:Int):=by rw[Int.tdiv_eq_ediv_of_nonneg x0];exact hq
   have e2:x'.tmod (fac m)=x' % fac m:=Int.tmod_eq_emod_of_nonneg x0;have HEQ:Hid (l'.eraseIdx q=l'.take q++l'.drop (q+1)):=Lib.hid (erase_split l' q);have HQ:=Lib.hid hq;have HM:=Lib.hid hm;have HY:Hid (0≤x' % fac m∧x' % fac m<fac m):=Lib.hid ⟨y0,y1⟩;have hcq:q<cap:=by omega
   generalize l'.getD q 0=z at c1 HO2;have C:=fun (W:World)=>l9Factorial_any W m (by omega)
   have HF:Hid (∀y,0≤y∧y<fac m→0≤y∧y<fac (l'.eraseIdx q).length):=Lib.hid (fun y hy=>by rw[hel];exact hy);obtain⟨F,hF⟩:∃F,F=fac m:=⟨_,rfl⟩;have HFF:Hid (fac m=F):=Lib.hid hF.symm;rw[←hF] at C fp ft e1 e2 HY HO2;clear hF;obtain⟨r,hr⟩:∃r,r=x' % F:=⟨_,rfl⟩;rw[←hr] at e2 HY HO2;clear hq q0 q1 y0 y1 hr hR HO x1 HF;have i1:(0:Int)≤(q:Int):=Int.natCast_nonneg _;have i2:(q:Int)<(m:Int)+1:=by omega
   have i3:(m:Int)≤11:=by omega
   rw[hm];clear hm;go_wp2_with fail
   refine (C _).mono ?_;rintro e w2 ⟨rfl,rfl⟩;have hOs:=hK.size;go_wp2_with (at_builtin;refine wpList_append_own_at _ rfl _ _ 50 rfl w.heap.size 2 i0 (.int .i64 0) 1 8 Tryz.underlying50 hi hz0 hz1 hz2 rfl (by decide) _ _ _ rfl (World.ownsRow.alloc hO _) ⟨_,0,none⟩ 1 1 [.int .i64 z] rfl rfl ?c1 ?c2 ?c3 ?c4 ?c5 ?_)
   case c1=>
    intro j u hj
    match j,hj with
    | 0,hj=>simp at hj;subst hj;simp[Addr.add]
   case c2=>intro u hu;simp at hu;subst hu;rfl
   case c3=>unfold maxLen;omega
   case c4=>omega
   case c5=>rw[heap_size];omega
   intro vo w3 hown' hgrow _ hblk;have O3:Own w3 w.heap.size vo (o'++[z]):=own_hit hown';have L3:=(hL.keep ((Keep.refl w2).alloc (.cells #[.int .i64 z] 2))).kept hgrow hne;have K3:Keep w w3:=(hK.alloc _).grown hgrow hO.ge;have hg3:g<w3.heap.size:=Nat.lt_of_lt_of_le (by rw[heap_size];omega) hgrow.size;have ov:∀k,vo.ownBlock=some k→k<w3.heap.size:=fun k hk=>(World.ownsRow.lt O3 k hk).2
   have vob:∃d,vo.ownBlock=some d:=by
    rcases hblk with e|e
    · exact⟨bo,by rw[e];exact HBO.out⟩
    · exact⟨_,e⟩
   clear hown' hgrow hblk hL hO hne hK hgl c1 C;have R3:=L3.rowAt
   have RC:Rd w3.drew (.slice (some ⟨g,0,none⟩) q cap) (l'.take q):=by
    have hlt:(l'.take q).length=q:=by rw[List.length_take,HM.out];omega
    refine⟨_,cap,by rw[hlt],.inr ⟨g,0,rfl,hg3,fun j hj=>?_⟩⟩;rw[hlt] at hj;have:=R3.cell (j:=j) (by rw[HM.out];omega);rw[Nat.zero_add,List.getD_eq_getElem?_getD,List.getElem?_take,if_pos hj,←List.getD_eq_getElem?_getD];exact this
   have CT:∀W:World,Keep w3.drew W→∀j u,((l'.drop (q+1)).map (Value.int .i64))[j]? = some u→W.cell? ((⟨g,q+1,none⟩:Addr).add j)=some u:=fun W kW=>rd_cells (fun j hj=>by
    rw[List.length_drop,HM.out] at hj;have:=R3.cell (j:=q+1+j) (by rw[HM.out];omega);rw[kW.cell (b:=g) hg3,List.getD_eq_getElem?_getD,List.getElem?_drop,←List.getD_eq_getElem?_getD]
    exact this)
   have DL:(l'.drop (q+1)).length=m-q:=by rw[List.length_drop,HM.out];omega
   have lt12:(l'.take q).length≤1048576:=by rw[List.length_take];omega
   have ltq:(l'.take q).length=q:=by rw[List.length_take,HM.out];omega
   clear R3 L3;have j1:(q:Int)≤(cap:Int):=by omega
   have j2:(q:Int)≤(m:Int):=by omega
   have j4:(q:Int)≤(q:Int)+1:=by omega
   have j5:IntKind.i64.wrap ((q:Int)+1)=(q:Int)+1:=by rw[IntKind.wrap_i64];omega
   have j6:(m:Int)+1≤(m:Int)+1:=Int.le_refl _;have j7:0≤(q:Int)+1:=by omega
   have j3:(m:Int)+1≤(cap:Int):=by omega
   by_cases hc:cap=q+1
   ·
    subst hc;go_wp2
    go_region_law ((first
     | (refine step_append_at rfl (.tmp 35) (.tmp 39) 50 rfl w3.heap.size 2 i0 (.int .i64 0) 1 8 Tryz.underlying50 hi hz0 hz1 hz2 rfl (by decide) vc (l'.take q).length ((l'.take q).map (Value.int .i64)) rfl OC ⟨g,0,none⟩ 0 0 [] rfl rfl (fun j u hj=>by simp at hj) (fun u hu=>by simp at hu) (by unfold maxLen;omega) (by omega) (by have:=kc.size;exact this) ?_;intro v' w5 hown' hgrow hblk)
     | (go_simp;refine (l1Copy_rd _ _ _ RC lt12).mono ?_;rintro e w4 ⟨vc,rfl,OC,kc⟩)))
    all_goals
     have O5:Own w5 w3.heap.size v' (l'.eraseIdx q):=by
      rw[HEQ.out];unfold Own;have dn:l'.drop (q+1)=[]:=List.eq_nil_of_length_eq_zero (by rw[DL];omega);rw[dn,List.append_nil]
      simpa using hown'
     have kc3:Keep w3 w4:=(Keep.refl w3).drew.trans kc;have O4:=(O3.keep kc3).kept hgrow (apart_le (fun k hk=>ov k hk) (fun k hk=>OC.ge k hk));have K5:Keep w w5:=(K3.trans kc3).grown hgrow (fun k hk=>Nat.le_trans K3.size (OC.ge k hk));have ne5:v'.ownBlock=none∨v'.ownBlock≠vo.ownBlock:=apart_ge (fun k hk=>ov k hk) (fun k hk=>O5.ge k hk);have w35:=K3.size;obtain⟨a5,c5,hv5⟩:=O5.shp;rw[hel] at hv5;subst hv5;clear hown' hgrow hblk;go_wp2_with fail
     refine And.intro ⟨_,_,_,_,_,_,_,_,_,_,_,_,_,_,_,_,_,_,_,_,_,_,_,_,_,_,_,_,_,_,_,_,_,_,?rel,rfl⟩ ?measure;case rel=>exact⟨l'.eraseIdx q,o'++[z],r,rfl,HY.out.1,by rw[hel,HFF.out];exact HY.out.2,by rw[hel,List.length_append];simp;omega,by rw[hel];exact HO2,O5.base_le w35,O4,ne5,vob,K5⟩
     case measure=>exact Nat.lt_succ_self m
   ·
    go_wp2
    go_region_law ((first
     | (refine step_append_at rfl (.tmp 35) (.tmp 39) 50 rfl w3.heap.size 2 i0 (.int .i64 0) 1 8 Tryz.underlying50 hi hz0 hz1 hz2 rfl (by decide) vc (l'.take q).length ((l'.take q).map (Value.int .i64)) rfl OC ⟨g,q+1,none⟩ (m-q) (cap-(q+1)) ((l'.drop (q+1)).map (Value.int .i64)) rfl (by rw[List.length_map,DL,Nat.mul_one]) (CT _ kc) (ints_one _) (by unfold maxLen;omega) (by omega) (by have:=kc.size;exact this) ?_;intro v' w5 hown' hgrow hblk)
     | (go_simp;refine (l1Copy_rd _ _ _ RC lt12).mono ?_;rintro e w4 ⟨vc,rfl,OC,kc⟩)))
    all_goals
     have O5:Own w5 w3.heap.size v' (l'.eraseIdx q):=by
      rw[HEQ.out];unfold Own;rw[List.length_append,List.map_append,DL];exact hown'
     have kc3:Keep w3 w4:=(Keep.refl w3).drew.trans kc;have O4:=(O3.keep kc3).kept hgrow (apart_le (fun k hk=>ov k hk) (fun k hk=>OC.ge k hk));have K5:Keep w w5:=(K3.trans kc3).grown hgrow (fun k hk=>Nat.le_trans K3.size (OC.ge k hk));have ne5:v'.ownBlock=none∨v'.ownBlock≠vo.ownBlock:=apart_ge (fun k hk=>ov k hk) (fun k hk=>O5.ge k hk);have w35:=K3.size;obtain⟨a5,c5,hv5⟩:=O5.shp;rw[hel] at hv5;subst hv5;clear hown' hgrow hblk;go_wp2_with fail
     refine And.intro ⟨_,_,_,_,_,_,_,_,_,_,_,_,_,_,_,_,_,_,_,_,_,_,_,_,_,_,_,_,_,_,_,_,_,_,?rel,rfl⟩ ?measure;case rel=>exact⟨l'.eraseIdx q,o'++[z],r,rfl,HY.out.1,by rw[hel,HFF.out];exact HY.out.2,by rw[hel,List.length_append];simp;omega,by rw[hel];exact HO2,O5.base_le w35,O4,ne5,vob,K5⟩
     case measure=>exact Nat.lt_succ_self m
end Go.Proofs.YtkmjmnljkidobaaGreat
