/- Gathered texts. -/
import Derived.Test.YtnmelakgmgenjaaGreatMW
set_option maxRecDepth 100000
set_option maxHeartbeats 8000000
namespace Go.Proofs.YtnmelakgmgenjaaGreat
open Go.ChangeShapes Go.WideShapes Go.ChangeAt Go.RowKit
theorem PJ {AA:List (List Dd)}{b:Bd}(hB:Ac AA b=true):JR AA b=Bi AA (AB AA) false b:=by
 unfold JR Bi C6;rw[if_pos hB];have e:(Ah AA b).filter (fun s=>!(false&&decide (10<=s)))=Ah AA b:=List.filter_eq_self.2 (fun s _=>rfl);rw[e];refine List.map_congr_left (fun s hs=>?_);unfold B6 LB;rw[if_pos hB,if_pos (Gi hs)];simp
theorem Wp {AA:List (List Dd)}{b:Bd}(hl3:AA.length<=3):Jz AA b AA.length=Bi AA (AB AA) true b:=by
 unfold Jz Bi Ah;rw[List.filter_append]
 have e1:((((List.range AA.length).filter (BU AA b)).map (fun c:Nat=>(c:Int))).filter (fun s=>!(true&&decide (10<=s))))=((List.range AA.length).filter (BU AA b)).map (fun c:Nat=>(c:Int)):=List.filter_eq_self.2 (fun s hs=>by
  obtain⟨c,hc,rfl⟩:=List.mem_map.1 hs;have:=List.mem_range.1 (List.mem_filter.1 hc).1
  simp;omega)
 have e2:((((List.range AA.length).filter (fun c=>!(b.AG.getD c []).isEmpty)).map (fun c:Nat=>10+(c:Int))).filter (fun s=>!(true&&decide (10<=s))))=[]:=List.filter_eq_nil_iff.2 (fun s hs=>by
  obtain⟨c,hc,rfl⟩:=List.mem_map.1 hs
  simp;omega)
 rw[e1,e2,List.append_nil,List.map_map];refine List.map_congr_left (fun c _=>?_);simp
theorem YP {AA:List (List Dd)}(hb:AO AA=true){quick:Bool}{b:Bd}(h:Bn AA quick b):tV b:=by
 obtain⟨a,τ,T,z,M,-⟩:=Az hb h;exact qR (bC M)
theorem Zt {AA:List (List Dd)}(hb:AO AA=true){quick:Bool}(L:List (List Int))(hn:L.Nodup)(h:∀x∈L,∃b,Bn AA quick b/\DN AA b=true/\x=As b):L.length<=78125:=by
 refine Q7 78125 (fun x c=>∃a b,EC AA a b/\As b=x/\PS AA a=c) _ hn (fun x hx=>?_) ?_
 ·
  obtain⟨b,hr,he,e⟩:=h x hx;obtain⟨a,τ,T,z,M,-⟩:=Az hb hr;have C:=mW hb M he;exact⟨_,SF C,a,b,C,e.symm,rfl⟩
 ·
  rintro x x' c ⟨a,b,C,rfl,ec⟩ ⟨a',b',C',rfl,ec'⟩;have e:=ec.trans ec'.symm;unfold PS at e;have e2:=GJ _ _ (by simp) (Dm C) (Dm C') e;obtain⟨e3,e4⟩:=List.append_inj e2 (by simp)
  have f1:b.sn=b'.sn:=by
   rw[C.sn,C'.sn];refine List.map_congr_left (fun r hr=>?_);have:=(List.map_inj_left.1 e3) r hr;rw[Ms _ (C.f r hr).2 (C'.f r hr).2 this]
  have f2:b.AM=b'.AM:=by
   rw[C.AM,C'.AM];refine List.map_congr_left (fun p hp=>?_);have:=(List.map_inj_left.1 e4) p hp;rw[Ms _ (C.l p (List.mem_range.1 hp)).2 (C'.l p (List.mem_range.1 hp)).2 this]
  unfold As;rw[f1,f2]
theorem FU {AA:List (List Dd)}(hb:AO AA=true){quick:Bool}{b:Bd}(h:Bn AA quick b):Ac AA b=true:=by
 obtain⟨a,_,_,_,M,_⟩:=Az hb h;exact H0 hb M
theorem fQ {AA:List (List Dd)}(hb:AO AA=true)(quick:Bool):yM AA (ny AA quick) where
 sz h:=(Dc.of (FU hb h)).sz (by omega)
 en h:=by
  show JX AA _=DN AA _;unfold JX;rw[FU hb h,Bool.true_and,SP (FU hb h)]
 sh h _:=by unfold Lq;rw[if_pos (FU hb h)];rfl
 sl {b} h _:=by
  obtain⟨_,h1,_,_,_,_,h6,_⟩:=IZ (FU hb h);unfold As;rw[List.length_append];omega
 nl {b} h:=by
  have:=Ij hb (es:=AB AA) (quick:=quick) (b:=b);exact Nat.le_trans this (by omega)
 fe L hn h:=Zt hb L hn h
theorem fP:yM [] nu where
 sz h:=by rw[show _=_ from h];exact⟨by simp,fun i hi=>by simp at hi,by simp,by simp,by simp,fun i hi=>by simp at hi,by simp,by simp,by simp,by simp,fun i hi=>by simp at hi⟩
 en h:=by rw[show _=_ from h];rfl
 sh _ he:=by cases he
 sl _ he:=by cases he
 nl _:=Nat.zero_le _
 fe L _ h:=by
  cases L with
  |nil=>exact Nat.zero_le _
  |cons x L=>obtain⟨b,_,he,_⟩:=h x (by simp);cases he
theorem ZF {AA:List (List Dd)}(hb:AO AA=true):Ty 31 AA (ny AA false):=fun w v b hR h=>by
 have hB:=FU hb hR
 have hp:(C6 AA b).length<=1000:=by
  have:=Ij hb (es:=AB AA) (quick:=false) (b:=b);rw[<-PJ hB] at this;unfold JR at this;rw[List.length_map] at this;omega
 have q:=Hj w v AA b h ((fQ hb false).sz hR) hp (fun _ _=>hB);rw[PJ hB] at q;exact q
theorem Wr {AA:List (List Dd)}(hb:AO AA=true):Ty 32 AA (ny AA true):=fun w v b hR h=>by
 have hB:=FU hb hR;have h3:=Cz hb;have q:=Hi w v AA b h ((fQ hb true).sz hR) (by omega) (fun _=>hB) (YP hb hR);rw[Wp h3] at q;exact q
theorem dI:C6 [] ⟨[],[],[],[],[],[],[]⟩=[]:=rfl
theorem Ws:Ty 31 [] nu:=fun w v b hR h=>by
 have e:b=⟨[],[],[],[],[],[],[]⟩:=hR;subst e;exact Hj w v [] _ h (fP.sz rfl) (by rw[dI];simp) (fun s hs=>by rw[dI] at hs;cases hs)
theorem UH:Ty 32 [] nu:=fun w v b hR h=>by
 have e:b=⟨[],[],[],[],[],[],[]⟩:=hR;subst e;exact Hi w v [] _ h (fP.sz rfl) (by simp) (fun h=>by simp at h) ⟨fun c=>by simp,fun c=>by simp⟩
theorem Wg.right {AA:List (List Dd)}{quick:Bool}{l:List (List Int)}(hb:AO AA=true)(h:Wg (ny AA quick) l):Dj AA quick l:=⟨fun _=>⟨h.ord,h.all⟩,fun e=>(by rw[hb] at e;cases e)⟩
theorem Wg.wrong {AA:List (List Dd)}{quick:Bool}{l:List (List Int)}(hb:AO AA=false)(h:Wg nu l):Dj AA quick l:=⟨fun e=>(by rw[hb] at e;cases e),fun _=>(by
 cases l with
 |nil=>rfl
 |cons x l=>obtain⟨b,_,he,_⟩:=(h.all x).1 (by simp);cases he)⟩
theorem PV {quick:Bool}{g:Nat}(hg:g=31\/g=32)(hr:∀AA,AO AA=true->Ty g AA (ny AA quick))(h0:Ty g [] nu)(w:World)(v:Value)(AA:List (List Dd))(h:Fz w v AA)(hx:AA.length<=1048576)(hm:∀i,i<AA.length->(AA.getD i []).length<=1048576):
  Calls Tryz.prog 30 #[v,.func (Fn.func g) #[] #[]] w fun e w'=>∃v' l,e = .returned v'/\Fw w' w.heap.size w'.heap.size v' l/\Dj AA quick l/\AC w w':=by
 cases hb:AO AA with
 |true=>
  have e1:Ma AA=AA:=by unfold Ma;rw[if_pos hb]
  have e2:PB AA=CM AA:=by unfold PB;rw[if_pos hb]
  refine (NM w v AA h hx hm (S:=ny AA quick) (rC hb quick) (by rw[e1];exact rD hb quick) (by rw[e1];exact fQ hb quick) (by rw[e2];rfl) g hg (by rw[e1];exact hr AA hb)).mono ?_;rintro e w' ⟨v',hs,l,rfl,hO,hE,k⟩;exact⟨v',l,rfl,hO.free,hE.right hb,k⟩
 |false=>
  have e1:Ma AA=[]:=by unfold Ma;rw[if_neg (by rw[hb];simp)]
  have e2:PB AA=Mt:=by unfold PB;rw[if_neg (by rw[hb];simp)]
  refine (NM w v AA h hx hm (S:=nu) qz (by rw[e1];exact rA) (by rw[e1];exact fP) (by rw[e2];rfl) g hg (by rw[e1];exact h0)).mono ?_;rintro e w' ⟨v',hs,l,rfl,hO,hE,k⟩;exact⟨v',l,rfl,hO.free,hE.wrong hb,k⟩
theorem Qk (w:World)(v:Value)(AA:List (List Dd))(h:Fz w v AA)(hx:AA.length<=1048576)(hm:∀i,i<AA.length->(AA.getD i []).length<=1048576):
  Calls Tryz.prog 8 #[v] w fun e w'=>∃v' l,e = .returned v'/\Fw w' w.heap.size w'.heap.size v' l/\Dj AA false l/\AC w w':=by
 have C:=PV (.inl rfl) (fun _ hb=>ZF hb) Ws w v AA h hx hm;obtain⟨a,c,rfl,-⟩:=h;clear hm;go_enter Tryz.func8,Tryz.ntmps8
 go_wp2_with fail
 refine C.mono ?_;rintro e w1 ⟨v1,l,rfl,hF,hE,k⟩;have XF:=Lib.hid (And.intro hF (And.intro hE k));clear C hF hE k;go_wp2;go_ret;exact⟨_,l,rfl,XF.out⟩
theorem KU (w:World)(v:Value)(AA:List (List Dd))(h:Fz w v AA)(hx:AA.length<=1048576)(hm:∀i,i<AA.length->(AA.getD i []).length<=1048576):
  Calls Tryz.prog 9 #[v] w fun e w'=>∃v' l,e = .returned v'/\Fw w' w.heap.size w'.heap.size v' l/\Dj AA true l/\AC w w':=by
 have C:=PV (.inr rfl) (fun _ hb=>Wr hb) UH w v AA h hx hm;obtain⟨a,c,rfl,-⟩:=h;clear hm;go_enter Tryz.func9,Tryz.ntmps9
 go_wp2_with fail
 refine C.mono ?_;rintro e w1 ⟨v1,l,rfl,hF,hE,k⟩;have XF:=Lib.hid (And.intro hF (And.intro hE k));clear C hF hE k;go_wp2;go_ret;exact⟨_,l,rfl,XF.out⟩
end Go.Proofs.YtnmelakgmgenjaaGreat
