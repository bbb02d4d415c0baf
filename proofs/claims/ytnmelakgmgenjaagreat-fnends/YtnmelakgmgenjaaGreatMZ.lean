/- Gathered texts. -/
import Derived.Test.YtnmelakgmgenjaaGreatMY
set_option maxRecDepth 100000
set_option maxHeartbeats 8000000
namespace Go.Proofs.YtnmelakgmgenjaaGreat
open Go.ChangeShapes Go.WideShapes Go.ChangeAt Go.RowKit
theorem Oc {AA:List (List Dd)}{b:Bd}(hB:AW AA b=true):JQ AA b=BK AA (AB AA) false b:=by
 unfold JQ BK B8;rw[if_pos hB];have e:(Ad AA b).filter (fun s=>!(false&&decide (10<=s)))=Ad AA b:=List.filter_eq_self.2 (fun s _=>rfl);rw[e];refine List.map_congr_left (fun s hs=>?_);unfold B7 Dw;rw[if_pos hB,if_pos (Ij hs)];simp
theorem Vi {AA:List (List Dd)}{b:Bd}(hl3:AA.length<=3):Jr AA b AA.length=BK AA (AB AA) true b:=by
 unfold Jr BK Ad;rw[List.filter_append]
 have e1:((((List.range AA.length).filter (Bh AA b)).map (fun c:Nat=>(c:Int))).filter (fun s=>!(true&&decide (10<=s))))=((List.range AA.length).filter (Bh AA b)).map (fun c:Nat=>(c:Int)):=List.filter_eq_self.2 (fun s hs=>by
  obtain⟨c,hc,rfl⟩:=List.mem_map.1 hs;have:=List.mem_range.1 (List.mem_filter.1 hc).1
  simp;omega)
 have e2:((((List.range AA.length).filter (fun c=>!(b.AG.getD c []).isEmpty)).map (fun c:Nat=>10+(c:Int))).filter (fun s=>!(true&&decide (10<=s))))=[]:=List.filter_eq_nil_iff.2 (fun s hs=>by
  obtain⟨c,hc,rfl⟩:=List.mem_map.1 hs
  simp;omega)
 rw[e1,e2,List.append_nil,List.map_map];refine List.map_congr_left (fun c _=>?_);simp
theorem Ws {AA:List (List Dd)}(hb:AQ AA=true){quick:Bool}{b:Bd}(h:A6 AA quick b):p8 b:=by
 obtain⟨a,τ,T,z,M,-⟩:=A8 hb h;exact mM (mQ M)
theorem Ys {AA:List (List Dd)}(hb:AQ AA=true){quick:Bool}(L:List (List Int))(hn:L.Nodup)(h:∀x∈L,∃b,A6 AA quick b/\Co AA b=true/\x=An b):L.length<=78125:=by
 refine Qe 78125 (fun x c=>∃a b,EC AA a b/\An b=x/\Ok AA a=c) _ hn (fun x hx=>?_) ?_
 ·
  obtain⟨b,hr,he,e⟩:=h x hx;obtain⟨a,τ,T,z,M,-⟩:=A8 hb hr;have C:=jP hb M he;exact⟨_,Ri C,a,b,C,e.symm,rfl⟩
 ·
  rintro x x' c ⟨a,b,C,rfl,ec⟩ ⟨a',b',C',rfl,ec'⟩;have e:=ec.trans ec'.symm;unfold Ok at e;have e2:=GW _ _ (by simp) (Dk C) (Dk C') e;obtain⟨e3,e4⟩:=List.append_inj e2 (by simp)
  have f1:b.sn=b'.sn:=by
   rw[C.sn,C'.sn];refine List.map_congr_left (fun r hr=>?_);have:=(List.map_inj_left.1 e3) r hr;rw[MU _ (C.f r hr).2 (C'.f r hr).2 this]
  have f2:b.AM=b'.AM:=by
   rw[C.AM,C'.AM];refine List.map_congr_left (fun p hp=>?_);have:=(List.map_inj_left.1 e4) p hp;rw[MU _ (C.l p (List.mem_range.1 hp)).2 (C'.l p (List.mem_range.1 hp)).2 this]
  unfold An;rw[f1,f2]
theorem Fh {AA:List (List Dd)}(hb:AQ AA=true){quick:Bool}{b:Bd}(h:A6 AA quick b):AW AA b=true:=by
 obtain⟨a,_,_,_,M,_⟩:=A8 hb h;exact IK hb M
theorem aC {AA:List (List Dd)}(hb:AQ AA=true)(quick:Bool):vC AA (jf AA quick) where
 sz h:=(Di.of (Fh hb h)).sz (by omega)
 en h:=by
  show JW AA _=Co AA _;unfold JW;rw[Fh hb h,Bool.true_and,Rm (Fh hb h)]
 sh h _:=by unfold Em;rw[if_pos (Fh hb h)];rfl
 sl {b} h _:=by
  obtain⟨_,h1,_,_,_,_,h6,_⟩:=ED (Fh hb h);unfold An;rw[List.length_append];omega
 nl {b} h:=by
  have:=Il hb (es:=AB AA) (quick:=quick) (b:=b);exact Nat.le_trans this (by omega)
 fe L hn h:=Ys hb L hn h
theorem aB:vC [] je where
 sz h:=by rw[show _=_ from h];exact⟨by simp,fun i hi=>by simp at hi,by simp,by simp,by simp,fun i hi=>by simp at hi,by simp,by simp,by simp,by simp,fun i hi=>by simp at hi⟩
 en h:=by rw[show _=_ from h];rfl
 sh _ he:=by cases he
 sl _ he:=by cases he
 nl _:=Nat.zero_le _
 fe L _ h:=by
  cases L with
  |nil=>exact Nat.zero_le _
  |cons x L=>obtain⟨b,_,he,_⟩:=h x (by simp);cases he
theorem YH {AA:List (List Dd)}(hb:AQ AA=true):S9 31 AA (jf AA false):=fun w v b hR h=>by
 have hB:=Fh hb hR
 have hp:(B8 AA b).length<=1000:=by
  have:=Il hb (es:=AB AA) (quick:=false) (b:=b);rw[<-Oc hB] at this;unfold JQ at this;rw[List.length_map] at this;omega
 have q:=Hl w v AA b h ((aC hb false).sz hR) hp (fun _ _=>hB);rw[Oc hB] at q;exact q
theorem Vk {AA:List (List Dd)}(hb:AQ AA=true):S9 32 AA (jf AA true):=fun w v b hR h=>by
 have hB:=Fh hb hR;have h3:=Ci hb;have q:=Hk w v AA b h ((aC hb true).sz hR) (by omega) (fun _=>hB) (Ws hb hR);rw[Vi h3] at q;exact q
theorem Zl:B8 [] ⟨[],[],[],[],[],[],[]⟩=[]:=rfl
theorem Vl:S9 31 [] je:=fun w v b hR h=>by
 have e:b=⟨[],[],[],[],[],[],[]⟩:=hR;subst e;exact Hl w v [] _ h (aB.sz rfl) (by rw[Zl];simp) (fun s hs=>by rw[Zl] at hs;cases hs)
theorem TE:S9 32 [] je:=fun w v b hR h=>by
 have e:b=⟨[],[],[],[],[],[],[]⟩:=hR;subst e;exact Hk w v [] _ h (aB.sz rfl) (by simp) (fun h=>by simp at h) ⟨fun c=>by simp,fun c=>by simp⟩
theorem Vd.right {AA:List (List Dd)}{quick:Bool}{l:List (List Int)}(hb:AQ AA=true)(h:Vd (jf AA quick) l):Df AA quick l:=⟨fun _=>⟨h.ord,h.all⟩,fun e=>(by rw[hb] at e;cases e)⟩
theorem Vd.wrong {AA:List (List Dd)}{quick:Bool}{l:List (List Int)}(hb:AQ AA=false)(h:Vd je l):Df AA quick l:=⟨fun e=>(by rw[hb] at e;cases e),fun _=>(by
 cases l with
 |nil=>rfl
 |cons x l=>obtain⟨b,_,he,_⟩:=(h.all x).1 (by simp);cases he)⟩
theorem On {quick:Bool}{g:Nat}(hg:g=31\/g=32)(hr:∀AA,AQ AA=true->S9 g AA (jf AA quick))(h0:S9 g [] je)(w:World)(v:Value)(AA:List (List Dd))(h:JJ w v AA)(hx:AA.length<=1048576)(hm:∀i,i<AA.length->(AA.getD i []).length<=1048576):
  Calls Tryz.prog 30 #[v,.func (Fn.func g) #[] #[]] w fun e w'=>∃v' l,e = .returned v'/\US w' w.heap.size w'.heap.size v' l/\Df AA quick l/\AC w w':=by
 cases hb:AQ AA with
 |true=>
  have e1:MG AA=AA:=by unfold MG;rw[if_pos hb]
  have e2:OG AA=Cd AA:=by unfold OG;rw[if_pos hb]
  refine (Mo w v AA h hx hm (S:=jf AA quick) (nU hb quick) (by rw[e1];exact nV hb quick) (by rw[e1];exact aC hb quick) (by rw[e2];rfl) g hg (by rw[e1];exact hr AA hb)).mono ?_;rintro e w' ⟨v',hs,l,rfl,hO,hE,k⟩;exact⟨v',l,rfl,hO.free,hE.right hb,k⟩
 |false=>
  have e1:MG AA=[]:=by unfold MG;rw[if_neg (by rw[hb];simp)]
  have e2:OG AA=MV:=by unfold OG;rw[if_neg (by rw[hb];simp)]
  refine (Mo w v AA h hx hm (S:=je) nQ (by rw[e1];exact nT) (by rw[e1];exact aB) (by rw[e2];rfl) g hg (by rw[e1];exact h0)).mono ?_;rintro e w' ⟨v',hs,l,rfl,hO,hE,k⟩;exact⟨v',l,rfl,hO.free,hE.wrong hb,k⟩
theorem P9 (w:World)(v:Value)(AA:List (List Dd))(h:JJ w v AA)(hx:AA.length<=1048576)(hm:∀i,i<AA.length->(AA.getD i []).length<=1048576):
  Calls Tryz.prog 8 #[v] w fun e w'=>∃v' l,e = .returned v'/\US w' w.heap.size w'.heap.size v' l/\Df AA false l/\AC w w':=by
 have C:=On (.inl rfl) (fun _ hb=>YH hb) Vl w v AA h hx hm;obtain⟨a,c,rfl,-⟩:=h;clear hm;go_enter Tryz.func8,Tryz.ntmps8
 go_wp2_with fail
 refine C.mono ?_;rintro e w1 ⟨v1,l,rfl,hF,hE,k⟩;have XF:=Lib.hid (And.intro hF (And.intro hE k));clear C hF hE k;go_wp2;go_ret;exact⟨_,l,rfl,XF.out⟩
theorem KL (w:World)(v:Value)(AA:List (List Dd))(h:JJ w v AA)(hx:AA.length<=1048576)(hm:∀i,i<AA.length->(AA.getD i []).length<=1048576):
  Calls Tryz.prog 9 #[v] w fun e w'=>∃v' l,e = .returned v'/\US w' w.heap.size w'.heap.size v' l/\Df AA true l/\AC w w':=by
 have C:=On (.inr rfl) (fun _ hb=>Vk hb) TE w v AA h hx hm;obtain⟨a,c,rfl,-⟩:=h;clear hm;go_enter Tryz.func9,Tryz.ntmps9
 go_wp2_with fail
 refine C.mono ?_;rintro e w1 ⟨v1,l,rfl,hF,hE,k⟩;have XF:=Lib.hid (And.intro hF (And.intro hE k));clear C hF hE k;go_wp2;go_ret;exact⟨_,l,rfl,XF.out⟩
end Go.Proofs.YtnmelakgmgenjaaGreat
