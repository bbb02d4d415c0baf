/- Gathered texts. -/
import Derived.Test.YtflehmepjhikcaaGreatDoorMI
import Derived.Deep.Cut
import Derived.BigRegion
import Derived.Lib.Hide
set_option maxRecDepth 100000
set_option maxHeartbeats 8000000
namespace Go.Proofs.YtflehmepjhikcaaGreatDoor
open Go.ChangeShapes Go.WideShapes Go.ChangeAt Go.RowKit
open Go.RowKit
section
def Bw (rows:List Nat)(cnt:Nat->Nat)(B:Nat->Bool)(j:Nat×Nat):Prop:=j.1∈rows/\B j.1=true/\j.2<cnt j.1
def Rb (R:Nat×Nat->Rw)(o:Nat)(r:Nat->Rw):Nat×Nat->Rw:=fun j=>if j.1=o then r j.2 else R j
theorem ET {rows:List Nat}{cnt:Nat->Nat}{B:Nat->Bool}{i:Nat}{j:Nat×Nat}(h:Bw rows cnt (AY B i) j):Bw rows cnt B j\/j.1=i:=by
 obtain⟨h1,h2,h3⟩:=h;by_cases e:j.1=i
 . exact .inr e
 ·
  refine .inl ⟨h1,?_,h3⟩;unfold AY at h2;rw[if_neg e] at h2;exact h2
theorem Cv {rows:List Nat}{cnt:Nat->Nat}{B:Nat->Bool}{i:Nat}{j:Nat×Nat}(hi:i∉rows)(h:Bw rows cnt (AY B i) j):Bw rows cnt B j:=by
 rcases ET h with q|q
 . exact q
 . exact absurd h.1 (by rw[q];exact hi)
structure JD (w:World)(m:Nat)(live:Nat×Nat->Prop)(R:Nat×Nat->Rw)(wk:Bool)(vW:Value)(wv:List Value)(bs N:Nat)(AA:List (List Dd)):Prop where
 Af:FO w m live R
 work:wk=true->IZ w bs N vW AA/\DW w bs N vW wv AA/\N<=w.heap.size/\m<=bs
 out:wk=true->∀i,live i->∀k,(R i).v.ownBlock=some k->k<bs\/N<=k
section
variable {w w':World} {m:Nat} {rows:List Nat} {cnt:Nat->Nat} {B:Nat->Bool} {R:Nat×Nat->Rw} {wk:Bool} {vW:Value} {wv:List Value} {bs N:Nat} {AA:List (List Dd)}
theorem JD.start (w:World)(m:Nat)(rows:List Nat)(cnt:Nat->Nat)(R:Nat×Nat->Rw)(vW:Value)(wv:List Value)(bs N:Nat)(AA:List (List Dd)):JD w m (Bw rows cnt (fun _=>false)) R false vW wv bs N AA:=
 ⟨⟨fun _ h=>(by cases h.2.1),fun _ _ h=>(by cases h.2.1)⟩,fun h=>(by cases h),fun h=>(by cases h)⟩
theorem JD.keep {live:Nat×Nat->Prop}(h:JD w m live R wk vW wv bs N AA)(k:AC w w'):JD w' m live R wk vW wv bs N AA:=
 ⟨h.Af.keep k,fun e=>⟨(h.work e).1.kept k.grownBy (by simp),(h.work e).2.1.keep k,Nat.le_trans (h.work e).2.2.1 k.size,(h.work e).2.2.2⟩,h.out⟩
theorem JD.pass (h:JD w m (Bw rows cnt B) R wk vW wv bs N AA){i:Nat}(hi:i∉rows):JD w m (Bw rows cnt (AY B i)) R wk vW wv bs N AA:=
 ⟨h.Af.congr (fun _ hj=>Cv hi hj) (fun _ _=>rfl),h.work,fun e j hj=>h.out e j (Cv hi hj)⟩
theorem JD.add (h:JD w m (Bw rows cnt B) R wk vW wv bs N AA){i:Nat}(hi:B i=false){r:Nat->Rw}(k:AC w w')(ho:∀q,q<cnt i->(r q).own w' m)(ha:∀p q,p<cnt i->q<cnt i->p≠q->(r p).v.ownBlock=none\/(r p).v.ownBlock≠(r q).v.ownBlock)
  (hn:∀q,q<cnt i->∀b,(r q).v.ownBlock=some b->w.heap.size<=b):JD w' m (Bw rows cnt (AY B i)) (Rb R i r) wk vW wv bs N AA:=by
 have hk:=h.keep k;have pR:∀j,Bw rows cnt B j->j.1≠i:=fun j hj e=>by have q:=hj.2.1;rw[e,hi] at q;cases q
 have eo:∀j:Nat×Nat,j.1≠i->Rb R i r j=R j:=fun j hj=>if_neg hj
 have es:∀j:Nat×Nat,j.1=i->Rb R i r j=r j.2:=fun j hj=>if_pos hj
 have cs:∀j:Nat×Nat,j.1=i->Bw rows cnt (AY B i) j->j.2<cnt i:=fun j e hj=>by have:=hj.2.2;rw[e] at this;exact this
 have old:∀j,Bw rows cnt B j->∀q,q<cnt i->(R j).v.ownBlock=none\/(R j).v.ownBlock≠(r q).v.ownBlock:=fun j hj q hq=>by
  cases e:(R j).v.ownBlock with
  |none=>exact .inl rfl
  |some b=>exact .inr (fun e'=>by have:=(h.Af.lt hj b e).2;have:=hn q hq b e'.symm;omega)
 refine⟨⟨fun j hj=>?_,fun j l hj hl hjl=>?_⟩,hk.work,fun e j hj b hb=>?_⟩
 ·
  rcases ET hj with q|q
  . rw[eo j (pR j q)];exact hk.Af.own j q
  . rw[es j q];exact ho _ (cs j q hj)
 ·
  rcases ET hj with q|q
  ·
   rw[eo j (pR j q)];rcases ET hl with p|p
   . rw[eo l (pR l p)];exact h.Af.apart j l q p hjl
   . rw[es l p];exact old j q _ (cs l p hl)
  ·
   rw[es j q];rcases ET hl with p|p
   ·
    rw[eo l (pR l p)];rcases old l p _ (cs j q hj) with x|x
    ·
     rw[x]
     cases (r j.2).v.ownBlock with
     |none=>exact .inl rfl
     |some b=>exact .inr (by simp)
    . exact .inr (fun e=>x e.symm)
   ·
    rw[es l p];refine ha _ _ (cs j q hj) (cs l p hl) (fun e=>hjl ?_);exact Prod.ext (q.trans p.symm) e
 ·
  rcases ET hj with q|q
  . rw[eo j (pR j q)] at hb;exact h.out e j q b hb
  ·
   rw[es j q] at hb;have:=hn _ (cs j q hj) b hb;have:=(h.work e).2.2.1;right;omega
theorem JD.one (h:JD w m (Bw rows cnt B) R wk vW wv bs N AA){i:Nat}(hi:B i=false)(hc:cnt i=1){r:Rw}(k:AC w w')(ho:r.own w' m)(hn:∀b,r.v.ownBlock=some b->w.heap.size<=b):JD w' m (Bw rows cnt (AY B i)) (Rb R i (fun _=>r)) wk vW wv bs N AA:=
 h.add hi k (fun _ _=>ho) (fun p q hp hq hne=>absurd (by omega:p=q) hne) (fun _ _=>hn)
theorem JD.copied (h:JD w m (Bw rows cnt B) R false vW wv bs N AA){i:Nat}(hi:i∉rows){v':Value}{V:Nat->Value}(k:AC w w')(hx:FQ w' w.heap.size w'.heap.size v' V AA)(hm:m<=w.heap.size):JD w' m (Bw rows cnt (AY B i)) R true v' ((List.range AA.length).map V) w.heap.size w'.heap.size AA:=
 ⟨(h.Af.keep k).congr (fun _ hj=>Cv hi hj) (fun _ _=>rfl),fun _=>⟨hx.vU.upto,hx.gY,Nat.le_refl _,hm⟩,fun _ _ hj b hb => .inl (h.Af.lt (Cv hi hj) b hb).2⟩
theorem JD.grow (h:JD w m (Bw rows cnt B) R wk vW wv bs N AA){i o:Nat}(hi:i∉rows)(hc:cnt o=1)(hj:Bw rows cnt B (o,0)){r:Rw}(hg:w.grownBy w' (R (o,0)).v.ownBlock)(hv:r.v.ownBlock=(R (o,0)).v.ownBlock\/r.v.ownBlock=some w.heap.size)(ho:r.own w' m):JD w' m (Bw rows cnt (AY B i)) (Rb R o (fun _=>r)) wk vW wv bs N AA:=by
 have F:=h.Af.set hj (r:=r) hg (by rcases hv with e|e;exact .inl e;exact .inr (.inl e)) ho
 have eq:∀j,Bw rows cnt (AY B i) j->Rb R o (fun _=>r) j=IE R (o,0) r j:=fun j q=>by
  unfold Rb IE;by_cases e:j.1=o
  ·
   have h2:j.2=0:=by have:=q.2.2;rw[e,hc] at this;omega
   rw[if_pos e,if_pos (Prod.ext e h2)]
  . rw[if_neg e,if_neg (fun x=>e (by rw[x]))]
 refine⟨F.congr (fun _ q=>Cv hi q) eq,fun e=>⟨(h.work e).1.kept hg (fun g e'=>h.out e _ hj g e'),(h.work e).2.1.kept hg (fun g e'=>h.out e _ hj g e'),Nat.le_trans (h.work e).2.2.1 hg.size,(h.work e).2.2.2⟩,fun e q hq b hb=>?_⟩;rw[eq q hq] at hb;by_cases eq':q=(o,0)
 ·
  subst eq';rw[Al] at hb;rcases hv with e1|e1
  . rw[e1] at hb;exact h.out e _ hj b hb
  ·
   rw[e1] at hb;have:=Option.some.inj hb;have:=(h.work e).2.2.1;right;omega
 ·
  rw[AV _ _ eq'] at hb;exact h.out e q (Cv hi hq) b hb
theorem JD.far (h:JD w m (Bw rows cnt B) R wk vW wv bs N AA){i:Nat}(hi:i∉rows){g:Nat}(hg:w.grownBy w' (some g))(hl:g<m):JD w' m (Bw rows cnt (AY B i)) R wk vW wv bs N AA:=
  ⟨(h.Af.far hg (fun j hj=>by
    cases e:(R j).v.ownBlock with
    |none=>exact .inl rfl
    |some k=>exact .inr (fun e'=>by have:=(h.Af.lt hj k e).1;have:=Option.some.inj e';omega))).congr (fun _ q=>Cv hi q) (fun _ _=>rfl),
   fun e=>⟨(h.work e).1.kept hg (fun q e'=>by have:=Option.some.inj e';have:=(h.work e).2.2.2;omega),(h.work e).2.1.kept hg (fun q e'=>by have:=Option.some.inj e';have:=(h.work e).2.2.2;omega),Nat.le_trans (h.work e).2.2.1 hg.size,(h.work e).2.2.2⟩,fun e j hj=>h.out e j (Cv hi hj)⟩
theorem JD.fu (h:JD w m (Bw rows cnt B) R wk vW wv bs N AA){α:Type}{t:TypeId}{rowOf:List α->Value->Rw}{i:Nat}(hi:B i=false){v:Value}{hs:List Value}{xss:List (List α)}(hc:cnt i=xss.length+1)(k:AC w w')(hm:m<=w.heap.size)(o:B0 t rowOf w' w.heap.size v hs xss):
  JD w' m (Bw rows cnt (AY B i)) (Rb R i (fun q=>KF t rowOf v hs xss (match q with|0=>none|q+1=>some q))) wk vW wv bs N AA:=by
 have lv:∀q,q<cnt i->EG hs.length (match q with|0=>none|q+1=>some q):=fun q hq=>by
  cases q with
  |zero=>trivial
  |succ q=>show q<hs.length;rw[o.len];omega
 refine h.add hi k (fun q hq=>DI (o.Af.own _ (lv q hq)) hm) (fun p q hp hq hne=>o.Af.apart _ _ (lv p hp) (lv q hq) (fun e=>hne ?_)) (fun q hq b hb=>(o.Af.lt (lv q hq) b hb).1);cases p<;>cases q<;>simp_all
end
end
theorem Tryz.YG:(Tryz.prog.info? 82).map (fun i=>(i.zero,i.size,i.bytes))=some (some (.agg #[.int .i64 0,.int .i64 0,.int .i64 0,.int .i64 0]),4,32):=by kernel_rfl
theorem Tryz.YH:(Tryz.prog.info? 72).map (fun i=>(i.zero,i.size,i.bytes))=some (some (.slice none 0 0),1,24):=by kernel_rfl
theorem On (ds:List Dd):(ds.flatMap cD).length=ds.length*4:=by
 induction ds with
 |nil=>rfl
 |cons d r ih=>rw[List.flatMap_cons,List.length_append,ih,List.length_cons];simp[cD];omega
theorem Tg (ds:List Dd):∀u∈ds.flatMap cD,u.oneCell'=true:=fun u hu=>by
 obtain⟨x,_,hx⟩:=List.mem_flatMap.1 hu;simp only[cD,List.mem_cons,List.not_mem_nil,or_false] at hx;rcases hx with rfl|rfl|rfl|rfl<;>rfl
theorem Nd {w:World}{b off:Nat}{ds:List Dd}(h:∀i,i<ds.length->Uc w b (off+i*4) (ds.getD i zD)):∀j u,(ds.flatMap cD)[j]? = some u->w.cell? ((⟨b,off,none⟩:Addr).add j)=some u:=fun j u hj=>by
 have hl:j<ds.length*4:=by rw[<-On];exact (List.getElem?_eq_some_iff.1 hj).1
 have hi:j / 4<ds.length:=by omega
 have hm:j % 4<4:=Nat.mod_lt _ (by omega);have e:j=j / 4*4+j % 4:=by omega
 have h1:=Xa ds (j / 4) (j % 4) hi hm;rw[<-e] at h1;rw[h1] at hj;have ea:(⟨b,off,none⟩:Addr).add j=⟨b,off+j / 4*4+j % 4,none⟩:=by rw[show off+j / 4*4+j % 4=off+j by omega];simp[Addr.add]
 rw[ea];obtain⟨a0,a1,a2,a3⟩:=h (j / 4) hi;have:j % 4=0\/j % 4=1\/j % 4=2\/j % 4=3:=by omega
 rcases this with q|q|q|q<;>rw[q] at hj ⊢<;>simp[cD] at hj<;>subst hj
 . exact a0
 . exact a1
 . exact a2
 . exact a3
theorem ME (w:World)(v:Value)(AA:List (List Dd))(h:Fo w v AA)(hx:AA.length<=1048576)(hm:∀i,i<AA.length->(AA.getD i []).length<=1048576):
  Calls Tryz.prog 91 #[v] w fun e w'=>∃v',e = .returned v'/\mO w' w.heap.size v' AA/\AC w w':=by
 obtain⟨aD,qw,rfl,h⟩:=h;obtain⟨i0,hi,hz0,hz1,hz2⟩:=info_parts Tryz.YG;obtain⟨j0,hj,hy0,hy1,hy2⟩:=info_parts Tryz.YH
 have hown0:FQ (w.alloc (.cells #[] 72)) w.heap.size (w.alloc (.cells #[] 72)).heap.size (.slice (some ⟨w.heap.size,0,none⟩) 0 0) (fun _=>vZ) (AA.take 0):=by
  rw[List.take_zero];exact⟨World.ownsRow_lit w #[] 0 (Nat.le_refl _) (by decide) rfl,fun k hk=>by simp[Value.ownBlock] at hk;subst hk;simp,fun i hi=>by simp at hi,fun i hi=>by simp at hi,fun i hi=>by simp at hi,fun i j _ hj=>by simp at hj⟩
 go_enter Tryz.func91,Tryz.ntmps91
 go_wp2;go_loopw [3,4] (fun v0 i wr=>∃(k:Nat) (v:Value) (V:Nat->Value),v=v0/\k<=AA.length/\i = .int .i64 k/\FQ wr w.heap.size wr.heap.size v V (AA.take k)/\AC w wr) (fun _ i _=>AA.length-(intOf i).toNat)
 case atStart=>exact⟨0,_,_,rfl,Nat.zero_le _,rfl,hown0,(AC.refl _).alloc _⟩
 case round=>
  obtain⟨k,v,V,rfl,hk,rfl,ho,hK⟩:=hrel;clear hown0;by_cases hlt:k<AA.length
  ·
   rcases h with h0|⟨b,off,rfl,hb,hc⟩
   . exfalso;rw[h0] at hlt;simp at hlt
   obtain⟨vi,d1,r1⟩:=hc k hlt;have d2:=(hK.cell hb).trans d1;have r2:=r1.keep hK;have hml:=hm k hlt
   have HT:Hid (AA.take (k+1)=AA.take k++[AA.getD k []]):=Lib.hid (by
    rw[List.take_add_one,List.getD_eq_getElem?_getD,List.getElem?_eq_getElem hlt];rfl)
   have hlen:(AA.take k).length=k:=by rw[List.length_take];omega
   generalize AA.getD k []=ds at *;obtain⟨ai,ci,rfl,r2⟩:=r2;have i1:(0:Int)<=(k:Int):=Int.natCast_nonneg _;have i2:(k:Int)<(AA.length:Int):=by omega
   have hsz:=hK.size;clear hc d1 r1;have OE:(wr.alloc (.cells #[] 82)).ownsRow wr.heap.size 82 4 (.slice (some ⟨wr.heap.size,0,none⟩) 0 0) 0 []:=World.ownsRow_lit wr #[] 0 (Nat.le_refl _) (by decide) rfl;have d3:(wr.alloc (.cells #[] 82)).cell? ⟨b,off+k,none⟩=some (.slice ai ds.length (ds.length+ci)):=(((AC.refl wr).alloc _).cell (Nat.lt_of_lt_of_le hb hsz)).trans d2;rcases r2 with h0|⟨bd,od,rfl,hbd,hcd⟩
   ·
    subst h0
    cases ai with
    |none=>
     have OD:C7 (wr.alloc (.cells #[] 82)) wr.heap.size (.slice (some ⟨wr.heap.size,0,none⟩) 0 0) []:=OE;have k5:AC wr (wr.alloc (.cells #[] 82)):=(AC.refl wr).alloc _;have HX5:=(ho.keep k5).keep ((AC.refl (wr.alloc (.cells #[] 82))).alloc (.cells #[.slice (some ⟨wr.heap.size,0,none⟩) 0 0] 72));have HR:=HX5.row;rw[hlen] at HR;have QA:=OD.keep ((AC.refl (wr.alloc (.cells #[] 82))).alloc (.cells #[.slice (some ⟨wr.heap.size,0,none⟩) 0 0] 72));have s5:=k5.size;go_wp2_with (at_builtin;refine wpList_append_own_at _ rfl _ _ 24 rfl w.heap.size 72 j0 (.slice none 0 0) 1 24 Tryz.underlying24 hj hy0 hy1 hy2 rfl (by decide) _ _ _ rfl HR ⟨_,0,none⟩ 1 1 [.slice (some ⟨wr.heap.size,0,none⟩) 0 0] rfl rfl ?e1 ?e2 ?e3 ?e4 ?e5 ?_)
     case e1=>
      intro j u hj
      match j,hj with
      | 0,hj=>simp at hj;subst hj;simp[Addr.add]
     case e2=>intro u hu;simp at hu;subst hu;rfl
     case e3=>unfold maxLen;omega
     case e4=>omega
     case e5=>simp;omega
     intro v' w7 hown7 hgrow7 _ hblk7;have HP:=HX5.push QA hsz (by rw[hlen];exact hown7) hgrow7 (by rw[AD,AD];exact hblk7) (by simp;omega);have K7:AC w w7:=((hK.trans k5).alloc _).grown hgrow7 (fun k hk=>(World.ownsRow.lt HR k hk).1);clear hown7 hgrow7 hblk7 HR HX5 QA;go_wp2;go_roundw;case rel=>exact⟨k+1,_,_,rfl,by omega,by go_num,by rw[HT.out];exact HP,K7⟩
     case measure=>simp[intOf];omega
    |some x=>
     go_wp2_with (at_builtin;refine wpList_append_own _ rfl _ _ 72 rfl wr.heap.size 82 i0 (.agg #[.int .i64 0,.int .i64 0,.int .i64 0,.int .i64 0]) 4 32 Tryz.underlying72 hi hz0 hz1 hz2 rfl (by decide) _ _ _ rfl OE x 0 ci [] rfl rfl ?c1 ?c2 ?c3 ?c4 ?c5 ?_)
     case c1=>intro j u hj;simp at hj
     case c2=>intro u hu;simp at hu
     case c3=>simp
     case c4=>simp
     case c5=>simp
     intro u w5 hown5 hgrow5 _;have OD:C7 w5 wr.heap.size u []:=by unfold C7;simpa using hown5
     have k5:AC wr w5:=((AC.refl wr).alloc (.cells #[] 82)).grown hgrow5 (fun k hk=>(World.ownsRow.lt OE k hk).1);clear hown5 hgrow5;obtain⟨au,cu,hu⟩:∃a c,u = .slice a 0 c:=OD.shape;subst hu;have HX5:=(ho.keep k5).keep ((AC.refl w5).alloc (.cells #[.slice au 0 cu] 72));have HR:=HX5.row;rw[hlen] at HR;have QA:=OD.keep ((AC.refl w5).alloc (.cells #[.slice au 0 cu] 72));have s5:=k5.size;go_wp2_with (at_builtin;refine wpList_append_own_at _ rfl _ _ 24 rfl w.heap.size 72 j0 (.slice none 0 0) 1 24 Tryz.underlying24 hj hy0 hy1 hy2 rfl (by decide) _ _ _ rfl HR ⟨_,0,none⟩ 1 1 [.slice au 0 cu] rfl rfl ?e1 ?e2 ?e3 ?e4 ?e5 ?_)
     case e1=>
      intro j u hj
      match j,hj with
      | 0,hj=>simp at hj;subst hj;simp[Addr.add]
     case e2=>intro u hu;simp at hu;subst hu;rfl
     case e3=>unfold maxLen;omega
     case e4=>omega
     case e5=>simp;omega
     intro v' w7 hown7 hgrow7 _ hblk7;have HP:=HX5.push QA hsz (by rw[hlen];exact hown7) hgrow7 (by rw[AD];exact hblk7) (by simp;omega);have K7:AC w w7:=((hK.trans k5).alloc _).grown hgrow7 (fun k hk=>(World.ownsRow.lt HR k hk).1);clear hown7 hgrow7 hblk7 HR HX5 QA;go_wp2;go_roundw;case rel=>exact⟨k+1,_,_,rfl,by omega,by go_num,by rw[HT.out];exact HP,K7⟩
     case measure=>simp[intOf];omega
   ·
    have NC:=Nd (w:=wr.alloc (.cells #[] 82)) (b:=bd) (off:=od) (ds:=ds) (fun i hi=>(hcd i hi).keep hbd ((AC.refl wr).alloc _));go_wp2_with (at_builtin;refine wpList_append_own _ rfl _ _ 72 rfl wr.heap.size 82 i0 (.agg #[.int .i64 0,.int .i64 0,.int .i64 0,.int .i64 0]) 4 32 Tryz.underlying72 hi hz0 hz1 hz2 rfl (by decide) _ _ _ rfl OE ⟨bd,od,none⟩ ds.length (ds.length+ci) (ds.flatMap cD) rfl (On ds) ?c1 ?c2 ?c3 ?c4 ?c5 ?_)
    case c1=>exact NC
    case c2=>exact Tg ds
    case c3=>unfold maxLen;omega
    case c4=>omega
    case c5=>simp
    intro u w5 hown5 hgrow5 _;have OD:C7 w5 wr.heap.size u ds:=by unfold C7;simpa using hown5
    have k5:AC wr w5:=((AC.refl wr).alloc (.cells #[] 82)).grown hgrow5 (fun k hk=>(World.ownsRow.lt OE k hk).1);clear hown5 hgrow5;obtain⟨au,cu,hu⟩:=OD.shape;subst hu;have HX5:=(ho.keep k5).keep ((AC.refl w5).alloc (.cells #[.slice au ds.length cu] 72));have HR:=HX5.row;rw[hlen] at HR;have QA:=OD.keep ((AC.refl w5).alloc (.cells #[.slice au ds.length cu] 72));have s5:=k5.size;go_wp2_with (at_builtin;refine wpList_append_own_at _ rfl _ _ 24 rfl w.heap.size 72 j0 (.slice none 0 0) 1 24 Tryz.underlying24 hj hy0 hy1 hy2 rfl (by decide) _ _ _ rfl HR ⟨_,0,none⟩ 1 1 [.slice au ds.length cu] rfl rfl ?e1 ?e2 ?e3 ?e4 ?e5 ?_)
    case e1=>
     intro j u hj
     match j,hj with
     | 0,hj=>simp at hj;subst hj;simp[Addr.add]
    case e2=>intro u hu;simp at hu;subst hu;rfl
    case e3=>unfold maxLen;omega
    case e4=>omega
    case e5=>simp;omega
    intro v' w7 hown7 hgrow7 _ hblk7;have HP:=HX5.push QA hsz (by rw[hlen];exact hown7) hgrow7 (by rw[AD];exact hblk7) (by simp;omega);have K7:AC w w7:=((hK.trans k5).alloc _).grown hgrow7 (fun k hk=>(World.ownsRow.lt HR k hk).1);clear hown7 hgrow7 hblk7 HR HX5 QA;go_wp2;go_roundw;case rel=>exact⟨k+1,_,_,rfl,by omega,by go_num,by rw[HT.out];exact HP,K7⟩
    case measure=>simp[intOf];omega
  ·
   obtain rfl:k=AA.length:=by omega
   rw[List.take_length] at ho;go_wp2;go_ret;exact⟨_,rfl,ho.vU,hK⟩
theorem jM {es:List Ev}{j:Nat}(h12:es.length<=12)(hj:j<es.length)(hr:Ae (es.getD j zE)=true):∃i,i<(AX Ae es).length/\(AX Ae es).getD i 0=(j:Int)/\∀q,q<i->(AX Ae es).getD q 0≠(j:Int):=by
 obtain⟨t,ht⟩:=L6 Ae es (j+1) es.length hj
 have e1:BR Ae es (j+1)=BR Ae es j++[(j:Int)]:=by
  show (if Ae (es.getD j zE)=true then BR Ae es j++[(j:Int)] else BR Ae es j)=_;rw[if_pos hr]
 have e2:AX Ae es=BR Ae es j++([(j:Int)]++t):=by
  unfold AX;rw[if_pos h12];rw[ht,e1,List.append_assoc]
 refine⟨(BR Ae es j).length,?_,?_,fun q hq=>?_⟩
 . rw[e2];simp
 . rw[e2,List.getD_eq_getElem?_getD,List.getElem?_append_right (Nat.le_refl _)];simp
 ·
  rw[e2,List.getD_eq_getElem?_getD,List.getElem?_append_left hq,List.getElem?_eq_getElem hq];have:=Ho Ae es j _ (List.getElem_mem hq);show (BR Ae es j)[q]≠_;omega
theorem Z8 {AA:List (List Dd)}{b:Bd}{n:Nat}(h:Dq AA b n)(c k:Nat)(pl:Bool)(j:Nat)(e:Ev):Dq AA (Px (AX Ae (AB AA)) c k pl b j e) (n+1):=by
 unfold Px;split
 ·
  split
  . exact (h.see _ _ _).mono (by omega)
  ·
   split
   . exact h.note c _
   . exact h.YK _ _ _
 . exact h.mono (by omega)
theorem Tk {AA:List (List Dd)}{b:Bd}{n:Nat}(h:Dq AA b n)(c k:Nat)(pl:Bool):∀j:Nat,Dq AA (Cu (AB AA) (AX Ae (AB AA)) c k pl b j) (n+j)
 | 0=>h
 |j+1=>Z8 (Tk h c k pl j) c k pl j _
theorem Oo (es:List Ev)(rs:List Int)(c k:Nat)(pl:Bool)(b:Bd):∀j:Nat,(Cu es rs c k pl b j).AK=b.AK
 | 0=>rfl
 |j+1=>by
  show (Px rs c k pl (Cu es rs c k pl b j) j (es.getD j zE)).AK=b.AK;rw[<-Oo es rs c k pl b j];unfold Px;split
  ·
   split
   . rfl
   . split<;>rfl
  . rfl
theorem Dq.sz {AA:List (List Dd)}{b:Bd}{n:Nat}(h:Dq AA b n)(hn:n<=2000):Ks AA b:=by
 have u:=(BH h.work).1;have l5:=fun i hi=>DS h.work (c:=i) hi
 have r12:=Fd Ae (AB AA);have e12:=Bg AA;exact⟨by omega,fun i hi=>by have:=l5 i hi;omega,by have:=h.AM;omega,by have:=h.AO;omega,by have:=h.AJ;omega,fun i _=>by have:=h.nl i;omega,by have:=h.AK;omega,by have:=h.sn;omega,by have:=h.fr;omega,by have:=h.rws;omega,fun i _=>by have:=h.rl i;omega⟩
theorem iq {AA:List (List Dd)}(hb:AL AA=true){c:Nat}(hc:c<AA.length)(b:Bd)(hk:Aj b c<(AA.getD c []).length)(h0:0<=b.AK.getD c 0)(h3:(Ai AA c (Aj b c)).1=3->b.AJ.getD c []=[]):
  { Cu (AB AA) (AX Ae (AB AA)) c (Aj b c) (Di (Ai AA c (Aj b c))) b (AB AA).length with AK:=(Cu (AB AA) (AX Ae (AB AA)) c (Aj b c) (Di (Ai AA c (Aj b c))) b (AB AA).length).AK.set c ((Aj b c:Int)+1) }=Ag AA (AB AA) b c:=by
 rw[Oo,Z9 hb hc hk b h3];unfold Ag;have:(Aj b c:Int)=b.AK.getD c 0:=by unfold Aj;omega
 rw[this]
theorem aH {AA:List (List Dd)}(hb:AL AA=true){c k j:Nat}(hc:c<AA.length)(hk:k<(AA.getD c []).length)(hj:j<(AB AA).length)(h:((AB AA).getD j zE).1=(c:Int)/\((AB AA).getD j zE).2.1=(k:Int)):∃p:Nat,p<3/\((AB AA).getD j zE).2.2.2.1=(p:Int):=by
 obtain⟨i,E⟩:=Xs hb hj h;obtain⟨⟨p,hp,e⟩,-⟩:=Th hb hc hk;exact⟨p,hp,by rw[E.at hb];exact e⟩
theorem PT {AA:List (List Dd)}{es:List Ev}{b:Bd}{c:Nat}(hc:c<b.AK.length)(h0:0<=b.AK.getD c 0):(Ag AA es b c).AK.getD c 0=b.AK.getD c 0+1/\Aj (Ag AA es b c) c=Aj b c+1:=by
 have e:(Ag AA es b c).AK.getD c 0=b.AK.getD c 0+1:=by
  show (b.AK.set c (b.AK.getD c 0+1)).getD c 0=_;rw[List.getD_eq_getElem?_getD,List.getElem?_set];simp[hc]
 refine⟨e,?_⟩;unfold Aj;rw[e];omega
structure WK (AA:List (List Dd))(c:Nat)(g:Int)(T:Bd)(b:Bd)(n:Nat):Prop where
 WR:Dq AA b n
 le:Aj b c<=(AA.getD c []).length
 z:0<=b.AK.getD c 0
 nt:n+((AA.getD c []).length-Aj b c)<=1000
 go:∃m,(AA.getD c []).length<=Aj b c+m/\T=if Aj b c<(AA.getD c []).length/\Fw (AA.getD c []) (Aj b c)=true then EE AA (AB AA) g c m b else b
 gg:Aj b c<(AA.getD c []).length->Fw (AA.getD c []) (Aj b c)=true->BE AA c (Aj b c)=g/\g≠0
theorem WK.step {AA:List (List Dd)}{c:Nat}{g:Int}{T b:Bd}{n:Nat}(h:WK AA c g T b n)(hc:c<AA.length)(hl:Aj b c<(AA.getD c []).length)(hg:Fw (AA.getD c []) (Aj b c)=true):WK AA c g T (Ag AA (AB AA) b c) (n+1):=by
 obtain⟨g1,g2⟩:=h.gg hl hg;obtain⟨e1,e2⟩:=PT (AA:=AA) (es:=AB AA) (by rw[h.WR.AK];exact hc) h.z;obtain⟨m,m1,m2⟩:=h.go;rw[if_pos ⟨hl,hg⟩] at m2;have hz:=h.z;have hnt:=h.nt;refine⟨h.WR.one c,by rw[e2];omega,by rw[e1];omega,by rw[e2];omega,?_,fun q1 q2=>?_⟩
 ·
  obtain⟨m',rfl⟩:∃m',m=m'+1:=⟨m-1,by omega⟩;refine⟨m',by rw[e2];omega,?_⟩;rw[m2,Qh (by rw[e2];omega) e2 g1]
 ·
  have q3:=q2;unfold Fw at q3;rw[e2] at q3;simp only[Bool.and_eq_true,bne_iff_ne,ne_eq,beq_iff_eq,decide_eq_true_eq] at q3;refine⟨?_,g2⟩;rw[e2,<-g1];exact q3.2
theorem WK.start {AA:List (List Dd)}{c:Nat}{b:Bd}{n:Nat}(S:Dq AA b n)(hn:n<=900)(hc:c<AA.length)(h0:0<=b.AK.getD c 0)(hl:Aj b c<(AA.getD c []).length)(c10:c<10):WK AA c (BE AA c (Aj b c)) (Ao AA (AB AA) b (c:Int)) (Ag AA (AB AA) b c) (n+1):=by
 obtain⟨e1,e2⟩:=PT (AA:=AA) (es:=AB AA) (by rw[S.AK];exact hc) h0;have h5:=DS S.work hc;obtain⟨m',hm'⟩:∃m',(AA.getD c []).length=m'+1:=⟨(AA.getD c []).length-1,by omega⟩;refine⟨S.one c,by rw[e2];omega,by rw[e1];omega,by rw[e2];omega,⟨m',by rw[e2];omega,?_⟩,fun q1 q2=>?_⟩
 ·
  unfold Ao;rw[if_neg (by omega)];simp only[Int.toNat_natCast];rw[show EE AA (AB AA) (BE AA c (Aj b c)) c (AA.getD c []).length b=EE AA (AB AA) (BE AA c (Aj b c)) c (m'+1) b by rw[hm'],Qh (by rw[e2];omega) e2 rfl]
 ·
  unfold Fw at q2;rw[e2] at q2;simp only[Bool.and_eq_true,bne_iff_ne,ne_eq,beq_iff_eq,decide_eq_true_eq] at q2;have a1:BE AA c (Aj b c+1)=BE AA c (Aj b c):=q2.2;have a2:BE AA c (Aj b c+1)≠0:=q2.1.2;exact⟨by rw[e2];exact a1,fun q=>a2 (a1.trans q)⟩
section
def J2 (v:BV)(nv hv rv wv:List Value)(AA:List (List Dd))(b:Bd):BJ->Rw
 | .b .AJ=>Dx 151 hv v.N
 |j=>IJ v nv rv wv AA b j
theorem SR (v:BV)(nv hv rv wv:List Value)(AA:List (List Dd))(b:Bd){j:BJ}(h:j≠.b .AJ):J2 v nv hv rv wv AA b j=IJ v nv rv wv AA b j:=by
 cases j with
 |b i=>cases i<;>first|rfl|exact absurd rfl h
 |wk=>rfl
 |wd c=>rfl
theorem J3 (v:BV)(nv hv rv wv:List Value)(AA:List (List Dd))(b:Bd)(j:BJ):(J2 v nv hv rv wv AA b j).v=(IJ v nv rv wv AA b j).v:=by
 cases j with
 |b i=>cases i<;>rfl
 |wk=>rfl
 |wd c=>rfl
structure La (w:World)(m:Nat)(v:BV)(nv hv rv wv:List Value)(AA:List (List Dd))(b:Bd):Prop where
 Af:FO w m (EN nv rv wv) (J2 v nv hv rv wv AA b)
 ln:nv.length=b.AJ.length
 lh:hv.length=nv.length
 lr:rv.length=b.rws.length
 lw:wv.length=AA.length
def VO:BJ->Prop
 | .b i=>Rm i
 |_=>False
section
variable {w w':World} {m:Nat} {v:BV} {nv hv rv rv' wv:List Value} {AA:List (List Dd)} {b b':Bd}
theorem FF.cut (h:FF w m v nv rv wv AA b){g cap c:Nat}(hv':v.N = .slice (some ⟨g,0,none⟩) nv.length cap)(u:Value):La (w.setCell ⟨g,c,none⟩ u) m v nv (nv.set c u) rv wv AA b:=by
 have o:=h.Af.own (.b .AJ) ⟨trivial,by simp⟩;obtain⟨q1,q2,q3⟩:=Rw.put (r:=Dx 151 nv v.N) o (g:=g) (cap:=cap) (k:=c) hv' u;have F:=h.Af.set (i:= .b .AJ) ⟨trivial,by simp⟩ (r:={ Dx 151 nv v.N with xs:=nv.set c u }) q2 (.inl rfl) q1;refine⟨F.congr (fun _ hi=>hi) (fun j _=>?_),h.ln,by simp,h.lr,h.lw⟩;by_cases e:j = .b .AJ
 ·
  subst e;rw[Al];show Dx _ (nv.set c u) v.N=_;simp[Dx]
 . rw[AV _ _ e,SR _ _ _ _ _ _ _ e]
theorem La.keep (h:La w m v nv hv rv wv AA b)(k:AC w w'):La w' m v nv hv rv wv AA b:=⟨h.Af.keep k,h.ln,h.lh,h.lr,h.lw⟩
theorem LO {i:BI}(hi:De rv i):EN nv rv wv (.b i):=by
 cases i with
 |AM=>exact⟨trivial,by simp⟩
 |AO=>exact⟨trivial,by simp⟩
 |rws=>exact⟨trivial,by simp⟩
 |rw p=>exact⟨hi,by simp⟩
 |bd=>exact hi.elim
 |AJ=>exact hi.elim
 |AK=>exact hi.elim
 |sn=>exact hi.elim
 |fr=>exact hi.elim
 |nt c=>exact hi.elim
theorem La.YK (h:La w m v nv hv rv wv AA b):DM w m v rv b:=by
 refine⟨⟨fun i hi=>?_,fun i j hi hj hij=>?_⟩,h.lr⟩
 ·
  have:=h.Af.own (.b i) (LO hi);cases i<;>first|exact this|exact absurd hi (by simp[De])
 ·
  have:=h.Af.apart (.b i) (.b j) (LO hi) (LO hj) (fun e=>hij (by injection e));rw[J3,J3] at this;have ei:(As 0 v [] rv b i).v=(IJ v nv rv wv AA b (.b i)).v:=by cases i<;>first|rfl|exact absurd hi (by simp[De])
  have ej:(As 0 v [] rv b j).v=(IJ v nv rv wv AA b (.b j)).v:=by cases j<;>first|rfl|exact absurd hj (by simp[De])
  rw[ei,ej];exact this
theorem La.turn (h:La w m v nv hv rv wv AA b)(o:DM w' m v rv' b')(t:Ah w w' (Ec v rv) (Ec v rv'))(e1:b'.AJ=b.AJ)(e2:b'.AK=b.AK)(e3:b'.sn=b.sn)(e4:b'.fr=b.fr):La w' m v nv hv rv' wv AA b':=by
 have lI:∀i,BN nv rv' i->Rm i->De rv' i:=fun i h1 h2=>by cases i<;>first|trivial|exact h1|exact absurd h2 (by simp[Rm])
 refine⟨h.Af.part (w':=w') (live':=EN nv rv' wv) (R':=J2 v nv hv rv' wv AA b') VO ⟨fun j hj=>?_,fun j l hj hl hjl=>?_⟩ (fun j hs hj=>?_) (fun j hs _=>?_) t (fun j hj hs g hg hB=>?_) (fun j hj hs g hg=>?_),by rw[e1];exact h.ln,h.lh,o.lr,h.lw⟩
 ·
  obtain⟨hj,hs⟩:=hj
  cases j with
  |b i=>
   have:=o.Af.own i (lI i hj.1 hs);cases i<;>first|exact this|exact absurd hs (by simp[VO,Rm])
  |wk=>exact absurd hs (by simp[VO])
  |wd c=>exact absurd hs (by simp[VO])
 ·
  obtain⟨hj,hs⟩:=hj;obtain⟨hl,hr⟩:=hl
  cases j with
  |b i=>
   cases l with
   |b k=>
    have:=o.Af.apart i k (lI i hj.1 hs) (lI k hl.1 hr) (fun e=>hjl (by rw[e]));rw[J3,J3];have ei:(As 0 v [] rv' b' i).v=(IJ v nv rv' wv AA b' (.b i)).v:=by cases i<;>first|rfl|exact absurd hs (by simp[VO,Rm])
    have ej:(As 0 v [] rv' b' k).v=(IJ v nv rv' wv AA b' (.b k)).v:=by cases k<;>first|rfl|exact absurd hr (by simp[VO,Rm])
    rw[<-ei,<-ej];exact this
   |wk=>exact absurd hr (by simp[VO])
   |wd c=>exact absurd hr (by simp[VO])
  |wk=>exact absurd hs (by simp[VO])
  |wd c=>exact absurd hs (by simp[VO])
 ·
  cases j with
  |b i=>cases i<;>first|exact (hs trivial).elim|exact hj
  |wk=>trivial
  |wd c=>exact hj
 ·
  cases j with
  |b i=>cases i<;>first|exact (hs trivial).elim|rfl|(simp only[J2,IJ,As,e1,e2,e3,e4])
  |wk=>rfl
  |wd c=>rfl
 ·
  obtain⟨i,hi,e⟩:=hB;have li:EN nv rv wv (.b i):=LO hi
  have ei:(J2 v nv hv rv wv AA b (.b i)).v.ownBlock=some g:=by
   rw[J3];cases i<;>first|exact e|exact absurd hi (by simp[De])
  have hne:j≠.b i:=fun q=>hs (by subst q;cases i<;>first|trivial|exact absurd hi (by simp[De]))
  rcases h.Af.apart j (.b i) hj li hne with q|q
  . rw[hg] at q;cases q
  . exact q (hg.trans ei.symm)
 ·
  cases j with
  |b i=>
   refine⟨i,lI i hj.1 hs,?_⟩;rw[J3] at hg;cases i<;>first|exact hg|exact absurd hs (by simp[VO,Rm])
  |wk=>exact absurd hs (by simp[VO])
  |wd c=>exact absurd hs (by simp[VO])
theorem La.free {c gq cq:Nat}{u:Value}{x:Nt}{r:List Nt}(h:La w m v nv (nv.set c u) rv wv AA b)(hc:c<nv.length)(hz:b.AJ.getD c []=x::r)(hq:nv.getD c AF = .slice (some ⟨gq,0,none⟩) (r.length+1) cq)
  (hu:(cq=1/\u = .slice (some ⟨gq,0,none⟩) r.length 0)\/u = .slice (some ⟨gq,3,none⟩) r.length (cq-1)):DB w m w.heap.size v AA { b with AJ:=b.AJ.set c r }:=by
 have hcb:c<b.AJ.length:=by rw[<-h.ln];exact hc
 have oq:=h.Af.own (.b (.nt c)) ⟨hc,by simp⟩
 have vM:Bp cN 155 3 w m (.slice (some ⟨gq,0,none⟩) (x::r).length cq) (x::r):=by
  have q:Bp cN 155 3 w m (nv.getD c AF) (b.AJ.getD c []):=oq;rw[hz,hq] at q;exact q
 have hcq:r.length+1<=cq:=by
  rcases vM.2 with ⟨q,_⟩|⟨g,cap,cur,e,_,_,hcap,_⟩
  . simp at q
  ·
   simp only[Value.slice.injEq,true_and] at e;rw[e.2];simpa using hcap
 have lq:gq<w.heap.size:=(World.ownsRow.lt vM gq rfl).2;have uY:(nv.set c u).getD c AF=u:=by rw[BF _ _ _ _ hc,if_pos rfl]
 have uZ:∀i,i≠c->(nv.set c u).getD i AF=nv.getD i AF:=fun i hi=>by rw[BF _ _ _ _ hc,if_neg hi]
 have hNc:(b.AJ.set c r).getD c []=r:=by rw[BF _ _ _ _ hcb,if_pos rfl]
 have uV:∀i,i≠c->(b.AJ.set c r).getD i []=b.AJ.getD i []:=fun i hi=>by rw[BF _ _ _ _ hcb,if_neg hi]
 have rH:(b.AJ.set c r).length=b.AJ.length:=by simp
 have su:WH u r.length:=by
  rcases hu with ⟨_,e⟩|e
  . exact⟨_,_,e,.inr ⟨gq,0,rfl⟩⟩
  . exact⟨_,_,e,.inr ⟨gq,3,rfl⟩⟩
 have ru:fZ w u r:=by
  rcases hu with ⟨e1,e⟩|e
  ·
   have h0:r=[]:=List.eq_nil_of_length_eq_zero (by omega);exact⟨_,0,by rw[e,h0];rfl,.inl h0⟩
  ·
   refine⟨some ⟨gq,3,none⟩,cq-1-r.length,by rw[e];congr 1;omega,.inr ⟨gq,3,rfl,lq,fun i y hy=>?_⟩⟩;have hr:=Bp.rd Ds vM;obtain⟨a2,c2,e2,hx⟩:=hr;rcases hx with q|⟨b2,o2,q1,q2,q3⟩
   . cases q
   ·
    rw[q1] at e2;simp only[Value.slice.injEq,Option.some.injEq,Addr.mk.injEq,and_true] at e2;obtain⟨⟨rfl,rfl⟩,-⟩:=e2;have:=q3 (i+1) y (by simpa using hy);rw[show 0+(i+1)*3=3+i*3 by omega] at this;exact this
 have row:∀j,j∈Ld AA.length (b.AJ.set c r).length b.rws.length->EN nv rv wv j/\∀y,Hb (Pi v (fun i=>wv.getD i AF) (fun i=>(nv.set c u).getD i AF) (fun i=>rv.getD i AF) AA { b with AJ:=b.AJ.set c r } j).1 (Pi v (fun i=>wv.getD i AF) (fun i=>(nv.set c u).getD i AF) (fun i=>rv.getD i AF) AA { b with AJ:=b.AJ.set c r } j).2 y ->
   Wb w y/\m<=y.block/\(J2 v nv (nv.set c u) rv wv AA b j).v.ownBlock=some y.block:=by
  intro j hj;have plain:∀(j:BJ) (n:Nat),EN nv rv wv j->n<=(J2 v nv (nv.set c u) rv wv AA b j).n*(J2 v nv (nv.set c u) rv wv AA b j).size->∀y,Hb (J2 v nv (nv.set c u) rv wv AA b j).v n y->Wb w y/\m<=y.block/\(J2 v nv (nv.set c u) rv wv AA b j).v.ownBlock=some y.block:=fun j n l1 l2 y hy=>Rw.wb (h.Af.own j l1) l2 hy
  rcases E0 hj with ⟨d,hd,rfl⟩|rfl|rfl|⟨d,hd,rfl⟩|rfl|rfl|rfl|⟨d,hd,rfl⟩
  ·
   have l1:EN nv rv wv (.wd d):=by show d<wv.length;rw[h.lw];exact hd
   exact⟨l1,plain (.wd d) _ l1 (by show 4*(AA.getD d []).length<=(AA.getD d []).length*4;omega)⟩
  . exact⟨⟨trivial,by simp⟩,plain (.b .AM) _ ⟨trivial,by simp⟩ (by show b.AM.length<=b.AM.length*1;omega)⟩
  . exact⟨⟨trivial,by simp⟩,plain (.b .AO) _ ⟨trivial,by simp⟩ (by show b.AO.length<=b.AO.length*1;omega)⟩
  ·
   have l1:EN nv rv wv (.b (.nt d)):=⟨by show d<nv.length;rw[h.ln,<-rH];exact hd,by simp⟩;refine⟨l1,fun y hy=>?_⟩;by_cases e:d=c
   ·
    subst e;have hy:Hb ((nv.set d u).getD d AF) (3*((b.AJ.set d r).getD d []).length) y:=hy;rw[uY,hNc] at hy;refine plain (.b (.nt d)) (3*(r.length+1)) l1 (by show 3*(r.length+1)<=(b.AJ.getD d []).length*3;rw[hz,List.length_cons];omega) y ?_;show Hb (nv.getD d AF) _ y;rw[hq];obtain⟨b2,o2,l2,c2,i2,e2,hi2,ea⟩:=hy;rcases hu with ⟨_,e3⟩|e3
    ·
     rw[e3] at e2;simp only[Value.slice.injEq,Option.some.injEq,Addr.mk.injEq,and_true] at e2;obtain⟨⟨rfl,rfl⟩,-,-⟩:=e2;exact⟨gq,0,_,_,i2,rfl,by omega,ea⟩
    ·
     rw[e3] at e2;simp only[Value.slice.injEq,Option.some.injEq,Addr.mk.injEq,and_true] at e2;obtain⟨⟨rfl,rfl⟩,-,-⟩:=e2;exact⟨gq,0,_,_,3+i2,rfl,by omega,by rw[ea,Nat.zero_add]⟩
   ·
    have hy:Hb ((nv.set c u).getD d AF) (3*((b.AJ.set c r).getD d []).length) y:=hy;rw[uZ d e,uV d e] at hy;exact plain (.b (.nt d)) _ l1 (by show 3*(b.AJ.getD d []).length<=(b.AJ.getD d []).length*3;omega) y hy
  . exact⟨⟨trivial,by simp⟩,plain (.b .AK) _ ⟨trivial,by simp⟩ (by show b.AK.length<=b.AK.length*1;omega)⟩
  . exact⟨⟨trivial,by simp⟩,plain (.b .sn) _ ⟨trivial,by simp⟩ (by show b.sn.length<=b.sn.length*1;omega)⟩
  . exact⟨⟨trivial,by simp⟩,plain (.b .fr) _ ⟨trivial,by simp⟩ (by show b.fr.length<=b.fr.length*1;omega)⟩
  ·
   have l1:EN nv rv wv (.b (.rw d)):=⟨by show d<rv.length;rw[h.lr];exact hd,by simp⟩;exact⟨l1,plain (.b (.rw d)) _ l1 (by show 1*(b.rws.getD d []).length<=(b.rws.getD d []).length*1;omega)⟩
 have heads:∀(j:BJ) (t:TypeId) (vs:List Value) (z:Value),EN nv rv wv j->J2 v nv (nv.set c u) rv wv AA b j=Dx t vs z->j∉Ld AA.length (b.AJ.set c r).length b.rws.length ->
   fP w z (fun i=>vs.getD i AF) vs.length (Hc (Ms v (fun i=>wv.getD i AF) (fun i=>(nv.set c u).getD i AF) (fun i=>rv.getD i AF) AA { b with AJ:=b.AJ.set c r })):=by
  intro j t vs z hl e hj;have ho:=h.Af.own j hl;rw[e] at ho;obtain⟨a,cc,ea,h1⟩:=Bj ho;refine⟨a,cc,ea,?_⟩;rcases h1 with h1|⟨g,e1,e2,e3⟩
  . exact .inl (by rw[h1];rfl)
  ·
   refine .inr ⟨g,0,e1,e2,fun i hi=>⟨by rw[Nat.zero_add];exact e3 i hi,?_⟩⟩;rintro⟨r',hr,hx⟩;rw[DY,List.mem_map] at hr;obtain⟨q,hq',rfl⟩:=hr;obtain⟨l1,l2⟩:=row q hq';have hb:=(l2 _ hx).2.2;have ap:=h.Af.apart q j l1 hl (fun e=>hj (e ▸ hq'));rw[hb,e] at ap;rcases ap with ap|ap
   . cases ap
   ·
    apply ap;show _=z.ownBlock;rw[ea,e1];rfl
 have hge:∀(j:BJ) (n:Nat),EN nv rv wv j->Zm (J2 v nv (nv.set c u) rv wv AA b j).v n m:=fun j n hl q o l c' e _=>(h.Af.lt hl q (by rw[e];rfl)).1
 have o1:A7 w m v.P b.AM:=h.Af.own (.b .AM) ⟨trivial,by simp⟩;have o2:A7 w m v.L b.AO:=h.Af.own (.b .AO) ⟨trivial,by simp⟩;have o3:A7 w m v.X b.AK:=h.Af.own (.b .AK) ⟨trivial,by simp⟩;have o4:A7 w m v.S b.sn:=h.Af.own (.b .sn) ⟨trivial,by simp⟩;have o5:A7 w m v.F b.fr:=h.Af.own (.b .fr) ⟨trivial,by simp⟩;have hw:=heads .wk 72 wv v.W trivial rfl (fun hq=>by have:=E0 hq;simp at this);have hn:=heads (.b .AJ) 151 (nv.set c u) v.N ⟨trivial,by simp⟩ rfl (fun hq=>by have:=E0 hq;simp at this);have hr:=heads (.b .rws) 25 rv v.R ⟨trivial,by simp⟩ rfl (fun hq=>by have:=E0 hq;simp at this);rw[h.lw] at hw;rw[h.lh,h.ln,<-rH] at hn;rw[h.lr] at hr;refine⟨⟨?_,o1.rd,o2.rd,?_,o3.rd,o4.rd,o5.rd,?_⟩,⟨fun i=>wv.getD i AF,fun i=>(nv.set c u).getD i AF,fun i=>rv.getD i AF,?_,⟨?_,?_⟩,?_⟩,hge .wk _ trivial,hge (.b .AJ) _ ⟨trivial,by simp⟩,hge (.b .rws) _ ⟨trivial,by simp⟩⟩
 ·
  obtain⟨a,cap,e,h1⟩:=hw;refine⟨a,cap,e,?_⟩;rcases h1 with h1|⟨g,o,e1,e2,e3⟩
  . exact .inl (List.eq_nil_of_length_eq_zero h1)
  . exact .inr ⟨g,o,e1,e2,fun i hi=>⟨_,(e3 i hi).1,(show C7 w m (wv.getD i AF) (AA.getD i []) from h.Af.own (.wd i) (by show i<wv.length;rw[h.lw];exact hi)).Vi.rd⟩⟩
 ·
  obtain⟨a,cap,e,h1⟩:=hn;refine⟨a,cap,e,?_⟩;rcases h1 with h1|⟨g,o,e1,e2,e3⟩
  . exact .inl (List.eq_nil_of_length_eq_zero h1)
  ·
   refine .inr ⟨g,o,e1,e2,fun i hi=>⟨_,(e3 i hi).1,?_⟩⟩;show fZ w ((nv.set c u).getD i AF) ((b.AJ.set c r).getD i []);by_cases ei:i=c
   . subst ei;rw[uY,hNc];exact ru
   ·
    rw[uZ i ei,uV i ei];have hi2:i<nv.length:=by rw[h.ln,<-rH];exact hi
    exact Bp.rd Ds (show Bp cN 155 3 w m (nv.getD i AF) (b.AJ.getD i []) from h.Af.own (.b (.nt i)) ⟨hi2,by simp⟩)
 ·
  obtain⟨a,cap,e,h1⟩:=hr;refine⟨a,cap,e,?_⟩;rcases h1 with h1|⟨g,o,e1,e2,e3⟩
  . exact .inl (List.eq_nil_of_length_eq_zero h1)
  . exact .inr ⟨g,o,e1,e2,fun i hi=>⟨_,(e3 i hi).1,(show A7 w m (rv.getD i AF) (b.rws.getD i []) from h.Af.own (.b (.rw i)) ⟨by show i<rv.length;rw[h.lr];exact hi,by simp⟩).rd⟩⟩
 ·
  refine⟨hw,fun i hi=>Rw.RR (h.Af.own (.wd i) (by show i<wv.length;rw[h.lw];exact hi)),Rw.RR (h.Af.own (.b .AM) ⟨trivial,by simp⟩),Rw.RR (h.Af.own (.b .AO) ⟨trivial,by simp⟩),hn,
   fun i hi=>?_,Rw.RR (h.Af.own (.b .AK) ⟨trivial,by simp⟩),Rw.RR (h.Af.own (.b .sn) ⟨trivial,by simp⟩),Rw.RR (h.Af.own (.b .fr) ⟨trivial,by simp⟩),hr,
   fun i hi=>Rw.RR (h.Af.own (.b (.rw i)) ⟨by show i<rv.length;rw[h.lr];exact hi,by simp⟩)⟩
  show WH ((nv.set c u).getD i AF) ((b.AJ.set c r).getD i []).length;by_cases ei:i=c
  . subst ei;rw[uY,hNc];exact su
  ·
   rw[uZ i ei,uV i ei];have hi2:i<nv.length:=by rw[h.ln,<-rH];exact hi
   exact Rw.RR (h.Af.own (.b (.nt i)) ⟨hi2,by simp⟩)
 ·
  rintro y ⟨r',hr',hx⟩;rw[DY,List.mem_map] at hr';obtain⟨q,hq',rfl⟩:=hr';exact ((row q hq').2 y hx).1
 ·
  rw[DY,List.pairwise_map];refine List.Pairwise.imp_of_mem (R:=fun a b=>a≠b) (fun {p q} hp hq' hne y hx hy=>?_) (NS _ _ _);have a1:=((row p hp).2 y hx).2.2;have a2:=((row q hq').2 y hy).2.2;rcases h.Af.apart p q (row p hp).1 (row q hq').1 hne with ap|ap
  . rw[a1] at ap;cases ap
  . rw[a1,a2] at ap;exact ap rfl
 ·
  rintro y ⟨r',hr',hx⟩;rw[DY,List.mem_map] at hr';obtain⟨q,hq',rfl⟩:=hr';have:=(row q hq').2 y hx;exact⟨this.2.1,this.1.lt⟩
end
end
theorem ST {AA:List (List Dd)}{es:List Ev}{b:Bd}(c:Nat):Ao AA es b (10+(c:Int))=BG b c:=by
 unfold Ao;rw[if_pos (by omega)];have:(10+(c:Int)-10).toNat=c:=by omega
 rw[this]
theorem RB.any {AA:List (List Dd)}{b:Bd}(hb:Am AA b=true):RB AA b (fun _=>20) 20:=RB.of hb (Dq.of hb).nl (Dq.of hb).rl
def Ky (AA:List (List Dd)):List (List Dd):=if AL AA=true then AA else []
def M4 (AA:List (List Dd)):Bd:=if AL AA=true then Ci AA else Mj
def RV (AA:List (List Dd))(b:Bd)(s:Int):Bd:=if Mx (An AA b) s=true then Ao AA (AB AA) b s else b
def Md (AA:List (List Dd))(b:Bd):List (List Dd):=if Am AA b=true then AA else []
def JB (AA:List (List Dd))(b:Bd)(s:Int):Bd:=if Am AA b=true then RV AA b s else Mj
def Ps (AA:List (List Dd))(b:Bd)(s:Int):Bool:=Am AA b&&Mx (An AA b) s
abbrev jS (BZ:List (List Int))(i:Nat):Nat:=(BZ.getD i []).length
abbrev Y3 (V:Nat->Value)(BZ:List (List Int)):List (Value×Nat):=IX 1 V (jS BZ) BZ.length
structure WW (w:World)(m M:Nat)(v:Value)(BZ:List (List Int)):Prop where
 rd:ZS w v BZ
 ex:∃V:Nat->Value,fP w v V BZ.length (Hc (Y3 V BZ))/\(∀i,i<BZ.length->WH (V i) (jS BZ i))/\fV w (Y3 V BZ)/\∀x,Hc (Y3 V BZ) x->m<=x.block/\x.block<M
 hd:Zm v BZ.length m
theorem Ix {V:Nat->Value}{BZ:List (List Int)}{x:Addr}(h:Hc (Y3 V BZ) x):∃i,i<BZ.length/\Hb (V i) (jS BZ i) x:=by
 obtain⟨r,hr,hx⟩:=h;obtain⟨i,hi,rfl⟩:=(OH 1 V (jS BZ) _ _).1 hr;exact⟨i,hi,by rw[Nat.one_mul] at hx;exact hx⟩
theorem B0.free {w:World}{m:Nat}{v:Value}{hs:List Value}{xss:List (List Int)}(h:B0 25 BU w m v hs xss):WW w m w.heap.size v xss:=by
 have o0:(Dx 25 hs v).own w m:=h.Af.own none trivial;have oi:∀i,i<xss.length->(BU (xss.getD i []) (hs.getD i AF)).own w m:=fun i hi=>h.Af.own (some i) (show i<hs.length by rw[h.len];exact hi)
 have ni:∀i,i<xss.length->EG hs.length (some i):=fun i hi=>show i<hs.length by rw[h.len];exact hi
 have bl:∀i,i<xss.length->∀x,Hb (hs.getD i AF) (jS xss i) x->Wb w x/\m<=x.block/\(hs.getD i AF).ownBlock=some x.block:=fun i hi x hx=>Rw.wb (oi i hi) (n:=jS xss i) (by show (xss.getD i []).length<=(xss.getD i []).length*1;omega) hx
 obtain⟨a,c,e,H⟩:=Bj o0;refine⟨⟨a,c,by rw[<-h.len];exact e,?_⟩,⟨fun i=>hs.getD i AF,⟨a,c,by rw[<-h.len];exact e,?_⟩,fun i hi=>Rw.RR (oi i hi),⟨fun x hx=>?_,?_⟩,fun x hx=>?_⟩,?_⟩
 ·
  rcases H with H|⟨g,rfl,hg,hc⟩
  . exact .inl (List.eq_nil_of_length_eq_zero (by rw[<-h.len,H];rfl))
  . exact .inr ⟨g,0,rfl,hg,fun i hi=>⟨_,by rw[Nat.zero_add];exact hc i (by rw[h.len];exact hi),A7.rd (oi i hi)⟩⟩
 ·
  rcases H with H|⟨g,rfl,hg,hc⟩
  . exact .inl (by rw[<-h.len,H];rfl)
  ·
   refine .inr ⟨g,0,rfl,hg,fun i hi=>⟨by rw[Nat.zero_add];exact hc i (by rw[h.len];exact hi),fun hr=>?_⟩⟩;obtain⟨j,hj,hx⟩:=Ix hr;have q:=(bl j hj _ hx).2.2;rcases h.Af.apart (some j) none (ni j hj) trivial (by simp) with h1|h1
   . rw[show (KF 25 BU v hs xss (some j)).v=hs.getD j AF from rfl,q] at h1;cases h1
   . exact h1 (by rw[show (KF 25 BU v hs xss (some j)).v=hs.getD j AF from rfl,q,show (KF 25 BU v hs xss none).v=v from rfl,e];rfl)
 ·
  obtain⟨i,hi,q⟩:=Ix hx;exact (bl i hi x q).1
 ·
  rw[show Y3 (fun i=>hs.getD i AF) xss=(List.range xss.length).map (fun i=>(hs.getD i AF,1*jS xss i)) from KO 1 _ _ _,List.pairwise_map];refine (List.nodup_range (n:=xss.length)).imp_of_mem ?_;intro i j hi hj hne x hx hy;rw[Nat.one_mul] at hx hy;have hi:=List.mem_range.1 hi;have hj:=List.mem_range.1 hj;have q1:=(bl i hi x hx).2.2;have q2:=(bl j hj x hy).2.2;rcases h.Af.apart (some i) (some j) (ni i hi) (ni j hj) (by simpa using hne) with h1|h1
  . rw[show (KF 25 BU v hs xss (some i)).v=hs.getD i AF from rfl,q1] at h1;cases h1
  . exact h1 (by rw[show (KF 25 BU v hs xss (some i)).v=hs.getD i AF from rfl,q1,show (KF 25 BU v hs xss (some j)).v=hs.getD j AF from rfl,q2])
 ·
  obtain⟨i,hi,q⟩:=Ix hx;have q1:=bl i hi x q;exact⟨q1.2.1,q1.1.lt⟩
 ·
  intro b o l c' e' hn;have:=h.Af.lt (i:=none) trivial b (by show v.ownBlock=some b;rw[e'];rfl);exact this.1
theorem Yk {d:Dd}(h:Eu d=true):d.1=1\/d.1=2\/d.1=3\/d.1=4:=by
 simp[Eu,Dn] at h;omega
theorem Vd {d:Dd}(h:Eu d=true):0<=d.2.2.2/\d.2.2.2<=9:=by
 simp[Eu,Dn] at h;omega
theorem Jc (w:World)(v:Value)(AA:List (List Dd))(h:Fo w v AA)(hx:AA.length<=3)(hok:∀i,i<AA.length->FP (AA.getD i [])=true):
  Calls Tryz.prog 71 #[v] w fun e w'=>e = .returned (.int .i64 (Qb AA AA.length))/\AC w w':=by
 obtain⟨a,c,rfl,h⟩:=h;go_enter Tryz.func71,Tryz.ntmps71
 go_wp2;go_loopw [3,4] (fun n i wr=>∃k:Nat,∃m:Int,k<=AA.length/\n = .int .i64 m/\i = .int .i64 k/\Hid (m=Qb AA k)/\0<=m/\m<=10*k/\AC w wr) (fun _ i _=>AA.length-(intOf i).toNat)
 case atStart=>exact⟨0,0,Nat.zero_le _,rfl,rfl,Lib.hid rfl,by omega,by omega,AC.refl _⟩
 case round=>
  obtain⟨k,m,hk,rfl,rfl,hm,m0,m1,hK⟩:=hrel;by_cases hlt:k<AA.length
  ·
   rcases h with h|⟨b,o,rfl,hb,hc⟩
   . exfalso;rw[h] at hlt;simp at hlt
   obtain⟨u,e1,r1⟩:=hc k hlt;have d1:=(hK.cell hb).trans e1;have r1:=r1.keep hK;have LS:=hok k hlt;clear hc e1 hok;obtain⟨ds,hds⟩:∃ds,ds=AA.getD k []:=⟨_,rfl⟩;have Kq:=Lib.hid hds;rw[<-hds] at r1 LS;clear hds;obtain⟨ai,ci,rfl,r1⟩:=r1;have i1:(0:Int)<=(k:Int):=Int.natCast_nonneg _;have i2:(k:Int)<(AA.length:Int):=by omega
   have hl5:ds.length<=5:=by simp[FP] at LS;omega
   have hbw:b<wr.heap.size:=Nat.lt_of_lt_of_le hb hK.size;go_wp2;obtain⟨wo,hwo⟩:∃wo:World,wo=wr:=⟨_,rfl⟩;subst hwo;go_loopw [3,5] (fun n i wq=>∃q:Nat,∃t:Int,q<=ds.length/\n = .int .i64 t/\i = .int .i64 q/\Hid (t=m+Nf ds q)/\0<=t/\t<=10*k+2*q/\AC wo wq) (fun _ i _=>ds.length-(intOf i).toNat)
   case atStart=>exact⟨0,m,Nat.zero_le _,rfl,rfl,Lib.hid (by simp[Nf]),by omega,by omega,AC.refl _⟩
   case round=>
    obtain⟨q,t,hq,rfl,rfl,ht,t0,t1,hQ⟩:=hrel;have d1:=(hQ.cell hbw).trans d1;have hbq:b<wr.heap.size:=Nat.lt_of_lt_of_le hbw hQ.size;by_cases hlq:q<ds.length
    ·
     rcases r1 with h|⟨b2,o2,rfl,hb2,hc2⟩
     . exfalso;rw[h] at hlq;simp at hlq
     have AT:=(hc2 q hlq).keep hb2 hQ
     have UG:Eu (ds.getD q zD)=true:=by
      simp only[FP,Bool.and_eq_true] at LS;exact Be zD LS.1 q hlq
     clear hc2 LS;have hb3:b2<wr.heap.size:=Nat.lt_of_lt_of_le hb2 hQ.size;have l9:Hid (t+SO (ds.getD q zD)=m+Nf ds (q+1)):=Lib.hid (by rw[Nf,ht.out];omega);clear ht;obtain⟨d,hd⟩:∃d,d=ds.getD q zD:=⟨_,rfl⟩;rw[<-hd] at AT UG l9;clear hd;have KD:=Yk UG;obtain⟨x0,x1,x2,x3⟩:=d;obtain⟨A0,-,-,-⟩:=AT;simp only at A0 KD;have j1:(0:Int)<=(q:Int):=Int.natCast_nonneg _;have j2:(q:Int)<(ds.length:Int):=by omega
     rcases KD with rfl|rfl|rfl|rfl
     all_goals
      go_wp2;go_roundw;case rel=>exact⟨q+1,_,by omega,rfl,by go_num,Lib.hid (by have:=l9.out;simp[SO] at this;omega),by omega,by omega,hQ.alloc _⟩
      case measure=>simp[intOf];omega
    ·
     obtain rfl:q=ds.length:=by omega
     go_wp2;go_roundw;case rel=>exact⟨k+1,t,by omega,rfl,by go_num,Lib.hid (by rw[Qb,<-Kq.out,ht.out,hm.out]),t0,by omega,hK.trans hQ⟩
     case measure=>simp[intOf];omega
  ·
   obtain rfl:k=AA.length:=by omega
   go_wp2;go_ret;exact⟨by rw[hm.out];rfl,hK⟩
theorem Qu:(madeCells (Value.int .i64 0).cells (10*1)).toList=((List.replicate 10 (0:Int)).map (Value.int .i64)):=by
 rw[Nat.mul_one,List.map_replicate];exact toList_madeCells_one _ _
theorem X8 {i:Nat}{own o:List Int}{ds:List Dd}{k:Nat}(h:Ch i own ds k=some o)(hg:(ds.getD k zD).2.2.2=0):Ch i own ds (k+1)=some o:=by
 rw[Ch,h];simp only[hg,if_true]
theorem bA {i:Nat}{own o:List Int}{ds:List Dd}{k:Nat}(h:Ch i own ds k=some o)(hg:(ds.getD k zD).2.2.2≠0)
  (hb:o.getD (ds.getD k zD).2.2.2.toNat 0≠0/\(o.getD (ds.getD k zD).2.2.2.toNat 0≠(i:Int)+1\/k=0\/(ds.getD (k-1) zD).2.2.2≠(ds.getD k zD).2.2.2)):Ch i own ds (k+1)=none:=by
 rw[Ch,h];simp only;rw[if_neg hg,if_pos hb]
theorem bB {i:Nat}{own o:List Int}{ds:List Dd}{k:Nat}(h:Ch i own ds k=some o)(hg:(ds.getD k zD).2.2.2≠0)
  (hb:¬(o.getD (ds.getD k zD).2.2.2.toNat 0≠0/\(o.getD (ds.getD k zD).2.2.2.toNat 0≠(i:Int)+1\/k=0\/(ds.getD (k-1) zD).2.2.2≠(ds.getD k zD).2.2.2))):
  Ch i own ds (k+1)=some (o.set (ds.getD k zD).2.2.2.toNat ((i:Int)+1)):=by
 rw[Ch,h];simp only;rw[if_neg hg,if_neg hb]
theorem Ou {AA:List (List Dd)}{k:Nat}{own:List Int}(hk:k<AA.length)(h:EF AA k=some own){q:Nat}(hq:q<=(AA.getD k []).length)(hn:Ch k own (AA.getD k []) q=none):JW AA=false:=by
 have h1:EF AA (k+1)=none:=by
  rw[EF,h];exact J5 hn _ hq
 rw[JW,J6 h1 _ hk];rfl
theorem PL (w:World)(v:Value)(AA:List (List Dd))(h:Fo w v AA)(hx:AA.length<=3)(hok:∀i,i<AA.length->FP (AA.getD i [])=true):
  Calls Tryz.prog 72 #[v] w fun e w'=>e = .returned (.bool (JW AA))/\AC w w':=by
 obtain⟨a,c,rfl,h⟩:=h;obtain⟨i0,hi,hz0,hz1,hz2⟩:=info_parts Tryz.FA;go_enter Tryz.func72,Tryz.ntmps72
 go_wp2_with (at_make;refine wpList_make_full _ rfl _ _ 25 rfl w.heap.size 2 i0 (.int .i64 0) 1 Tryz.underlying25 hi hz0 hz1 .i64 .i64 _ _ 10 rfl rfl rfl rfl (by rw[hz2];omega) (by unfold maxLen;omega) (Nat.le_refl _) ?_;intro w1 hown hgrow)
 have k1:AC w w1:=(AC.refl w).grown hgrow (by simp)
 have rb:DE w1 w.heap.size (List.replicate 10 0):=by
  have o:A7 w1 w.heap.size (.slice (some ⟨w.heap.size,0,none⟩) 10 10) (List.replicate 10 0):=by
   rw[Qu] at hown;unfold A7;simpa using hown
  rcases o.row with ⟨e,_⟩|⟨g,cap,e,_,hr⟩
  . cases e
  ·
   have e1:=congrArg Value.ownBlock e;simp[Value.ownBlock] at e1;rw[e1];exact hr
 clear hgrow hown hi hz0 hz1 hz2;go_loopw [4] (fun i wr=>∃k:Nat,∃own:List Int,k<=AA.length/\i = .int .i64 k/\Hid (EF AA k=some own)/\DE wr w.heap.size own/\AC w wr) (fun i _=>AA.length-(intOf i).toNat)
 case atStart=>exact⟨0,List.replicate 10 0,Nat.zero_le _,rfl,Lib.hid rfl,rb,k1⟩
 case round=>
  obtain⟨k,own,hk,rfl,hG,hR,hK⟩:=hrel;clear rb k1;by_cases hlt:k<AA.length
  ·
   rcases h with h|⟨b,o,rfl,hb,hc⟩
   . exfalso;rw[h] at hlt;simp at hlt
   obtain⟨u,e1,r1⟩:=hc k hlt;have LS:=hok k hlt;clear hc hok;obtain⟨ds,hds⟩:∃ds,ds=AA.getD k []:=⟨_,rfl⟩;have Kq:=Lib.hid hds;rw[<-hds] at r1 LS;clear hds;obtain⟨ai,ci,rfl,r1⟩:=r1;have d1:=(hK.cell hb).trans e1;have i1:(0:Int)<=(k:Int):=Int.natCast_nonneg _;have i2:(k:Int)<(AA.length:Int):=by omega
   have hl5:ds.length<=5:=by simp[FP] at LS;omega
   go_wp2;go_loopw [5] (fun i wq=>∃q:Nat,∃ow:List Int,q<=ds.length/\i = .int .i64 q/\Hid (Ch k own ds q=some ow)/\DE wq w.heap.size ow/\AC w wq) (fun i _=>ds.length-(intOf i).toNat)
   case atStart=>exact⟨0,own,Nat.zero_le _,rfl,Lib.hid rfl,hR,hK⟩
   case round=>
    obtain⟨q,ow,hq,rfl,hQ,hS,hL⟩:=hrel;have d1:=(hL.cell hb).trans e1;by_cases hlq:q<ds.length
    ·
     rcases r1 with h|⟨b2,o2,rfl,hb2,hc2⟩
     . exfalso;rw[h] at hlq;simp at hlq
     have A3:=((hc2 q hlq).keep hb2 hL).2.2.2
     have UG:Eu (ds.getD q zD)=true:=by
      simp only[FP,Bool.and_eq_true] at LS;exact Be zD LS.1 q hlq
     have g09:0<=(ds.getD q zD).2.2.2/\(ds.getD q zD).2.2.2<=9:=Vd UG;clear LS UG;have AP:0<q->wr.cell? ⟨b2,o2+(q-1)*4+3,none⟩=some (.int .i64 (ds.getD (q-1) zD).2.2.2):=fun _=>((hc2 (q-1) (by omega)).keep hb2 hL).2.2.2
     clear hc2;have S1:=@X8 k own ow ds q hQ.out;have S2:=@bA k own ow ds q hQ.out;have S3:=@bB k own ow ds q hQ.out;have hlen:ow.length=10:=(JX hQ.out).trans (Lx hG.out);clear hQ;obtain⟨g,hg⟩:∃g:Nat,(ds.getD q zD).2.2.2=(g:Int):=⟨_,(Int.toNat_of_nonneg g09.1).symm⟩;rw[hg] at A3 g09 S1 S2 S3;rw[Int.toNat_natCast] at S2 S3;clear hg;have hg9:g<10:=by omega
     obtain⟨p,hp⟩:∃p:Int,p=(ds.getD (q-1) zD).2.2.2:=⟨_,rfl⟩;rw[<-hp] at AP S2 S3;clear hp;have YA:=hS.cell (j:=g) (by omega);obtain⟨y,hy⟩:∃y:Int,y=ow.getD g 0:=⟨_,rfl⟩;rw[<-hy] at YA S2 S3;clear hy g09;have j1:(0:Int)<=(q:Int):=Int.natCast_nonneg _;have j2:(q:Int)<(ds.length:Int):=by omega
     have j3:(0:Int)<=(g:Int):=Int.natCast_nonneg _;have j4:(g:Int)<10:=by omega
     have hbq:b<wr.heap.size:=Nat.lt_of_lt_of_le hb hL.size;have hb3:b2<wr.heap.size:=Nat.lt_of_lt_of_le hb2 hL.size;by_cases g0:g=0
     ·
      have eg:((g:Int)==0)=true:=by simp[g0]
      have HE:=Lib.hid (S1 (by omega));clear S1 S2 S3 AP;go_wp2;go_roundw;case rel=>exact⟨q+1,ow,by omega,by go_num,HE,hS,hL⟩
      case measure=>simp[intOf];omega
     ·
      have HN:Hid ((g:Int)≠0):=Lib.hid (by omega);have eg:((g:Int)==0)=false:=by simp;omega
      have hF:=hS.free g;clear S1;by_cases y0:y=0
      ·
       subst y0;have HE:=Lib.hid (S3 HN.out (by simp));clear S2 S3 AP;go_wp2;go_roundw;case rel=>exact⟨q+1,_,by omega,by go_num,HE,hS.set g _,hL.set (Nat.le_refl _) g _⟩
       case measure=>simp[intOf];omega
      ·
       have ey:(y != 0)=true:=by simp[y0]
       by_cases yk:y=(k:Int)+1
       ·
        subst yk;have ek:((k:Int)+1 != (k:Int)+1)=false:=by simp
        by_cases q0:q=0
        ·
         have eq:((q:Int)==0)=true:=by simp[q0]
         have HE:Hid (JW AA=false):=Lib.hid (Ou hlt hG.out (q:=q+1) (by rw[<-Kq.out];omega) (by rw[<-Kq.out];exact S2 HN.out ⟨y0,.inr (.inl q0)⟩));clear S2 S3 AP y0 q0;go_wp2;go_ret;exact⟨by rw[HE.out];rfl,hL⟩
        ·
         have eq:((q:Int)==0)=false:=by simp;omega
         have AP:=AP (by omega);obtain⟨r,rfl⟩:∃r:Nat,q=r+1:=⟨q-1,by omega⟩;rw[Nat.add_sub_cancel] at AP;have j5:(0:Int)<=(r:Int):=Int.natCast_nonneg _;have j6:(r:Int)<(ds.length:Int):=by omega
         by_cases pg:p=(g:Int)
         ·
          subst pg;have ep:((g:Int) != (g:Int))=false:=by simp
          have HE:=Lib.hid (S3 HN.out (by simp));clear S2 S3 y0;go_wp2;go_roundw;case rel=>exact⟨r+1+1,_,by omega,by go_num,HE,hS.set g _,hL.set (Nat.le_refl _) g _⟩
          case measure=>simp[intOf];omega
         ·
          have ep:(p != (g:Int))=true:=by simp[pg]
          have HE:Hid (JW AA=false):=Lib.hid (Ou hlt hG.out (q:=r+1+1) (by rw[<-Kq.out];omega) (by rw[<-Kq.out];exact S2 HN.out ⟨y0,.inr (.inr pg)⟩));clear S2 S3 y0 pg;go_wp2;go_ret;exact⟨by rw[HE.out];rfl,hL⟩
       ·
        have ek:(y != (k:Int)+1)=true:=by simp[yk]
        have HE:Hid (JW AA=false):=Lib.hid (Ou hlt hG.out (q:=q+1) (by rw[<-Kq.out];omega) (by rw[<-Kq.out];exact S2 HN.out ⟨y0,.inl yk⟩));clear S2 S3 AP yk y0;go_wp2;go_ret;exact⟨by rw[HE.out];rfl,hL⟩
    ·
     obtain rfl:q=ds.length:=by omega
     go_wp2;go_roundw;case rel=>exact⟨k+1,ow,by omega,by go_num,Lib.hid (by rw[EF,hG.out,<-Kq.out];exact hQ.out),hS,hL⟩
     case measure=>simp[intOf];omega
  ·
   obtain rfl:k=AA.length:=by omega
   go_wp2;go_ret;exact⟨by rw[JW,hG.out];rfl,hK⟩
theorem OQ {α:Type}(l:List α)(k:Nat)(z:α)(h:k<l.length):l.take (k+1)=l.take k++[l.getD k z]:=by
 rw[List.take_add_one,List.getElem?_eq_getElem h,List.getD_eq_getElem?_getD,List.getElem?_eq_getElem h];rfl
theorem QJ {α:Type}{f:α->Bool}{l:List α}{k:Nat}(z:α)(h:k<l.length)(h1:(l.take k).all f=true)(h2:f (l.getD k z)=true):(l.take (k+1)).all f=true:=by
 rw[OQ l k z h,List.all_append,h1];rw[List.all_cons,h2];rfl
theorem Nr (d:List Dd):∀l:List (List Dd),Bs (l++[d])=Bs l+d.length
 | []=>by simp[Bs]
 |x::r=>by rw[List.cons_append,Bs,Bs,Nr d r];omega
theorem OS {AA:List (List Dd)}{k:Nat}(hk:k<AA.length)(h:FP (AA.getD k [])=false):AL AA=false:=by
 rw[AL,Oh [] k hk h];simp
theorem Ma (w:World)(v:Value)(AA:List (List Dd))(h:Fo w v AA)(hx:AA.length<=1048576)(hm:∀i,i<AA.length->(AA.getD i []).length<=1048576):
  Calls Tryz.prog 37 #[v] w fun e w'=>e = .returned (.bool (AL AA))/\AC w w':=by
 have RW:=h;obtain⟨a,c,rfl,h⟩:=h;cases hb:CJ (AA.length:Int) 1 3
 ·
  have HE:Hid (AL AA=false):=by
   refine Lib.hid ?_;simp[CJ] at hb;rw[AL,decide_eq_false (by omega)];rfl
  go_enter Tryz.func37,Tryz.ntmps37
  go_wp2_with (go_at_call 69;refine (Fe _ _ _ _).mono ?_;rintro e w' ⟨rfl,rfl⟩)
  go_ret;exact⟨by rw[HE.out];rfl,AC.refl _⟩
 ·
  have h13:1<=AA.length/\AA.length<=3:=by simp[CJ] at hb;omega
  have zA:=Lib.hid h13;have h3:=h13.2;clear h13;go_enter Tryz.func37,Tryz.ntmps37
  go_wp2_with (go_at_call 69;refine (Fe _ _ _ _).mono ?_;rintro e w' ⟨rfl,rfl⟩)
  clear hb;go_loopw [3,4] (fun n i wr=>∃k m:Nat,k<=AA.length/\n = .int .i64 m/\i = .int .i64 k/\Hid (m=Bs (AA.take k)/\(AA.take k).all FP=true)/\m<=5*k/\AC w' wr) (fun _ i _=>AA.length-(intOf i).toNat)
  case atStart=>exact⟨0,0,Nat.zero_le _,rfl,rfl,Lib.hid (by simp[Bs]),by omega,AC.refl _⟩
  case round=>
   obtain⟨k,m,hk,rfl,rfl,hM,m5,hK⟩:=hrel;by_cases hlt:k<AA.length
   ·
    rcases h with h|⟨b,o,rfl,hb,hc⟩
    . exfalso;rw[h] at hlt;simp at hlt
    obtain⟨u,e1,r1⟩:=hc k hlt;have hmk:=hm k hlt;clear hc hm RW;obtain⟨ds,hds⟩:∃ds,ds=AA.getD k []:=⟨_,rfl⟩;have Kq:=Lib.hid hds;rw[<-hds] at r1 hmk;clear hds;obtain⟨ai,ci,rfl,r1⟩:=r1;have d1:=(hK.cell hb).trans e1;have i1:(0:Int)<=(k:Int):=Int.natCast_nonneg _;have i2:(k:Int)<(AA.length:Int):=by omega
    go_wp2;go_loopw [5] (fun i wq=>∃q:Nat,q<=ds.length/\i = .int .i64 q/\Hid ((ds.take q).all Eu=true)/\AC w' wq) (fun i _=>ds.length-(intOf i).toNat)
    case atStart=>exact⟨0,Nat.zero_le _,rfl,Lib.hid (by simp),hK⟩
    case round=>
     obtain⟨q,hq,rfl,hQ,hL⟩:=hrel;have d1:=(hL.cell hb).trans e1;by_cases hlq:q<ds.length
     ·
      rcases r1 with h|⟨b2,o2,rfl,hb2,hc2⟩
      . exfalso;rw[h] at hlq;simp at hlq
      have AT:=(hc2 q hlq).keep hb2 hL;clear hc2;have hbq:b<wr.heap.size:=Nat.lt_of_lt_of_le hb hL.size;have hb3:b2<wr.heap.size:=Nat.lt_of_lt_of_le hb2 hL.size;have j1:(0:Int)<=(q:Int):=Int.natCast_nonneg _;have j2:(q:Int)<(ds.length:Int):=by omega
      have HT:Eu (ds.getD q zD)=true->Hid ((ds.take (q+1)).all Eu=true):=fun e=>Lib.hid (QJ zD hlq hQ.out e)
      have HF:Eu (ds.getD q zD)=false->Hid (AL AA=false):=fun e=>Lib.hid (OS hlt (by rw[<-Kq.out,FP,Oh zD q hlq e];rfl))
      clear hQ;obtain⟨d,hd⟩:∃d,d=ds.getD q zD:=⟨_,rfl⟩;rw[<-hd] at AT HT HF;clear hd;obtain⟨x0,x1,x2,x3⟩:=d;obtain⟨A0,A1,A2,A3⟩:=AT;simp only at A0 A1 A2 A3;unfold Eu at HT HF;simp only at HT HF;cases hd:Dn x0 x1 x2 x3
      ·
       have HE:=HF hd;clear HT HF;go_wp2_with fail
       refine (Hf _ _ _ _ _).mono ?_;rintro e wz ⟨rfl,kk⟩;go_wp2;go_ret;exact⟨by rw[HE.out];rfl,hL.trans kk⟩
      ·
       have HE:=HT hd;clear HT HF;go_wp2_with fail
       refine (Hf _ _ _ _ _).mono ?_;rintro e wz ⟨rfl,kk⟩;go_wp2;go_roundw;case rel=>exact⟨q+1,by omega,by go_num,HE,hL.trans kk⟩
       case measure=>simp[intOf];omega
     ·
      obtain rfl:q=ds.length:=by omega
      rw[List.take_length] at hQ;by_cases h5:ds.length<=5
      ·
       have HE:Hid (m+ds.length=Bs (AA.take (k+1))/\(AA.take (k+1)).all FP=true):=by
        refine Lib.hid ⟨?_,QJ [] hlt hM.out.2 (by rw[<-Kq.out,FP,hQ.out];simp[h5])⟩;rw[OQ AA k [] hlt,Nr,<-Kq.out,hM.out.1]
       go_wp2;go_roundw;case rel=>exact⟨k+1,m+ds.length,by omega,by go_num,by go_num,HE,by omega,hL⟩
       case measure=>simp[intOf];omega
      ·
       have HE:Hid (AL AA=false):=Lib.hid (OS hlt (by rw[<-Kq.out,FP];simp;omega));go_wp2;go_ret;exact⟨by rw[HE.out];rfl,hL⟩
   ·
    obtain rfl:k=AA.length:=by omega
    rw[List.take_length] at hM;have sH:∀i,i<AA.length->FP (AA.getD i [])=true:=fun i hi=>Be [] hM.out.2 i hi
    have HW:Hid (AL AA=(decide (m<=12)&&decide (Qb AA AA.length<=6)&&JW AA)):=by
     refine Lib.hid ?_;rw[AL,decide_eq_true zA.out,hM.out.2,hM.out.1];rfl
    have rw1:=RW.keep hK;clear hM RW h hm;by_cases h12:m<=12
    ·
     have e12:decide ((m:Int)<=12)=true:=by simp;omega
     by_cases h6:Qb AA AA.length<=6
     ·
      have HE:Hid (AL AA=JW AA):=Lib.hid (by rw[HW.out];simp[h12,h6]);go_wp2_with fail
      refine (Jc _ _ _ rw1 h3 sH).mono ?_;rintro e wz ⟨rfl,kk⟩;have rw2:=rw1.keep kk;go_wp2_with fail
      refine (PL _ _ _ rw2 h3 sH).mono ?_;rintro e wy ⟨rfl,k2⟩;go_wp2;go_ret;exact⟨by rw[HE.out];rfl,(hK.trans kk).trans k2⟩
     ·
      have HE:Hid (AL AA=false):=Lib.hid (by rw[HW.out];simp[h6]);go_wp2_with fail
      refine (Jc _ _ _ rw1 h3 sH).mono ?_;rintro e wz ⟨rfl,kk⟩;go_wp2;go_ret;exact⟨by rw[HE.out];rfl,hK.trans kk⟩
    ·
     have HE:Hid (AL AA=false):=Lib.hid (by rw[HW.out];simp[h12]);go_wp2;go_ret;exact⟨by rw[HE.out];rfl,hK⟩
section
abbrev dC (k p v g:Int):Obj:= .cells #[.int .i64 k,.int .i64 p,.int .i64 v,.int .i64 g] 82
abbrev eC (i k:Int)(r:Bool)(p v c:Int):Obj:= .cells #[.int .i64 i,.int .i64 k,.bool r,.int .i64 p,.int .i64 v,.int .i64 c] 85
structure fU (w wr:World)(F:Nat)(out:Value)(es:List Ev)(f:List Int):Prop where
 app:IG wr w.heap.size out es
 row:DE wr F f
 keep:AC w wr
 hF:w.heap.size<=F
 oF:out.ownBlock≠some F
structure GK (w wr:World)(F D X:Nat)(out:Value)(es:List Ev)(f:List Int)(k p v g:Int)(i q:Int)(r:Bool)(pl vl c:Int):Prop where
 l:fU w wr F out es f
 box:wr.heap[D]? = some (dC k p v g)
 ev:wr.heap[X]? = some (eC i q r pl vl c)
 hD:w.heap.size<=D
 hX:w.heap.size<=X
 DX:D≠X
 FD:F≠D
 FX:F≠X
 oD:out.ownBlock≠some D
 oX:out.ownBlock≠some X
theorem fU.more {w wr wr':World}{F:Nat}{out:Value}{es:List Ev}{f:List Int}(h:fU w wr F out es f)(k:AC wr wr'):fU w wr' F out es f:=
 ⟨h.app.keep k,h.row.keep k,h.keep.trans k,h.hF,h.oF⟩
theorem fU.boxes {w wr:World}{F:Nat}{out:Value}{es:List Ev}{f:List Int}(h:fU w wr F out es f)(k p v g i q:Int)(r:Bool)(pl vl c:Int):
  GK w ((wr.alloc (dC k p v g)).alloc (eC i q r pl vl c)) F wr.heap.size (wr.heap.size+1) out es f k p v g i q r pl vl c:=by
 have hs:=h.keep.size;have hR:=h.row.lt;have hl:=h.app.lt;have z:(wr.alloc (dC k p v g)).heap.size=wr.heap.size+1:=AD wr _;refine⟨h.more (((AC.refl wr).alloc _).alloc _),?_,?_,hs,by omega,by omega,by omega,by omega,fun e=>?_,fun e=>?_⟩
 . rw[Bt,if_neg (by rw[z];omega),Bt,if_pos rfl]
 . rw[Bt,if_pos z.symm]
 . have:=(hl _ e).2;omega
 . have:=(hl _ e).2;omega
variable {w wr:World} {F D X:Nat} {out:Value} {es:List Ev} {f:List Int} {k p v g i q pl vl c:Int} {r:Bool}
theorem GK.more {wr':World}(h:GK w wr F D X out es f k p v g i q r pl vl c)(kk:AC wr wr'):GK w wr' F D X out es f k p v g i q r pl vl c:=
 ⟨h.l.more kk,(Below.block kk D (Array.getElem?_eq_some_iff.1 h.box).1).trans h.box,(Below.block kk X (Array.getElem?_eq_some_iff.1 h.ev).1).trans h.ev,h.hD,h.hX,h.DX,h.FD,h.FX,h.oD,h.oX⟩
theorem GK.lt (h:GK w wr F D X out es f k p v g i q r pl vl c):D<wr.heap.size/\X<wr.heap.size/\F<wr.heap.size:=
 ⟨(Array.getElem?_eq_some_iff.1 h.box).1,(Array.getElem?_eq_some_iff.1 h.ev).1,h.l.row.lt⟩
theorem GK.deed (h:GK w wr F D X out es f k p v g i q r pl vl c):
  wr.cell? ⟨D,0,none⟩=some (.int .i64 k)/\wr.cell? ⟨D,1,none⟩=some (.int .i64 p)/\wr.cell? ⟨D,2,none⟩=some (.int .i64 v)/\wr.cell? ⟨D,3,none⟩=some (.int .i64 g):=
 ⟨cell_of_row wr D 0 _ _ (0,0) h.box,cell_of_row wr D 1 _ _ (0,0) h.box,cell_of_row wr D 2 _ _ (0,0) h.box,cell_of_row wr D 3 _ _ (0,0) h.box⟩
theorem GK.event (h:GK w wr F D X out es f k p v g i q r pl vl c):
  wr.cell? ⟨X,0,none⟩=some (.int .i64 i)/\wr.cell? ⟨X,1,none⟩=some (.int .i64 q)/\wr.cell? ⟨X,2,none⟩=some (.bool r)/\wr.cell? ⟨X,3,none⟩=some (.int .i64 pl)/\wr.cell? ⟨X,4,none⟩=some (.int .i64 vl)/\wr.cell? ⟨X,5,none⟩=some (.int .i64 c):=
 ⟨cell_of_row wr X 0 _ _ (0,0) h.ev,cell_of_row wr X 1 _ _ (0,0) h.ev,cell_of_row wr X 2 _ _ (0,0) h.ev,cell_of_row wr X 3 _ _ (0,0) h.ev,cell_of_row wr X 4 _ _ (0,0) h.ev,cell_of_row wr X 5 _ _ (0,0) h.ev⟩
theorem GK.free (h:GK w wr F D X out es f k p v g i q r pl vl c)(j:Nat):wr.frozen? ⟨X,j,none⟩=false:=frozen_of_row wr X j _ _ h.ev
theorem GK.jl (h:GK w wr F D X out es f k p v g i q r pl vl c)(j:Nat)(x:Value){r':Bool}{pl' vl' c':Int}
  (he:(wr.setCell ⟨X,j,none⟩ x).heap[X]? = some (eC i q r' pl' vl' c')):GK w (wr.setCell ⟨X,j,none⟩ x) F D X out es f k p v g i q r' pl' vl' c':=by
 have hg:=Ac wr X j x;have a:=h.l;refine⟨⟨a.app.kept hg (.inr h.oX),a.row.kept hg (by simp;exact fun e=>h.FX e.symm),a.keep.grown hg (by simp;exact h.hX),a.hF,a.oF⟩,(hg.block D h.lt.1 (by simp;exact h.DX)).trans h.box,he,h.hD,h.hX,h.DX,h.FD,h.FX,h.oD,h.oX⟩
theorem GK.set2 (h:GK w wr F D X out es f k p v g i q r pl vl c)(x:Bool):GK w (wr.setCell ⟨X,2,none⟩ (.bool x)) F D X out es f k p v g i q x pl vl c:=
 h.jl 2 _ (by rw[heap_setCell_same wr X 2 _ _ _ h.ev];rfl)
theorem GK.set4 (h:GK w wr F D X out es f k p v g i q r pl vl c)(x:Int):GK w (wr.setCell ⟨X,4,none⟩ (.int .i64 x)) F D X out es f k p v g i q r pl x c:=
 h.jl 4 _ (by rw[heap_setCell_same wr X 4 _ _ _ h.ev];rfl)
theorem GK.set5 (h:GK w wr F D X out es f k p v g i q r pl vl c)(x:Int):GK w (wr.setCell ⟨X,5,none⟩ (.int .i64 x)) F D X out es f k p v g i q r pl vl x:=
 h.jl 5 _ (by rw[heap_setCell_same wr X 5 _ _ _ h.ev];rfl)
theorem GK.qC (h:GK w wr F D X out es f k p v g i q r pl vl c)(j:Nat)(x:Int):GK w (wr.setCell ⟨F,j,none⟩ (.int .i64 x)) F D X out es (f.set j x) k p v g i q r pl vl c:=by
 have hg:=Ac wr F j (.int .i64 x);have a:=h.l;exact⟨⟨a.app.kept hg (.inr a.oF),a.row.set j x,a.keep.grown hg (by simp;exact a.hF),a.hF,a.oF⟩,(hg.block D h.lt.1 (by simp;exact fun e=>h.FD e.symm)).trans h.box,(hg.block X h.lt.2.1 (by simp;exact fun e=>h.FX e.symm)).trans h.ev,h.hD,h.hX,h.DX,h.FD,h.FX,h.oD,h.oX⟩
theorem GK.hit (h:GK w wr F D X out es f k p v g i q r pl vl c){o:Obj}{v':Value}{w':World}(e:Ev)
  (ho:w'.ownsRow w.heap.size 85 6 v' (es.length+1) (es.flatMap cE++cE e)) (hg:(wr.alloc o).grownBy w' out.ownBlock) (hb:v'.ownBlock=out.ownBlock\/v'.ownBlock=some (wr.heap.size+1)):
  GK w w' F D X v' (es++[e]) f k p v g i q r pl vl c:=by
 have h1:=h.more ((AC.refl wr).alloc o);obtain⟨a1,a2,a3⟩:=h1.lt
 have apart:∀n,n<(wr.alloc o).heap.size->out.ownBlock≠some n->v'.ownBlock≠some n:=fun n hn hne e=>by
  rcases hb with hb|hb
  . exact hne (hb ▸ e)
  . rw[hb] at e;have:=Option.some.inj e;rw[AD] at hn;omega
 exact⟨⟨JJ ho,h1.l.row.kept hg h1.l.oF,h1.l.keep.grown hg h1.l.app.ge,h1.l.hF,apart F a3 h1.l.oF⟩,(hg.block D a1 (fun e=>h1.oD e.symm)).trans h1.box,(hg.block X a2 (fun e=>h1.oX e.symm)).trans h1.ev,h1.hD,h1.hX,h1.DX,h1.FD,h1.FX,apart D a1 h1.oD,apart X a2 h1.oX⟩
theorem Li (e:Ev):∀u∈cE e,u.oneCell'=true:=by
 intro u hu;simp only[cE,List.mem_cons,List.not_mem_nil,or_false] at hu;rcases hu with rfl|rfl|rfl|rfl|rfl|rfl<;>rfl
theorem Lh (w:World)(i q:Int)(r:Bool)(pl vl c:Int):∀j u,(cE (i,q,r,pl,vl,c))[j]? = some u->(w.alloc (eC i q r pl vl c)).cell? ((⟨w.heap.size,0,none⟩:Addr).add j)=some u:=by
 intro j u hj
 match j,hj with
 | 0,hj=>simp[cE] at hj;subst hj;simp[Addr.add]
 | 1,hj=>simp[cE] at hj;subst hj;simp[Addr.add]
 | 2,hj=>simp[cE] at hj;subst hj;simp[Addr.add]
 | 3,hj=>simp[cE] at hj;subst hj;simp[Addr.add]
 | 4,hj=>simp[cE] at hj;subst hj;simp[Addr.add]
 | 5,hj=>simp[cE] at hj;subst hj;simp[Addr.add]
theorem Xb (w:World)(n:Nat)(hn:w.heap.size=n)(i q:Int)(r:Bool)(pl vl c:Int):∀j u,(cE (i,q,r,pl,vl,c))[j]? = some u->(w.alloc (eC i q r pl vl c)).cell? ((⟨n,0,none⟩:Addr).add j)=some u:=by
 subst hn;exact Lh w i q r pl vl c
end
end Go.Proofs.YtflehmepjhikcaaGreatDoor
