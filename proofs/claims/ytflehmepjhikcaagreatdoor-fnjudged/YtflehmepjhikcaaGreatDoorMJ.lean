/- Gathered texts. -/
import Derived.Test.YtflehmepjhikcaaGreatDoorMI
import Derived.Deep.Cut
import Derived.BigRegion
import Derived.Lib.Hide
set_option maxRecDepth 100000
set_option maxHeartbeats 8000000
namespace Go.Proofs.YtflehmepjhikcaaGreatDoor
open Go.ChangeShapes Go.WideShapes Go.ChangeAt Go.RowKit
open Go.RowKit
abbrev KBu:=@wpList_append_own
abbrev KDO:=@List.take_zero
section
def Cd (rows:List Nat)(cnt:Nat->Nat)(B:Nat->Bool)(j:Nat×Nat):Prop:=j.1∈rows/\B j.1=true/\j.2<cnt j.1
def Tb (R:Nat×Nat->Rw)(o:Nat)(r:Nat->Rw):Nat×Nat->Rw:=fun j=>if j.1=o then r j.2 else R j
theorem FV {rows:List Nat}{cnt:Nat->Nat}{B:Nat->Bool}{i:Nat}{j:Nat×Nat}(h:Cd rows cnt (AY B i) j):Cd rows cnt B j\/j.1=i:=by
 obtain⟨h1,h2,h3⟩:=h;by_cases e:j.1=i
 . exact .inr e
 ·
  refine .inl ⟨h1,?_,h3⟩;unfold AY at h2;rw[KAQ e] at h2;exact h2
theorem DR {rows:List Nat}{cnt:Nat->Nat}{B:Nat->Bool}{i:Nat}{j:Nat×Nat}(hi:i∉rows)(h:Cd rows cnt (AY B i) j):Cd rows cnt B j:=by
 rcases FV h with q|q
 . exact q
 . exact absurd h.1 (by rw[q];exact hi)
structure J8 (w:World)(m:Nat)(live:Nat×Nat->Prop)(R:Nat×Nat->Rw)(wk:Bool)(vW:Value)(wv:List Value)(bs N:Nat)(AA:List (List Dd)):Prop where
 Ag:GU w m live R
 work:wk=true->Jh w bs N vW AA/\ED w bs N vW wv AA/\N<=w.heap.size/\m<=bs
 out:wk=true->∀i,live i->∀k,(R i).v.ownBlock=some k->k<bs\/N<=k
section
variable {w w':World} {m:Nat} {rows:List Nat} {cnt:Nat->Nat} {B:Nat->Bool} {R:Nat×Nat->Rw} {wk:Bool} {vW:Value} {wv:List Value} {bs N:Nat} {AA:List (List Dd)}
theorem J8.start (w:World)(m:Nat)(rows:List Nat)(cnt:Nat->Nat)(R:Nat×Nat->Rw)(vW:Value)(wv:List Value)(bs N:Nat)(AA:List (List Dd)):J8 w m (Cd rows cnt (fun _=>false)) R false vW wv bs N AA:=
 ⟨⟨fun _ h=>(by cases h.2.1),fun _ _ h=>(by cases h.2.1)⟩,fun h=>(by cases h),fun h=>(by cases h)⟩
theorem J8.keep {live:Nat×Nat->Prop}(h:J8 w m live R wk vW wv bs N AA)(k:AC w w'):J8 w' m live R wk vW wv bs N AA:=
 ⟨h.Ag.keep k,fun e=>⟨(h.work e).1.kept k.grownBy (by simp),(h.work e).2.1.keep k,KAU (h.work e).2.2.1 k.size,(h.work e).2.2.2⟩,h.out⟩
theorem J8.pass (h:J8 w m (Cd rows cnt B) R wk vW wv bs N AA){i:Nat}(hi:i∉rows):J8 w m (Cd rows cnt (AY B i)) R wk vW wv bs N AA:=
 ⟨h.Ag.congr (fun _ hj=>DR hi hj) (fun _ _=>rfl),h.work,fun e j hj=>h.out e j (DR hi hj)⟩
theorem J8.add (h:J8 w m (Cd rows cnt B) R wk vW wv bs N AA){i:Nat}(hi:B i=false){r:Nat->Rw}(k:AC w w')(ho:∀q,q<cnt i->(r q).own w' m)(ha:∀p q,p<cnt i->q<cnt i->p≠q->(r p).v.ownBlock=none\/(r p).v.ownBlock≠(r q).v.ownBlock)
  (hn:∀q,q<cnt i->∀b,(r q).v.ownBlock=some b->w.heap.size<=b):J8 w' m (Cd rows cnt (AY B i)) (Tb R i r) wk vW wv bs N AA:=by
 have hk:=h.keep k;have vg:∀j,Cd rows cnt B j->j.1≠i:=fun j hj e=>by have q:=hj.2.1;rw[e,hi] at q;cases q
 have eo:∀j:Nat×Nat,j.1≠i->Tb R i r j=R j:=fun j hj=>KAQ hj
 have es:∀j:Nat×Nat,j.1=i->Tb R i r j=r j.2:=fun j hj=>KAP hj
 have cs:∀j:Nat×Nat,j.1=i->Cd rows cnt (AY B i) j->j.2<cnt i:=fun j e hj=>by have:=hj.2.2;rw[e] at this;exact this
 have old:∀j,Cd rows cnt B j->∀q,q<cnt i->(R j).v.ownBlock=none\/(R j).v.ownBlock≠(r q).v.ownBlock:=fun j hj q hq=>by
  cases e:(R j).v.ownBlock with
  |none=>exact .inl rfl
  |some b=>exact .inr (fun e'=>by have:=(h.Ag.lt hj b e).2;have:=hn q hq b e'.symm;omega)
 refine⟨⟨fun j hj=>?_,fun j l hj hl hjl=>?_⟩,hk.work,fun e j hj b hb=>?_⟩
 ·
  rcases FV hj with q|q
  . rw[eo j (vg j q)];exact hk.Ag.own j q
  . rw[es j q];exact ho _ (cs j q hj)
 ·
  rcases FV hj with q|q
  ·
   rw[eo j (vg j q)];rcases FV hl with p|p
   . rw[eo l (vg l p)];exact h.Ag.apart j l q p hjl
   . rw[es l p];exact old j q _ (cs l p hl)
  ·
   rw[es j q];rcases FV hl with p|p
   ·
    rw[eo l (vg l p)];rcases old l p _ (cs j q hj) with x|x
    ·
     rw[x]
     cases (r j.2).v.ownBlock with
     |none=>exact .inl rfl
     |some b=>exact .inr (by simp)
    . exact .inr (fun e=>x e.symm)
   ·
    rw[es l p];refine ha _ _ (cs j q hj) (cs l p hl) (fun e=>hjl ?_);exact Prod.ext (q.trans p.symm) e
 ·
  rcases FV hj with q|q
  . rw[eo j (vg j q)] at hb;exact h.out e j q b hb
  ·
   rw[es j q] at hb;have:=hn _ (cs j q hj) b hb;have:=(h.work e).2.2.1;right;omega
theorem J8.one (h:J8 w m (Cd rows cnt B) R wk vW wv bs N AA){i:Nat}(hi:B i=false)(hc:cnt i=1){r:Rw}(k:AC w w')(ho:r.own w' m)(hn:∀b,r.v.ownBlock=some b->w.heap.size<=b):J8 w' m (Cd rows cnt (AY B i)) (Tb R i (fun _=>r)) wk vW wv bs N AA:=
 h.add hi k (fun _ _=>ho) (fun p q hp hq hne=>absurd (by omega:p=q) hne) (fun _ _=>hn)
theorem J8.copied (h:J8 w m (Cd rows cnt B) R false vW wv bs N AA){i:Nat}(hi:i∉rows){v':Value}{V:Nat->Value}(k:AC w w')(hx:Cg w' w.heap.size w'.heap.size v' V AA)(hm:m<=w.heap.size):J8 w' m (Cd rows cnt (AY B i)) R true v' ((List.range AA.length).map V) w.heap.size w'.heap.size AA:=
 ⟨(h.Ag.keep k).congr (fun _ hj=>DR hi hj) (fun _ _=>rfl),fun _=>⟨hx.yY.upto,hx.mq,KAM _,hm⟩,fun _ _ hj b hb => .inl (h.Ag.lt (DR hi hj) b hb).2⟩
theorem J8.grow (h:J8 w m (Cd rows cnt B) R wk vW wv bs N AA){i o:Nat}(hi:i∉rows)(hc:cnt o=1)(hj:Cd rows cnt B (o,0)){r:Rw}(hg:w.grownBy w' (R (o,0)).v.ownBlock)(hv:r.v.ownBlock=(R (o,0)).v.ownBlock\/r.v.ownBlock=some w.heap.size)(ho:r.own w' m):J8 w' m (Cd rows cnt (AY B i)) (Tb R o (fun _=>r)) wk vW wv bs N AA:=by
 have F:=h.Ag.set hj (r:=r) hg (by rcases hv with e|e;exact .inl e;exact .inr (.inl e)) ho
 have eq:∀j,Cd rows cnt (AY B i) j->Tb R o (fun _=>r) j=JR R (o,0) r j:=fun j q=>by
  unfold Tb JR;by_cases e:j.1=o
  ·
   have h2:j.2=0:=by have:=q.2.2;rw[e,hc] at this;omega
   rw[KAP e,KAP (Prod.ext e h2)]
  . rw[KAQ e,KAQ (fun x=>e (by rw[x]))]
 refine⟨F.congr (fun _ q=>DR hi q) eq,fun e=>⟨(h.work e).1.kept hg (fun g e'=>h.out e _ hj g e'),(h.work e).2.1.kept hg (fun g e'=>h.out e _ hj g e'),KAU (h.work e).2.2.1 hg.size,(h.work e).2.2.2⟩,fun e q hq b hb=>?_⟩;rw[eq q hq] at hb;by_cases eq':q=(o,0)
 ·
  subst eq';rw[Ao] at hb;rcases hv with e1|e1
  . rw[e1] at hb;exact h.out e _ hj b hb
  ·
   rw[e1] at hb;have:=KAI hb;have:=(h.work e).2.2.1;right;omega
 ·
  rw[AV _ _ eq'] at hb;exact h.out e q (DR hi hq) b hb
theorem J8.far (h:J8 w m (Cd rows cnt B) R wk vW wv bs N AA){i:Nat}(hi:i∉rows){g:Nat}(hg:w.grownBy w' (some g))(hl:g<m):J8 w' m (Cd rows cnt (AY B i)) R wk vW wv bs N AA:=
  ⟨(h.Ag.far hg (fun j hj=>by
    cases e:(R j).v.ownBlock with
    |none=>exact .inl rfl
    |some k=>exact .inr (fun e'=>by have:=(h.Ag.lt hj k e).1;have:=KAI e';omega))).congr (fun _ q=>DR hi q) (fun _ _=>rfl),
   fun e=>⟨(h.work e).1.kept hg (fun q e'=>by have:=KAI e';have:=(h.work e).2.2.2;omega),(h.work e).2.1.kept hg (fun q e'=>by have:=KAI e';have:=(h.work e).2.2.2;omega),KAU (h.work e).2.2.1 hg.size,(h.work e).2.2.2⟩,fun e j hj=>h.out e j (DR hi hj)⟩
theorem J8.lg (h:J8 w m (Cd rows cnt B) R wk vW wv bs N AA){α:Type}{t:TypeId}{rowOf:List α->Value->Rw}{i:Nat}(hi:B i=false){v:Value}{hs:List Value}{xss:List (List α)}(hc:cnt i=xss.length+1)(k:AC w w')(hm:m<=w.heap.size)(o:Ch t rowOf w' w.heap.size v hs xss):
  J8 w' m (Cd rows cnt (AY B i)) (Tb R i (fun q=>Lk t rowOf v hs xss (match q with|0=>none|q+1=>some q))) wk vW wv bs N AA:=by
 have lv:∀q,q<cnt i->FI hs.length (match q with|0=>none|q+1=>some q):=fun q hq=>by
  cases q with
  |zero=>trivial
  |succ q=>show q<hs.length;rw[o.len];omega
 refine h.add hi k (fun q hq=>Dp (o.Ag.own _ (lv q hq)) hm) (fun p q hp hq hne=>o.Ag.apart _ _ (lv p hp) (lv q hq) (fun e=>hne ?_)) (fun q hq b hb=>(o.Ag.lt (lv q hq) b hb).1);cases p<;>cases q<;>simp_all
end
end
theorem Tryz.Z5:(Tryz.prog.info? 82).map (fun i=>(i.zero,i.size,i.bytes))=some (some (.agg #[.int .i64 0,.int .i64 0,.int .i64 0,.int .i64 0]),4,32):=by kernel_rfl
theorem Tryz.Z6:(Tryz.prog.info? 72).map (fun i=>(i.zero,i.size,i.bytes))=some (some (.slice none 0 0),1,24):=by kernel_rfl
theorem QY (ds:List Dd):(ds.flatMap cD).length=ds.length*4:=by
 induction ds with
 |nil=>rfl
 |cons d r ih=>rw[KBH,KAJ,ih,KBJ];simp[cD];omega
theorem VO (ds:List Dd):∀u∈ds.flatMap cD,u.oneCell'=true:=fun u hu=>by
 obtain⟨x,_,hx⟩:=KDF.1 hu;simp only[cD,KBL,KBo,KCl] at hx;rcases hx with rfl|rfl|rfl|rfl<;>rfl
theorem PV {w:World}{b off:Nat}{ds:List Dd}(h:∀i,i<ds.length->Tl w b (off+i*4) (ds.getD i zD)):∀j u,(ds.flatMap cD)[j]? = some u->w.cell? ((⟨b,off,none⟩:Addr).add j)=some u:=fun j u hj=>by
 have hl:j<ds.length*4:=by rw[<-QY];exact (KBE.1 hj).1
 have hi:j / 4<ds.length:=by omega
 have hm:j % 4<4:=Nat.mod_lt _ (by omega);have e:j=j / 4*4+j % 4:=by omega
 have h1:=ZM ds (j / 4) (j % 4) hi hm;rw[<-e] at h1;rw[h1] at hj;have ea:(⟨b,off,none⟩:Addr).add j=⟨b,off+j / 4*4+j % 4,none⟩:=by rw[show off+j / 4*4+j % 4=off+j by omega];simp[Addr.add]
 rw[ea];obtain⟨a0,a1,a2,a3⟩:=h (j / 4) hi;have:j % 4=0\/j % 4=1\/j % 4=2\/j % 4=3:=by omega
 rcases this with q|q|q|q<;>rw[q] at hj ⊢<;>simp[cD] at hj<;>subst hj
 . exact a0
 . exact a1
 . exact a2
 . exact a3
theorem Nk (w:World)(v:Value)(AA:List (List Dd))(h:Fw w v AA)(hx:AA.length<=1048576)(hm:∀i,i<AA.length->(AA.getD i []).length<=1048576):
  Calls Tryz.prog 91 #[v] w fun e w'=>∃v',e = .returned v'/\Ro w' w.heap.size v' AA/\AC w w':=by
 obtain⟨aD,yG,rfl,h⟩:=h;obtain⟨i0,hi,hz0,hz1,hz2⟩:=KA3 Tryz.Z5;obtain⟨j0,hj,hy0,hy1,hy2⟩:=KA3 Tryz.Z6
 have hown0:Cg (w.alloc (.cells #[] 72)) w.heap.size (w.alloc (.cells #[] 72)).heap.size (.slice (some ⟨w.heap.size,0,none⟩) 0 0) (fun _=>vZ) (AA.take 0):=by
  rw[KDO];exact⟨KAo w #[] 0 (KAM _) (by decide) rfl,fun k hk=>by simp[Value.ownBlock] at hk;subst hk;simp,fun i hi=>by simp at hi,fun i hi=>by simp at hi,fun i hi=>by simp at hi,fun i j _ hj=>by simp at hj⟩
 go_enter Tryz.func91,Tryz.ntmps91
 go_wp2;go_loopw [3,4] (fun v0 i wr=>∃(k:Nat) (v:Value) (V:Nat->Value),v=v0/\k<=AA.length/\i = .int .i64 k/\Cg wr w.heap.size wr.heap.size v V (AA.take k)/\AC w wr) (fun _ i _=>AA.length-(intOf i).toNat)
 case atStart=>exact⟨0,_,_,rfl,KAb _,rfl,hown0,(AC.refl _).alloc _⟩
 case round=>
  obtain⟨k,v,V,rfl,hk,rfl,ho,hK⟩:=hrel;clear hown0;by_cases hlt:k<AA.length
  ·
   rcases h with h0|⟨b,off,rfl,hb,hc⟩
   . exfalso;rw[h0] at hlt;simp at hlt
   obtain⟨vi,d1,r1⟩:=hc k hlt;have d2:=(hK.cell hb).trans d1;have r2:=r1.keep hK;have hml:=hm k hlt
   have HT:Hid (AA.take (k+1)=AA.take k++[AA.getD k []]):=AI (by
    rw[KBQ,IT,KAH hlt];rfl)
   have hlen:(AA.take k).length=k:=by rw[KAz];omega
   generalize AA.getD k []=ds at *;obtain⟨ai,ci,rfl,r2⟩:=r2;have i1:(0:Int)<=(k:Int):=KAK _;have i2:(k:Int)<(AA.length:Int):=by omega
   have hsz:=hK.size;clear hc d1 r1;have OE:(wr.alloc (.cells #[] 82)).ownsRow wr.heap.size 82 4 (.slice (some ⟨wr.heap.size,0,none⟩) 0 0) 0 []:=KAo wr #[] 0 (KAM _) (by decide) rfl;have d3:(wr.alloc (.cells #[] 82)).cell? ⟨b,off+k,none⟩=some (.slice ai ds.length (ds.length+ci)):=(((AC.refl wr).alloc _).cell (KAC hb hsz)).trans d2;rcases r2 with h0|⟨bd,od,rfl,hbd,hcd⟩
   ·
    subst h0
    cases ai with
    |none=>
     have OD:Bq (wr.alloc (.cells #[] 82)) wr.heap.size (.slice (some ⟨wr.heap.size,0,none⟩) 0 0) []:=OE;have k5:AC wr (wr.alloc (.cells #[] 82)):=(AC.refl wr).alloc _;have HX5:=(ho.keep k5).keep ((AC.refl (wr.alloc (.cells #[] 82))).alloc (.cells #[.slice (some ⟨wr.heap.size,0,none⟩) 0 0] 72));have HR:=HX5.row;rw[hlen] at HR;have Rm:=OD.keep ((AC.refl (wr.alloc (.cells #[] 82))).alloc (.cells #[.slice (some ⟨wr.heap.size,0,none⟩) 0 0] 72));have s5:=k5.size;go_wp2_with (at_builtin;refine KAe _ rfl _ _ 24 rfl w.heap.size 72 j0 (.slice none 0 0) 1 24 Tryz.underlying24 hj hy0 hy1 hy2 rfl (by decide) _ _ _ rfl HR ⟨_,0,none⟩ 1 1 [.slice (some ⟨wr.heap.size,0,none⟩) 0 0] rfl rfl ?e1 ?e2 ?e3 ?e4 ?e5 ?_)
     case e1=>
      intro j u hj
      match j,hj with
      | 0,hj=>simp at hj;subst hj;simp[Addr.add]
     case e2=>intro u hu;simp at hu;subst hu;rfl
     case e3=>unfold maxLen;omega
     case e4=>omega
     case e5=>simp;omega
     intro v' w7 hown7 hgrow7 _ hblk7;have HP:=HX5.push Rm hsz (by rw[hlen];exact hown7) hgrow7 (by rw[AD,AD];exact hblk7) (by simp;omega);have K7:AC w w7:=((hK.trans k5).alloc _).grown hgrow7 (fun k hk=>(KAY HR k hk).1);clear hown7 hgrow7 hblk7 HR HX5 Rm;go_wp2;go_roundw;case rel=>exact⟨k+1,_,_,rfl,by omega,by go_num,by rw[HT.out];exact HP,K7⟩
     case measure=>simp[intOf];omega
    |some x=>
     go_wp2_with (at_builtin;refine KBu _ rfl _ _ 72 rfl wr.heap.size 82 i0 (.agg #[.int .i64 0,.int .i64 0,.int .i64 0,.int .i64 0]) 4 32 Tryz.underlying72 hi hz0 hz1 hz2 rfl (by decide) _ _ _ rfl OE x 0 ci [] rfl rfl ?c1 ?c2 ?c3 ?c4 ?c5 ?_)
     case c1=>intro j u hj;simp at hj
     case c2=>intro u hu;simp at hu
     case c3=>simp
     case c4=>simp
     case c5=>simp
     intro u w5 hown5 hgrow5 _;have OD:Bq w5 wr.heap.size u []:=by unfold Bq;simpa using hown5
     have k5:AC wr w5:=((AC.refl wr).alloc (.cells #[] 82)).grown hgrow5 (fun k hk=>(KAY OE k hk).1);clear hown5 hgrow5;obtain⟨au,cu,hu⟩:∃a c,u = .slice a 0 c:=OD.shape;subst hu;have HX5:=(ho.keep k5).keep ((AC.refl w5).alloc (.cells #[.slice au 0 cu] 72));have HR:=HX5.row;rw[hlen] at HR;have Rm:=OD.keep ((AC.refl w5).alloc (.cells #[.slice au 0 cu] 72));have s5:=k5.size;go_wp2_with (at_builtin;refine KAe _ rfl _ _ 24 rfl w.heap.size 72 j0 (.slice none 0 0) 1 24 Tryz.underlying24 hj hy0 hy1 hy2 rfl (by decide) _ _ _ rfl HR ⟨_,0,none⟩ 1 1 [.slice au 0 cu] rfl rfl ?e1 ?e2 ?e3 ?e4 ?e5 ?_)
     case e1=>
      intro j u hj
      match j,hj with
      | 0,hj=>simp at hj;subst hj;simp[Addr.add]
     case e2=>intro u hu;simp at hu;subst hu;rfl
     case e3=>unfold maxLen;omega
     case e4=>omega
     case e5=>simp;omega
     intro v' w7 hown7 hgrow7 _ hblk7;have HP:=HX5.push Rm hsz (by rw[hlen];exact hown7) hgrow7 (by rw[AD];exact hblk7) (by simp;omega);have K7:AC w w7:=((hK.trans k5).alloc _).grown hgrow7 (fun k hk=>(KAY HR k hk).1);clear hown7 hgrow7 hblk7 HR HX5 Rm;go_wp2;go_roundw;case rel=>exact⟨k+1,_,_,rfl,by omega,by go_num,by rw[HT.out];exact HP,K7⟩
     case measure=>simp[intOf];omega
   ·
    have NC:=PV (w:=wr.alloc (.cells #[] 82)) (b:=bd) (off:=od) (ds:=ds) (fun i hi=>(hcd i hi).keep hbd ((AC.refl wr).alloc _));go_wp2_with (at_builtin;refine KBu _ rfl _ _ 72 rfl wr.heap.size 82 i0 (.agg #[.int .i64 0,.int .i64 0,.int .i64 0,.int .i64 0]) 4 32 Tryz.underlying72 hi hz0 hz1 hz2 rfl (by decide) _ _ _ rfl OE ⟨bd,od,none⟩ ds.length (ds.length+ci) (ds.flatMap cD) rfl (QY ds) ?c1 ?c2 ?c3 ?c4 ?c5 ?_)
    case c1=>exact NC
    case c2=>exact VO ds
    case c3=>unfold maxLen;omega
    case c4=>omega
    case c5=>simp
    intro u w5 hown5 hgrow5 _;have OD:Bq w5 wr.heap.size u ds:=by unfold Bq;simpa using hown5
    have k5:AC wr w5:=((AC.refl wr).alloc (.cells #[] 82)).grown hgrow5 (fun k hk=>(KAY OE k hk).1);clear hown5 hgrow5;obtain⟨au,cu,hu⟩:=OD.shape;subst hu;have HX5:=(ho.keep k5).keep ((AC.refl w5).alloc (.cells #[.slice au ds.length cu] 72));have HR:=HX5.row;rw[hlen] at HR;have Rm:=OD.keep ((AC.refl w5).alloc (.cells #[.slice au ds.length cu] 72));have s5:=k5.size;go_wp2_with (at_builtin;refine KAe _ rfl _ _ 24 rfl w.heap.size 72 j0 (.slice none 0 0) 1 24 Tryz.underlying24 hj hy0 hy1 hy2 rfl (by decide) _ _ _ rfl HR ⟨_,0,none⟩ 1 1 [.slice au ds.length cu] rfl rfl ?e1 ?e2 ?e3 ?e4 ?e5 ?_)
    case e1=>
     intro j u hj
     match j,hj with
     | 0,hj=>simp at hj;subst hj;simp[Addr.add]
    case e2=>intro u hu;simp at hu;subst hu;rfl
    case e3=>unfold maxLen;omega
    case e4=>omega
    case e5=>simp;omega
    intro v' w7 hown7 hgrow7 _ hblk7;have HP:=HX5.push Rm hsz (by rw[hlen];exact hown7) hgrow7 (by rw[AD];exact hblk7) (by simp;omega);have K7:AC w w7:=((hK.trans k5).alloc _).grown hgrow7 (fun k hk=>(KAY HR k hk).1);clear hown7 hgrow7 hblk7 HR HX5 Rm;go_wp2;go_roundw;case rel=>exact⟨k+1,_,_,rfl,by omega,by go_num,by rw[HT.out];exact HP,K7⟩
    case measure=>simp[intOf];omega
  ·
   obtain rfl:k=AA.length:=by omega
   rw[KBK] at ho;go_wp2;go_ret;exact⟨_,rfl,ho.yY,hK⟩
theorem pV {es:List Ev}{j:Nat}(h12:es.length<=12)(hj:j<es.length)(hr:Af (es.getD j zE)=true):∃i,i<(AW Af es).length/\(AW Af es).getD i 0=(j:Int)/\∀q,q<i->(AW Af es).getD q 0≠(j:Int):=by
 obtain⟨t,ht⟩:=NV Af es (j+1) es.length hj
 have e1:Bh Af es (j+1)=Bh Af es j++[(j:Int)]:=by
  show (if Af (es.getD j zE)=true then Bh Af es j++[(j:Int)] else Bh Af es j)=_;rw[KAP hr]
 have e2:AW Af es=Bh Af es j++([(j:Int)]++t):=by
  unfold AW;rw[KAP h12];rw[ht,e1,KA2]
 refine⟨(Bh Af es j).length,?_,?_,fun q hq=>?_⟩
 . rw[e2];simp
 . rw[e2,IT,KAy (KAM _)];simp
 ·
  rw[e2,IT,KAu hq,KAH hq];have:=JC Af es j _ (KBI hq);show (Bh Af es j)[q]≠_;omega
theorem iW {AA:List (List Dd)}{b:Bd}{n:Nat}(h:Ee AA b n)(c k:Nat)(pl:Bool)(j:Nat)(e:Ev):Ee AA (Rg (AW Af (AB AA)) c k pl b j e) (n+1):=by
 unfold Rg;split
 ·
  split
  . exact (h.see _ _ _).mono (by omega)
  ·
   split
   . exact h.note c _
   . exact h.Z9 _ _ _
 . exact h.mono (by omega)
theorem VS {AA:List (List Dd)}{b:Bd}{n:Nat}(h:Ee AA b n)(c k:Nat)(pl:Bool):∀j:Nat,Ee AA (DP (AB AA) (AW Af (AB AA)) c k pl b j) (n+j)
 | 0=>h
 |j+1=>iW (VS h c k pl j) c k pl j _
theorem QZ (es:List Ev)(rs:List Int)(c k:Nat)(pl:Bool)(b:Bd):∀j:Nat,(DP es rs c k pl b j).AK=b.AK
 | 0=>rfl
 |j+1=>by
  show (Rg rs c k pl (DP es rs c k pl b j) j (es.getD j zE)).AK=b.AK;rw[<-QZ es rs c k pl b j];unfold Rg;split
  ·
   split
   . rfl
   . split<;>rfl
  . rfl
theorem Ee.sz {AA:List (List Dd)}{b:Bd}{n:Nat}(h:Ee AA b n)(hn:n<=2000):MS AA b:=by
 have u:=(BM h.work).1;have l5:=fun i hi=>Dy h.work (c:=i) hi
 have r12:=Ew Af (AB AA);have e12:=BO AA;exact⟨by omega,fun i hi=>by have:=l5 i hi;omega,by have:=h.AM;omega,by have:=h.AQ;omega,by have:=h.AJ;omega,fun i _=>by have:=h.nl i;omega,by have:=h.AK;omega,by have:=h.sn;omega,by have:=h.fr;omega,by have:=h.rws;omega,fun i _=>by have:=h.rl i;omega⟩
theorem oh {AA:List (List Dd)}(hb:AL AA=true){c:Nat}(hc:c<AA.length)(b:Bd)(hk:Am b c<(AA.getD c []).length)(h0:0<=b.AK.getD c 0)(h3:(Aj AA c (Am b c)).1=3->b.AJ.getD c []=[]):
  { DP (AB AA) (AW Af (AB AA)) c (Am b c) (EW (Aj AA c (Am b c))) b (AB AA).length with AK:=(DP (AB AA) (AW Af (AB AA)) c (Am b c) (EW (Aj AA c (Am b c))) b (AB AA).length).AK.set c ((Am b c:Int)+1) }=Ah AA (AB AA) b c:=by
 rw[QZ,iX hb hc hk b h3];unfold Ah;have:(Am b c:Int)=b.AK.getD c 0:=by unfold Am;omega
 rw[this]
theorem iq {AA:List (List Dd)}(hb:AL AA=true){c k j:Nat}(hc:c<AA.length)(hk:k<(AA.getD c []).length)(hj:j<(AB AA).length)(h:((AB AA).getD j zE).1=(c:Int)/\((AB AA).getD j zE).2.1=(k:Int)):∃p:Nat,p<3/\((AB AA).getD j zE).2.2.2.1=(p:Int):=by
 obtain⟨i,E⟩:=Zf hb hj h;obtain⟨⟨p,hp,e⟩,-⟩:=VP hb hc hk;exact⟨p,hp,by rw[E.at hb];exact e⟩
theorem Q5 {AA:List (List Dd)}{es:List Ev}{b:Bd}{c:Nat}(hc:c<b.AK.length)(h0:0<=b.AK.getD c 0):(Ah AA es b c).AK.getD c 0=b.AK.getD c 0+1/\Am (Ah AA es b c) c=Am b c+1:=by
 have e:(Ah AA es b c).AK.getD c 0=b.AK.getD c 0+1:=by
  show (b.AK.set c (b.AK.getD c 0+1)).getD c 0=_;rw[IT,KBt];simp[hc]
 refine⟨e,?_⟩;unfold Am;rw[e];omega
structure WK (AA:List (List Dd))(c:Nat)(g:Int)(T:Bd)(b:Bd)(n:Nat):Prop where
 Yg:Ee AA b n
 le:Am b c<=(AA.getD c []).length
 z:0<=b.AK.getD c 0
 nt:n+((AA.getD c []).length-Am b c)<=1000
 go:∃m,(AA.getD c []).length<=Am b c+m/\T=if Am b c<(AA.getD c []).length/\G2 (AA.getD c []) (Am b c)=true then FF AA (AB AA) g c m b else b
 gg:Am b c<(AA.getD c []).length->G2 (AA.getD c []) (Am b c)=true->BP AA c (Am b c)=g/\g≠0
theorem WK.step {AA:List (List Dd)}{c:Nat}{g:Int}{T b:Bd}{n:Nat}(h:WK AA c g T b n)(hc:c<AA.length)(hl:Am b c<(AA.getD c []).length)(hg:G2 (AA.getD c []) (Am b c)=true):WK AA c g T (Ah AA (AB AA) b c) (n+1):=by
 obtain⟨g1,g2⟩:=h.gg hl hg;obtain⟨e1,e2⟩:=Q5 (AA:=AA) (es:=AB AA) (by rw[h.Yg.AK];exact hc) h.z;obtain⟨m,m1,m2⟩:=h.go;rw[KAP ⟨hl,hg⟩] at m2;have hz:=h.z;have hnt:=h.nt;refine⟨h.Yg.one c,by rw[e2];omega,by rw[e1];omega,by rw[e2];omega,?_,fun q1 q2=>?_⟩
 ·
  obtain⟨m',rfl⟩:∃m',m=m'+1:=⟨m-1,by omega⟩;refine⟨m',by rw[e2];omega,?_⟩;rw[m2,Sa (by rw[e2];omega) e2 g1]
 ·
  have q3:=q2;unfold G2 at q3;rw[e2] at q3;simp only[KAO,bne_iff_ne,ne_eq,KCp,KAN] at q3;refine⟨?_,g2⟩;rw[e2,<-g1];exact q3.2
theorem WK.start {AA:List (List Dd)}{c:Nat}{b:Bd}{n:Nat}(S:Ee AA b n)(hn:n<=900)(hc:c<AA.length)(h0:0<=b.AK.getD c 0)(hl:Am b c<(AA.getD c []).length)(c10:c<10):WK AA c (BP AA c (Am b c)) (Ar AA (AB AA) b (c:Int)) (Ah AA (AB AA) b c) (n+1):=by
 obtain⟨e1,e2⟩:=Q5 (AA:=AA) (es:=AB AA) (by rw[S.AK];exact hc) h0;have h5:=Dy S.work hc;obtain⟨m',hm'⟩:∃m',(AA.getD c []).length=m'+1:=⟨(AA.getD c []).length-1,by omega⟩;refine⟨S.one c,by rw[e2];omega,by rw[e1];omega,by rw[e2];omega,⟨m',by rw[e2];omega,?_⟩,fun q1 q2=>?_⟩
 ·
  unfold Ar;rw[KAQ (by omega)];simp only[KAV];rw[show FF AA (AB AA) (BP AA c (Am b c)) c (AA.getD c []).length b=FF AA (AB AA) (BP AA c (Am b c)) c (m'+1) b by rw[hm'],Sa (by rw[e2];omega) e2 rfl]
 ·
  unfold G2 at q2;rw[e2] at q2;simp only[KAO,bne_iff_ne,ne_eq,KCp,KAN] at q2;have a1:BP AA c (Am b c+1)=BP AA c (Am b c):=q2.2;have a2:BP AA c (Am b c+1)≠0:=q2.1.2;exact⟨by rw[e2];exact a1,fun q=>a2 (a1.trans q)⟩
section
def La (v:BV)(nv hv rv wv:List Value)(AA:List (List Dd))(b:Bd):BJ->Rw
 | .b .AJ=>Em 151 hv v.N
 |j=>JT v nv rv wv AA b j
theorem UJ (v:BV)(nv hv rv wv:List Value)(AA:List (List Dd))(b:Bd){j:BJ}(h:j≠.b .AJ):La v nv hv rv wv AA b j=JT v nv rv wv AA b j:=by
 cases j with
 |b i=>cases i<;>first|rfl|exact absurd rfl h
 |wk=>rfl
 |wd c=>rfl
theorem Lb (v:BV)(nv hv rv wv:List Value)(AA:List (List Dd))(b:Bd)(j:BJ):(La v nv hv rv wv AA b j).v=(JT v nv rv wv AA b j).v:=by
 cases j with
 |b i=>cases i<;>rfl
 |wk=>rfl
 |wd c=>rfl
structure Mu (w:World)(m:Nat)(v:BV)(nv hv rv wv:List Value)(AA:List (List Dd))(b:Bd):Prop where
 Ag:GU w m (FO nv rv wv) (La v nv hv rv wv AA b)
 ln:nv.length=b.AJ.length
 lh:hv.length=nv.length
 lr:rv.length=b.rws.length
 lw:wv.length=AA.length
def Xf:BJ->Prop
 | .b i=>Tj i
 |_=>False
section
variable {w w':World} {m:Nat} {v:BV} {nv hv rv rv' wv:List Value} {AA:List (List Dd)} {b b':Bd}
theorem GH.cut (h:GH w m v nv rv wv AA b){g cap c:Nat}(hv':v.N = .slice (some ⟨g,0,none⟩) nv.length cap)(u:Value):Mu (w.setCell ⟨g,c,none⟩ u) m v nv (nv.set c u) rv wv AA b:=by
 have o:=h.Ag.own (.b .AJ) ⟨trivial,by simp⟩;obtain⟨q1,q2,q3⟩:=Rw.put (r:=Em 151 nv v.N) o (g:=g) (cap:=cap) (k:=c) hv' u;have F:=h.Ag.set (i:= .b .AJ) ⟨trivial,by simp⟩ (r:={ Em 151 nv v.N with xs:=nv.set c u }) q2 (.inl rfl) q1;refine⟨F.congr (fun _ hi=>hi) (fun j _=>?_),h.ln,by simp,h.lr,h.lw⟩;by_cases e:j = .b .AJ
 ·
  subst e;rw[Ao];show Em _ (nv.set c u) v.N=_;simp[Em]
 . rw[AV _ _ e,UJ _ _ _ _ _ _ _ e]
theorem Mu.keep (h:Mu w m v nv hv rv wv AA b)(k:AC w w'):Mu w' m v nv hv rv wv AA b:=⟨h.Ag.keep k,h.ln,h.lh,h.lr,h.lw⟩
theorem Ml {i:BI}(hi:EP rv i):FO nv rv wv (.b i):=by
 cases i with
 |AM=>exact⟨trivial,by simp⟩
 |AQ=>exact⟨trivial,by simp⟩
 |rws=>exact⟨trivial,by simp⟩
 |rw p=>exact⟨hi,by simp⟩
 |bd=>exact hi.elim
 |AJ=>exact hi.elim
 |AK=>exact hi.elim
 |sn=>exact hi.elim
 |fr=>exact hi.elim
 |nt c=>exact hi.elim
theorem Mu.Z9 (h:Mu w m v nv hv rv wv AA b):Dt w m v rv b:=by
 refine⟨⟨fun i hi=>?_,fun i j hi hj hij=>?_⟩,h.lr⟩
 ·
  have:=h.Ag.own (.b i) (Ml hi);cases i<;>first|exact this|exact absurd hi (by simp[EP])
 ·
  have:=h.Ag.apart (.b i) (.b j) (Ml hi) (Ml hj) (fun e=>hij (by injection e));rw[Lb,Lb] at this;have ei:(Ay 0 v [] rv b i).v=(JT v nv rv wv AA b (.b i)).v:=by cases i<;>first|rfl|exact absurd hi (by simp[EP])
  have ej:(Ay 0 v [] rv b j).v=(JT v nv rv wv AA b (.b j)).v:=by cases j<;>first|rfl|exact absurd hj (by simp[EP])
  rw[ei,ej];exact this
theorem Mu.turn (h:Mu w m v nv hv rv wv AA b)(o:Dt w' m v rv' b')(t:Ai w w' (Fg v rv) (Fg v rv'))(e1:b'.AJ=b.AJ)(e2:b'.AK=b.AK)(e3:b'.sn=b.sn)(e4:b'.fr=b.fr):Mu w' m v nv hv rv' wv AA b':=by
 have lI:∀i,BW nv rv' i->Tj i->EP rv' i:=fun i h1 h2=>by cases i<;>first|trivial|exact h1|exact absurd h2 (by simp[Tj])
 refine⟨h.Ag.part (w':=w') (live':=FO nv rv' wv) (R':=La v nv hv rv' wv AA b') Xf ⟨fun j hj=>?_,fun j l hj hl hjl=>?_⟩ (fun j hs hj=>?_) (fun j hs _=>?_) t (fun j hj hs g hg hB=>?_) (fun j hj hs g hg=>?_),by rw[e1];exact h.ln,h.lh,o.lr,h.lw⟩
 ·
  obtain⟨hj,hs⟩:=hj
  cases j with
  |b i=>
   have:=o.Ag.own i (lI i hj.1 hs);cases i<;>first|exact this|exact absurd hs (by simp[Xf,Tj])
  |wk=>exact absurd hs (by simp[Xf])
  |wd c=>exact absurd hs (by simp[Xf])
 ·
  obtain⟨hj,hs⟩:=hj;obtain⟨hl,hr⟩:=hl
  cases j with
  |b i=>
   cases l with
   |b k=>
    have:=o.Ag.apart i k (lI i hj.1 hs) (lI k hl.1 hr) (fun e=>hjl (by rw[e]));rw[Lb,Lb];have ei:(Ay 0 v [] rv' b' i).v=(JT v nv rv' wv AA b' (.b i)).v:=by cases i<;>first|rfl|exact absurd hs (by simp[Xf,Tj])
    have ej:(Ay 0 v [] rv' b' k).v=(JT v nv rv' wv AA b' (.b k)).v:=by cases k<;>first|rfl|exact absurd hr (by simp[Xf,Tj])
    rw[<-ei,<-ej];exact this
   |wk=>exact absurd hr (by simp[Xf])
   |wd c=>exact absurd hr (by simp[Xf])
  |wk=>exact absurd hs (by simp[Xf])
  |wd c=>exact absurd hs (by simp[Xf])
 ·
  cases j with
  |b i=>cases i<;>first|exact (hs trivial).elim|exact hj
  |wk=>trivial
  |wd c=>exact hj
 ·
  cases j with
  |b i=>cases i<;>first|exact (hs trivial).elim|rfl|(simp only[La,JT,Ay,e1,e2,e3,e4])
  |wk=>rfl
  |wd c=>rfl
 ·
  obtain⟨i,hi,e⟩:=hB;have li:FO nv rv wv (.b i):=Ml hi
  have ei:(La v nv hv rv wv AA b (.b i)).v.ownBlock=some g:=by
   rw[Lb];cases i<;>first|exact e|exact absurd hi (by simp[EP])
  have hne:j≠.b i:=fun q=>hs (by subst q;cases i<;>first|trivial|exact absurd hi (by simp[EP]))
  rcases h.Ag.apart j (.b i) hj li hne with q|q
  . rw[hg] at q;cases q
  . exact q (hg.trans ei.symm)
 ·
  cases j with
  |b i=>
   refine⟨i,lI i hj.1 hs,?_⟩;rw[Lb] at hg;cases i<;>first|exact hg|exact absurd hs (by simp[Xf,Tj])
  |wk=>exact absurd hs (by simp[Xf])
  |wd c=>exact absurd hs (by simp[Xf])
theorem Mu.free {c gq cq:Nat}{u:Value}{x:Nt}{r:List Nt}(h:Mu w m v nv (nv.set c u) rv wv AA b)(hc:c<nv.length)(hz:b.AJ.getD c []=x::r)(hq:nv.getD c AF = .slice (some ⟨gq,0,none⟩) (r.length+1) cq)
  (hu:(cq=1/\u = .slice (some ⟨gq,0,none⟩) r.length 0)\/u = .slice (some ⟨gq,3,none⟩) r.length (cq-1)):Dh w m w.heap.size v AA { b with AJ:=b.AJ.set c r }:=by
 have hcb:c<b.AJ.length:=by rw[<-h.ln];exact hc
 have oq:=h.Ag.own (.b (.nt c)) ⟨hc,by simp⟩
 have oq2:B5 cN 155 3 w m (.slice (some ⟨gq,0,none⟩) (x::r).length cq) (x::r):=by
  have q:B5 cN 155 3 w m (nv.getD c AF) (b.AJ.getD c []):=oq;rw[hz,hq] at q;exact q
 have hcq:r.length+1<=cq:=by
  rcases oq2.2 with ⟨q,_⟩|⟨g,cap,cur,e,_,_,hcap,_⟩
  . simp at q
  ·
   simp only[KAT,KA8] at e;rw[e.2];simpa using hcap
 have lq:gq<w.heap.size:=(KAY oq2 gq rfl).2;have hVc:(nv.set c u).getD c AF=u:=by rw[BR _ _ _ _ hc,KAP rfl]
 have hVo:∀i,i≠c->(nv.set c u).getD i AF=nv.getD i AF:=fun i hi=>by rw[BR _ _ _ _ hc,KAQ hi]
 have hNc:(b.AJ.set c r).getD c []=r:=by rw[BR _ _ _ _ hcb,KAP rfl]
 have hNo:∀i,i≠c->(b.AJ.set c r).getD i []=b.AJ.getD i []:=fun i hi=>by rw[BR _ _ _ _ hcb,KAQ hi]
 have yT:(b.AJ.set c r).length=b.AJ.length:=by simp
 have su:YX u r.length:=by
  rcases hu with ⟨_,e⟩|e
  . exact⟨_,_,e,.inr ⟨gq,0,rfl⟩⟩
  . exact⟨_,_,e,.inr ⟨gq,3,rfl⟩⟩
 have ru:lV w u r:=by
  rcases hu with ⟨e1,e⟩|e
  ·
   have h0:r=[]:=KAZ (by omega);exact⟨_,0,by rw[e,h0];rfl,.inl h0⟩
  ·
   refine⟨some ⟨gq,3,none⟩,cq-1-r.length,by rw[e];congr 1;omega,.inr ⟨gq,3,rfl,lq,fun i y hy=>?_⟩⟩;have hr:=B5.rd Eg oq2;obtain⟨a2,c2,e2,hx⟩:=hr;rcases hx with q|⟨b2,o2,q1,q2,q3⟩
   . cases q
   ·
    rw[q1] at e2;simp only[KAT,KAg,KA6,KBX] at e2;obtain⟨⟨rfl,rfl⟩,-⟩:=e2;have:=q3 (i+1) y (by simpa using hy);rw[show 0+(i+1)*3=3+i*3 by omega] at this;exact this
 have row:∀j,j∈Mx AA.length (b.AJ.set c r).length b.rws.length->FO nv rv wv j/\∀y,Ik (RN v (fun i=>wv.getD i AF) (fun i=>(nv.set c u).getD i AF) (fun i=>rv.getD i AF) AA { b with AJ:=b.AJ.set c r } j).1 (RN v (fun i=>wv.getD i AF) (fun i=>(nv.set c u).getD i AF) (fun i=>rv.getD i AF) AA { b with AJ:=b.AJ.set c r } j).2 y ->
   Wb w y/\m<=y.block/\(La v nv (nv.set c u) rv wv AA b j).v.ownBlock=some y.block:=by
  intro j hj;have plain:∀(j:BJ) (n:Nat),FO nv rv wv j->n<=(La v nv (nv.set c u) rv wv AA b j).n*(La v nv (nv.set c u) rv wv AA b j).size->∀y,Ik (La v nv (nv.set c u) rv wv AA b j).v n y->Wb w y/\m<=y.block/\(La v nv (nv.set c u) rv wv AA b j).v.ownBlock=some y.block:=fun j n l1 l2 y hy=>Rw.wb (h.Ag.own j l1) l2 hy
  rcases GA hj with ⟨d,hd,rfl⟩|rfl|rfl|⟨d,hd,rfl⟩|rfl|rfl|rfl|⟨d,hd,rfl⟩
  ·
   have l1:FO nv rv wv (.wd d):=by show d<wv.length;rw[h.lw];exact hd
   exact⟨l1,plain (.wd d) _ l1 (by show 4*(AA.getD d []).length<=(AA.getD d []).length*4;omega)⟩
  . exact⟨⟨trivial,by simp⟩,plain (.b .AM) _ ⟨trivial,by simp⟩ (by show b.AM.length<=b.AM.length*1;omega)⟩
  . exact⟨⟨trivial,by simp⟩,plain (.b .AQ) _ ⟨trivial,by simp⟩ (by show b.AQ.length<=b.AQ.length*1;omega)⟩
  ·
   have l1:FO nv rv wv (.b (.nt d)):=⟨by show d<nv.length;rw[h.ln,<-yT];exact hd,by simp⟩;refine⟨l1,fun y hy=>?_⟩;by_cases e:d=c
   ·
    subst e;have hy:Ik ((nv.set d u).getD d AF) (3*((b.AJ.set d r).getD d []).length) y:=hy;rw[hVc,hNc] at hy;refine plain (.b (.nt d)) (3*(r.length+1)) l1 (by show 3*(r.length+1)<=(b.AJ.getD d []).length*3;rw[hz,KBJ];omega) y ?_;show Ik (nv.getD d AF) _ y;rw[hq];obtain⟨b2,o2,l2,c2,i2,e2,hi2,ea⟩:=hy;rcases hu with ⟨_,e3⟩|e3
    ·
     rw[e3] at e2;simp only[KAT,KAg,KA6,KBX] at e2;obtain⟨⟨rfl,rfl⟩,-,-⟩:=e2;exact⟨gq,0,_,_,i2,rfl,by omega,ea⟩
    ·
     rw[e3] at e2;simp only[KAT,KAg,KA6,KBX] at e2;obtain⟨⟨rfl,rfl⟩,-,-⟩:=e2;exact⟨gq,0,_,_,3+i2,rfl,by omega,by rw[ea,KBC]⟩
   ·
    have hy:Ik ((nv.set c u).getD d AF) (3*((b.AJ.set c r).getD d []).length) y:=hy;rw[hVo d e,hNo d e] at hy;exact plain (.b (.nt d)) _ l1 (by show 3*(b.AJ.getD d []).length<=(b.AJ.getD d []).length*3;omega) y hy
  . exact⟨⟨trivial,by simp⟩,plain (.b .AK) _ ⟨trivial,by simp⟩ (by show b.AK.length<=b.AK.length*1;omega)⟩
  . exact⟨⟨trivial,by simp⟩,plain (.b .sn) _ ⟨trivial,by simp⟩ (by show b.sn.length<=b.sn.length*1;omega)⟩
  . exact⟨⟨trivial,by simp⟩,plain (.b .fr) _ ⟨trivial,by simp⟩ (by show b.fr.length<=b.fr.length*1;omega)⟩
  ·
   have l1:FO nv rv wv (.b (.rw d)):=⟨by show d<rv.length;rw[h.lr];exact hd,by simp⟩;exact⟨l1,plain (.b (.rw d)) _ l1 (by show 1*(b.rws.getD d []).length<=(b.rws.getD d []).length*1;omega)⟩
 have heads:∀(j:BJ) (t:TypeId) (vs:List Value) (z:Value),FO nv rv wv j->La v nv (nv.set c u) rv wv AA b j=Em t vs z->j∉Mx AA.length (b.AJ.set c r).length b.rws.length ->
   lJ w z (fun i=>vs.getD i AF) vs.length (Il (Ok v (fun i=>wv.getD i AF) (fun i=>(nv.set c u).getD i AF) (fun i=>rv.getD i AF) AA { b with AJ:=b.AJ.set c r })):=by
  intro j t vs z hl e hj;have ho:=h.Ag.own j hl;rw[e] at ho;obtain⟨a,cc,ea,h1⟩:=Bu ho;refine⟨a,cc,ea,?_⟩;rcases h1 with h1|⟨g,e1,e2,e3⟩
  . exact .inl (by rw[h1];rfl)
  ·
   refine .inr ⟨g,0,e1,e2,fun i hi=>⟨by rw[KBC];exact e3 i hi,?_⟩⟩;rintro⟨r',hr,hx⟩;rw[EE,KAv] at hr;obtain⟨q,hq',rfl⟩:=hr;obtain⟨l1,l2⟩:=row q hq';have hb:=(l2 _ hx).2.2;have ap:=h.Ag.apart q j l1 hl (fun e=>hj (e ▸ hq'));rw[hb,e] at ap;rcases ap with ap|ap
   . cases ap
   ·
    apply ap;show _=z.ownBlock;rw[ea,e1];rfl
 have hge:∀(j:BJ) (n:Nat),FO nv rv wv j->gm (La v nv (nv.set c u) rv wv AA b j).v n m:=fun j n hl q o l c' e _=>(h.Ag.lt hl q (by rw[e];rfl)).1
 have o1:A8 w m v.P b.AM:=h.Ag.own (.b .AM) ⟨trivial,by simp⟩;have o2:A8 w m v.L b.AQ:=h.Ag.own (.b .AQ) ⟨trivial,by simp⟩;have o3:A8 w m v.X b.AK:=h.Ag.own (.b .AK) ⟨trivial,by simp⟩;have o4:A8 w m v.S b.sn:=h.Ag.own (.b .sn) ⟨trivial,by simp⟩;have o5:A8 w m v.F b.fr:=h.Ag.own (.b .fr) ⟨trivial,by simp⟩;have hw:=heads .wk 72 wv v.W trivial rfl (fun hq=>by have:=GA hq;simp at this);have hn:=heads (.b .AJ) 151 (nv.set c u) v.N ⟨trivial,by simp⟩ rfl (fun hq=>by have:=GA hq;simp at this);have hr:=heads (.b .rws) 25 rv v.R ⟨trivial,by simp⟩ rfl (fun hq=>by have:=GA hq;simp at this);rw[h.lw] at hw;rw[h.lh,h.ln,<-yT] at hn;rw[h.lr] at hr;refine⟨⟨?_,o1.rd,o2.rd,?_,o3.rd,o4.rd,o5.rd,?_⟩,⟨fun i=>wv.getD i AF,fun i=>(nv.set c u).getD i AF,fun i=>rv.getD i AF,?_,⟨?_,?_⟩,?_⟩,hge .wk _ trivial,hge (.b .AJ) _ ⟨trivial,by simp⟩,hge (.b .rws) _ ⟨trivial,by simp⟩⟩
 ·
  obtain⟨a,cap,e,h1⟩:=hw;refine⟨a,cap,e,?_⟩;rcases h1 with h1|⟨g,o,e1,e2,e3⟩
  . exact .inl (KAZ h1)
  . exact .inr ⟨g,o,e1,e2,fun i hi=>⟨_,(e3 i hi).1,(show Bq w m (wv.getD i AF) (AA.getD i []) from h.Ag.own (.wd i) (by show i<wv.length;rw[h.lw];exact hi)).S9.rd⟩⟩
 ·
  obtain⟨a,cap,e,h1⟩:=hn;refine⟨a,cap,e,?_⟩;rcases h1 with h1|⟨g,o,e1,e2,e3⟩
  . exact .inl (KAZ h1)
  ·
   refine .inr ⟨g,o,e1,e2,fun i hi=>⟨_,(e3 i hi).1,?_⟩⟩;show lV w ((nv.set c u).getD i AF) ((b.AJ.set c r).getD i []);by_cases ei:i=c
   . subst ei;rw[hVc,hNc];exact ru
   ·
    rw[hVo i ei,hNo i ei];have hi2:i<nv.length:=by rw[h.ln,<-yT];exact hi
    exact B5.rd Eg (show B5 cN 155 3 w m (nv.getD i AF) (b.AJ.getD i []) from h.Ag.own (.b (.nt i)) ⟨hi2,by simp⟩)
 ·
  obtain⟨a,cap,e,h1⟩:=hr;refine⟨a,cap,e,?_⟩;rcases h1 with h1|⟨g,o,e1,e2,e3⟩
  . exact .inl (KAZ h1)
  . exact .inr ⟨g,o,e1,e2,fun i hi=>⟨_,(e3 i hi).1,(show A8 w m (rv.getD i AF) (b.rws.getD i []) from h.Ag.own (.b (.rw i)) ⟨by show i<rv.length;rw[h.lr];exact hi,by simp⟩).rd⟩⟩
 ·
  refine⟨hw,fun i hi=>Rw.TR (h.Ag.own (.wd i) (by show i<wv.length;rw[h.lw];exact hi)),Rw.TR (h.Ag.own (.b .AM) ⟨trivial,by simp⟩),Rw.TR (h.Ag.own (.b .AQ) ⟨trivial,by simp⟩),hn,
   fun i hi=>?_,Rw.TR (h.Ag.own (.b .AK) ⟨trivial,by simp⟩),Rw.TR (h.Ag.own (.b .sn) ⟨trivial,by simp⟩),Rw.TR (h.Ag.own (.b .fr) ⟨trivial,by simp⟩),hr,
   fun i hi=>Rw.TR (h.Ag.own (.b (.rw i)) ⟨by show i<rv.length;rw[h.lr];exact hi,by simp⟩)⟩
  show YX ((nv.set c u).getD i AF) ((b.AJ.set c r).getD i []).length;by_cases ei:i=c
  . subst ei;rw[hVc,hNc];exact su
  ·
   rw[hVo i ei,hNo i ei];have hi2:i<nv.length:=by rw[h.ln,<-yT];exact hi
   exact Rw.TR (h.Ag.own (.b (.nt i)) ⟨hi2,by simp⟩)
 ·
  rintro y ⟨r',hr',hx⟩;rw[EE,KAv] at hr';obtain⟨q,hq',rfl⟩:=hr';exact ((row q hq').2 y hx).1
 ·
  rw[EE,KCZ];refine List.Pairwise.imp_of_mem (R:=fun a b=>a≠b) (fun {p q} hp hq' hne y hx hy=>?_) (PP _ _ _);have a1:=((row p hp).2 y hx).2.2;have a2:=((row q hq').2 y hy).2.2;rcases h.Ag.apart p q (row p hp).1 (row q hq').1 hne with ap|ap
  . rw[a1] at ap;cases ap
  . rw[a1,a2] at ap;exact ap rfl
 ·
  rintro y ⟨r',hr',hx⟩;rw[EE,KAv] at hr';obtain⟨q,hq',rfl⟩:=hr';have:=(row q hq').2 y hx;exact⟨this.2.1,this.1.lt⟩
end
end
theorem UK {AA:List (List Dd)}{es:List Ev}{b:Bd}(c:Nat):Ar AA es b (10+(c:Int))=BS b c:=by
 unfold Ar;rw[KAP (by omega)];have:(10+(c:Int)-10).toNat=c:=by omega
 rw[this]
theorem RB.any {AA:List (List Dd)}{b:Bd}(hb:Ap AA b=true):RB AA b (fun _=>20) 20:=RB.of hb (Ee.of hb).nl (Ee.of hb).rl
def MZ (AA:List (List Dd)):List (List Dd):=if AL AA=true then AA else []
def Ox (AA:List (List Dd)):Bd:=if AL AA=true then C5 AA else OW
def TU (AA:List (List Dd))(b:Bd)(s:Int):Bd:=if Op (Aq AA b) s=true then Ar AA (AB AA) b s else b
def OH (AA:List (List Dd))(b:Bd):List (List Dd):=if Ap AA b=true then AA else []
def J5 (AA:List (List Dd))(b:Bd)(s:Int):Bd:=if Ap AA b=true then TU AA b s else OW
def RY (AA:List (List Dd))(b:Bd)(s:Int):Bool:=Ap AA b&&Op (Aq AA b) s
abbrev pz (Bn:List (List Int))(i:Nat):Nat:=(Bn.getD i []).length
abbrev di (V:Nat->Value)(Bn:List (List Int)):List (Value×Nat):=Jf 1 V (pz Bn) Bn.length
structure Yl (w:World)(m M:Nat)(v:Value)(Bn:List (List Int)):Prop where
 rd:fu w v Bn
 ex:∃V:Nat->Value,lJ w v V Bn.length (Il (di V Bn))/\(∀i,i<Bn.length->YX (V i) (pz Bn i))/\lU w (di V Bn)/\∀x,Il (di V Bn) x->m<=x.block/\x.block<M
 hd:gm v Bn.length m
theorem Jz {V:Nat->Value}{Bn:List (List Int)}{x:Addr}(h:Il (di V Bn) x):∃i,i<Bn.length/\Ik (V i) (pz Bn i) x:=by
 obtain⟨r,hr,hx⟩:=h;obtain⟨i,hi,rfl⟩:=(QC 1 V (pz Bn) _ _).1 hr;exact⟨i,hi,by rw[Nat.one_mul] at hx;exact hx⟩
theorem Ch.free {w:World}{m:Nat}{v:Value}{hs:List Value}{xss:List (List Int)}(h:Ch 25 Bk w m v hs xss):Yl w m w.heap.size v xss:=by
 have o0:(Em 25 hs v).own w m:=h.Ag.own none trivial;have oi:∀i,i<xss.length->(Bk (xss.getD i []) (hs.getD i AF)).own w m:=fun i hi=>h.Ag.own (some i) (show i<hs.length by rw[h.len];exact hi)
 have ni:∀i,i<xss.length->FI hs.length (some i):=fun i hi=>show i<hs.length by rw[h.len];exact hi
 have bl:∀i,i<xss.length->∀x,Ik (hs.getD i AF) (pz xss i) x->Wb w x/\m<=x.block/\(hs.getD i AF).ownBlock=some x.block:=fun i hi x hx=>Rw.wb (oi i hi) (n:=pz xss i) (by show (xss.getD i []).length<=(xss.getD i []).length*1;omega) hx
 obtain⟨a,c,e,H⟩:=Bu o0;refine⟨⟨a,c,by rw[<-h.len];exact e,?_⟩,⟨fun i=>hs.getD i AF,⟨a,c,by rw[<-h.len];exact e,?_⟩,fun i hi=>Rw.TR (oi i hi),⟨fun x hx=>?_,?_⟩,fun x hx=>?_⟩,?_⟩
 ·
  rcases H with H|⟨g,rfl,hg,hc⟩
  . exact .inl (KAZ (by rw[<-h.len,H];rfl))
  . exact .inr ⟨g,0,rfl,hg,fun i hi=>⟨_,by rw[KBC];exact hc i (by rw[h.len];exact hi),A8.rd (oi i hi)⟩⟩
 ·
  rcases H with H|⟨g,rfl,hg,hc⟩
  . exact .inl (by rw[<-h.len,H];rfl)
  ·
   refine .inr ⟨g,0,rfl,hg,fun i hi=>⟨by rw[KBC];exact hc i (by rw[h.len];exact hi),fun hr=>?_⟩⟩;obtain⟨j,hj,hx⟩:=Jz hr;have q:=(bl j hj _ hx).2.2;rcases h.Ag.apart (some j) none (ni j hj) trivial (by simp) with h1|h1
   . rw[show (Lk 25 Bk v hs xss (some j)).v=hs.getD j AF from rfl,q] at h1;cases h1
   . exact h1 (by rw[show (Lk 25 Bk v hs xss (some j)).v=hs.getD j AF from rfl,q,show (Lk 25 Bk v hs xss none).v=v from rfl,e];rfl)
 ·
  obtain⟨i,hi,q⟩:=Jz hx;exact (bl i hi x q).1
 ·
  rw[show di (fun i=>hs.getD i AF) xss=(List.range xss.length).map (fun i=>(hs.getD i AF,1*pz xss i)) from Lp 1 _ _ _,KCZ];refine (KCt (n:=xss.length)).imp_of_mem ?_;intro i j hi hj hne x hx hy;rw[Nat.one_mul] at hx hy;have hi:=KAd.1 hi;have hj:=KAd.1 hj;have q1:=(bl i hi x hx).2.2;have q2:=(bl j hj x hy).2.2;rcases h.Ag.apart (some i) (some j) (ni i hi) (ni j hj) (by simpa using hne) with h1|h1
  . rw[show (Lk 25 Bk v hs xss (some i)).v=hs.getD i AF from rfl,q1] at h1;cases h1
  . exact h1 (by rw[show (Lk 25 Bk v hs xss (some i)).v=hs.getD i AF from rfl,q1,show (Lk 25 Bk v hs xss (some j)).v=hs.getD j AF from rfl,q2])
 ·
  obtain⟨i,hi,q⟩:=Jz hx;have q1:=bl i hi x q;exact⟨q1.2.1,q1.1.lt⟩
 ·
  intro b o l c' e' hn;have:=h.Ag.lt (i:=none) trivial b (by show v.ownBlock=some b;rw[e'];rfl);exact this.1
theorem bT {d:Dd}(h:Fy d=true):d.1=1\/d.1=2\/d.1=3\/d.1=4:=by
 simp[Fy,Ec] at h;omega
theorem Xv {d:Dd}(h:Fy d=true):0<=d.2.2.2/\d.2.2.2<=9:=by
 simp[Fy,Ec] at h;omega
theorem Kp (w:World)(v:Value)(AA:List (List Dd))(h:Fw w v AA)(hx:AA.length<=3)(hok:∀i,i<AA.length->GQ (AA.getD i [])=true):
  Calls Tryz.prog 71 #[v] w fun e w'=>e = .returned (.int .i64 (SU AA AA.length))/\AC w w':=by
 obtain⟨a,c,rfl,h⟩:=h;go_enter Tryz.func71,Tryz.ntmps71
 go_wp2;go_loopw [3,4] (fun n i wr=>∃k:Nat,∃m:Int,k<=AA.length/\n = .int .i64 m/\i = .int .i64 k/\Hid (m=SU AA k)/\0<=m/\m<=10*k/\AC w wr) (fun _ i _=>AA.length-(intOf i).toNat)
 case atStart=>exact⟨0,0,KAb _,rfl,rfl,AI rfl,by omega,by omega,AC.refl _⟩
 case round=>
  obtain⟨k,m,hk,rfl,rfl,hm,m0,m1,hK⟩:=hrel;by_cases hlt:k<AA.length
  ·
   rcases h with h|⟨b,o,rfl,hb,hc⟩
   . exfalso;rw[h] at hlt;simp at hlt
   obtain⟨u,e1,r1⟩:=hc k hlt;have d1:=(hK.cell hb).trans e1;have r1:=r1.keep hK;have Mp:=hok k hlt;clear hc e1 hok;obtain⟨ds,hds⟩:∃ds,ds=AA.getD k []:=⟨_,rfl⟩;have MR:=AI hds;rw[<-hds] at r1 Mp;clear hds;obtain⟨ai,ci,rfl,r1⟩:=r1;have i1:(0:Int)<=(k:Int):=KAK _;have i2:(k:Int)<(AA.length:Int):=by omega
   have hl5:ds.length<=5:=by simp[GQ] at Mp;omega
   have hbw:b<wr.heap.size:=KAC hb hK.size;go_wp2;obtain⟨wo,hwo⟩:∃wo:World,wo=wr:=⟨_,rfl⟩;subst hwo;go_loopw [3,5] (fun n i wq=>∃q:Nat,∃t:Int,q<=ds.length/\n = .int .i64 t/\i = .int .i64 q/\Hid (t=m+PW ds q)/\0<=t/\t<=10*k+2*q/\AC wo wq) (fun _ i _=>ds.length-(intOf i).toNat)
   case atStart=>exact⟨0,m,KAb _,rfl,rfl,AI (by simp[PW]),by omega,by omega,AC.refl _⟩
   case round=>
    obtain⟨q,t,hq,rfl,rfl,ht,t0,t1,hQ⟩:=hrel;have d1:=(hQ.cell hbw).trans d1;have hbq:b<wr.heap.size:=KAC hbw hQ.size;by_cases hlq:q<ds.length
    ·
     rcases r1 with h|⟨b2,o2,rfl,hb2,hc2⟩
     . exfalso;rw[h] at hlq;simp at hlq
     have AT:=(hc2 q hlq).keep hb2 hQ
     have Vu:Fy (ds.getD q zD)=true:=by
      simp only[GQ,KAO] at Mp;exact Bm zD Mp.1 q hlq
     clear hc2 Mp;have hb3:b2<wr.heap.size:=KAC hb2 hQ.size;have sG:Hid (t+UG (ds.getD q zD)=m+PW ds (q+1)):=AI (by rw[PW,ht.out];omega);clear ht;obtain⟨d,hd⟩:∃d,d=ds.getD q zD:=⟨_,rfl⟩;rw[<-hd] at AT Vu sG;clear hd;have KD:=bT Vu;obtain⟨x0,x1,x2,x3⟩:=d;obtain⟨A0,-,-,-⟩:=AT;simp only at A0 KD;have j1:(0:Int)<=(q:Int):=KAK _;have j2:(q:Int)<(ds.length:Int):=by omega
     rcases KD with rfl|rfl|rfl|rfl
     all_goals
      go_wp2;go_roundw;case rel=>exact⟨q+1,_,by omega,rfl,by go_num,AI (by have:=sG.out;simp[UG] at this;omega),by omega,by omega,hQ.alloc _⟩
      case measure=>simp[intOf];omega
    ·
     obtain rfl:q=ds.length:=by omega
     go_wp2;go_roundw;case rel=>exact⟨k+1,t,by omega,rfl,by go_num,AI (by rw[SU,<-MR.out,ht.out,hm.out]),t0,by omega,hK.trans hQ⟩
     case measure=>simp[intOf];omega
  ·
   obtain rfl:k=AA.length:=by omega
   go_wp2;go_ret;exact⟨by rw[hm.out];rfl,hK⟩
theorem Sp:(madeCells (Value.int .i64 0).cells (10*1)).toList=((List.replicate 10 (0:Int)).map (Value.int .i64)):=by
 rw[KCj,List.map_replicate];exact toList_madeCells_one _ _
theorem Zu {i:Nat}{own o:List Int}{ds:List Dd}{k:Nat}(h:Cy i own ds k=some o)(hg:(ds.getD k zD).2.2.2=0):Cy i own ds (k+1)=some o:=by
 rw[Cy,h];simp only[hg,KCT]
theorem jK {i:Nat}{own o:List Int}{ds:List Dd}{k:Nat}(h:Cy i own ds k=some o)(hg:(ds.getD k zD).2.2.2≠0)
  (hb:o.getD (ds.getD k zD).2.2.2.toNat 0≠0/\(o.getD (ds.getD k zD).2.2.2.toNat 0≠(i:Int)+1\/k=0\/(ds.getD (k-1) zD).2.2.2≠(ds.getD k zD).2.2.2)):Cy i own ds (k+1)=none:=by
 rw[Cy,h];simp only;rw[KAQ hg,KAP hb]
theorem jL {i:Nat}{own o:List Int}{ds:List Dd}{k:Nat}(h:Cy i own ds k=some o)(hg:(ds.getD k zD).2.2.2≠0)
  (hb:¬(o.getD (ds.getD k zD).2.2.2.toNat 0≠0/\(o.getD (ds.getD k zD).2.2.2.toNat 0≠(i:Int)+1\/k=0\/(ds.getD (k-1) zD).2.2.2≠(ds.getD k zD).2.2.2))):
  Cy i own ds (k+1)=some (o.set (ds.getD k zD).2.2.2.toNat ((i:Int)+1)):=by
 rw[Cy,h];simp only;rw[KAQ hg,KAQ hb]
theorem Qf {AA:List (List Dd)}{k:Nat}{own:List Int}(hk:k<AA.length)(h:FH AA k=some own){q:Nat}(hq:q<=(AA.getD k []).length)(hn:Cy k own (AA.getD k []) q=none):Kg AA=false:=by
 have h1:FH AA (k+1)=none:=by
  rw[FH,h];exact Ld hn _ hq
 rw[Kg,Lf h1 _ hk];rfl
theorem Qt (w:World)(v:Value)(AA:List (List Dd))(h:Fw w v AA)(hx:AA.length<=3)(hok:∀i,i<AA.length->GQ (AA.getD i [])=true):
  Calls Tryz.prog 72 #[v] w fun e w'=>e = .returned (.bool (Kg AA))/\AC w w':=by
 obtain⟨a,c,rfl,h⟩:=h;obtain⟨i0,hi,hz0,hz1,hz2⟩:=KA3 Tryz.FM;go_enter Tryz.func72,Tryz.ntmps72
 go_wp2_with (at_make;refine wpList_make_full _ rfl _ _ 25 rfl w.heap.size 2 i0 (.int .i64 0) 1 Tryz.underlying25 hi hz0 hz1 .i64 .i64 _ _ 10 rfl rfl rfl rfl (by rw[hz2];omega) (by unfold maxLen;omega) (KAM _) ?_;intro w1 hown hgrow)
 have k1:AC w w1:=(AC.refl w).grown hgrow (by simp)
 have rb:Dk w1 w.heap.size (List.replicate 10 0):=by
  have o:A8 w1 w.heap.size (.slice (some ⟨w.heap.size,0,none⟩) 10 10) (List.replicate 10 0):=by
   rw[Sp] at hown;unfold A8;simpa using hown
  rcases o.row with ⟨e,_⟩|⟨g,cap,e,_,hr⟩
  . cases e
  ·
   have e1:=KBf Value.ownBlock e;simp[Value.ownBlock] at e1;rw[e1];exact hr
 clear hgrow hown hi hz0 hz1 hz2;go_loopw [4] (fun i wr=>∃k:Nat,∃own:List Int,k<=AA.length/\i = .int .i64 k/\Hid (FH AA k=some own)/\Dk wr w.heap.size own/\AC w wr) (fun i _=>AA.length-(intOf i).toNat)
 case atStart=>exact⟨0,List.replicate 10 0,KAb _,rfl,AI rfl,rb,k1⟩
 case round=>
  obtain⟨k,own,hk,rfl,hG,hR,hK⟩:=hrel;clear rb k1;by_cases hlt:k<AA.length
  ·
   rcases h with h|⟨b,o,rfl,hb,hc⟩
   . exfalso;rw[h] at hlt;simp at hlt
   obtain⟨u,e1,r1⟩:=hc k hlt;have Mp:=hok k hlt;clear hc hok;obtain⟨ds,hds⟩:∃ds,ds=AA.getD k []:=⟨_,rfl⟩;have MR:=AI hds;rw[<-hds] at r1 Mp;clear hds;obtain⟨ai,ci,rfl,r1⟩:=r1;have d1:=(hK.cell hb).trans e1;have i1:(0:Int)<=(k:Int):=KAK _;have i2:(k:Int)<(AA.length:Int):=by omega
   have hl5:ds.length<=5:=by simp[GQ] at Mp;omega
   go_wp2;go_loopw [5] (fun i wq=>∃q:Nat,∃ow:List Int,q<=ds.length/\i = .int .i64 q/\Hid (Cy k own ds q=some ow)/\Dk wq w.heap.size ow/\AC w wq) (fun i _=>ds.length-(intOf i).toNat)
   case atStart=>exact⟨0,own,KAb _,rfl,AI rfl,hR,hK⟩
   case round=>
    obtain⟨q,ow,hq,rfl,hQ,hS,hL⟩:=hrel;have d1:=(hL.cell hb).trans e1;by_cases hlq:q<ds.length
    ·
     rcases r1 with h|⟨b2,o2,rfl,hb2,hc2⟩
     . exfalso;rw[h] at hlq;simp at hlq
     have A3:=((hc2 q hlq).keep hb2 hL).2.2.2
     have Vu:Fy (ds.getD q zD)=true:=by
      simp only[GQ,KAO] at Mp;exact Bm zD Mp.1 q hlq
     have g09:0<=(ds.getD q zD).2.2.2/\(ds.getD q zD).2.2.2<=9:=Xv Vu;clear Mp Vu;have AP:0<q->wr.cell? ⟨b2,o2+(q-1)*4+3,none⟩=some (.int .i64 (ds.getD (q-1) zD).2.2.2):=fun _=>((hc2 (q-1) (by omega)).keep hb2 hL).2.2.2
     clear hc2;have S1:=@Zu k own ow ds q hQ.out;have S2:=@jK k own ow ds q hQ.out;have S3:=@jL k own ow ds q hQ.out;have hlen:ow.length=10:=(Kh hQ.out).trans (NS hG.out);clear hQ;obtain⟨g,hg⟩:∃g:Nat,(ds.getD q zD).2.2.2=(g:Int):=⟨_,(Int.toNat_of_nonneg g09.1).symm⟩;rw[hg] at A3 g09 S1 S2 S3;rw[KAV] at S2 S3;clear hg;have hg9:g<10:=by omega
     obtain⟨p,hp⟩:∃p:Int,p=(ds.getD (q-1) zD).2.2.2:=⟨_,rfl⟩;rw[<-hp] at AP S2 S3;clear hp;have Zw:=hS.cell (j:=g) (by omega);obtain⟨y,hy⟩:∃y:Int,y=ow.getD g 0:=⟨_,rfl⟩;rw[<-hy] at Zw S2 S3;clear hy g09;have j1:(0:Int)<=(q:Int):=KAK _;have j2:(q:Int)<(ds.length:Int):=by omega
     have j3:(0:Int)<=(g:Int):=KAK _;have j4:(g:Int)<10:=by omega
     have hbq:b<wr.heap.size:=KAC hb hL.size;have hb3:b2<wr.heap.size:=KAC hb2 hL.size;by_cases g0:g=0
     ·
      have eg:((g:Int)==0)=true:=by simp[g0]
      have HE:=AI (S1 (by omega));clear S1 S2 S3 AP;go_wp2;go_roundw;case rel=>exact⟨q+1,ow,by omega,by go_num,HE,hS,hL⟩
      case measure=>simp[intOf];omega
     ·
      have HN:Hid ((g:Int)≠0):=AI (by omega);have eg:((g:Int)==0)=false:=by simp;omega
      have hF:=hS.free g;clear S1;by_cases y0:y=0
      ·
       subst y0;have HE:=AI (S3 HN.out (by simp));clear S2 S3 AP;go_wp2;go_roundw;case rel=>exact⟨q+1,_,by omega,by go_num,HE,hS.set g _,hL.set (KAM _) g _⟩
       case measure=>simp[intOf];omega
      ·
       have ey:(y != 0)=true:=by simp[y0]
       by_cases yk:y=(k:Int)+1
       ·
        subst yk;have ek:((k:Int)+1 != (k:Int)+1)=false:=by simp
        by_cases q0:q=0
        ·
         have eq:((q:Int)==0)=true:=by simp[q0]
         have HE:Hid (Kg AA=false):=AI (Qf hlt hG.out (q:=q+1) (by rw[<-MR.out];omega) (by rw[<-MR.out];exact S2 HN.out ⟨y0,.inr (.inl q0)⟩));clear S2 S3 AP y0 q0;go_wp2;go_ret;exact⟨by rw[HE.out];rfl,hL⟩
        ·
         have eq:((q:Int)==0)=false:=by simp;omega
         have AP:=AP (by omega);obtain⟨r,rfl⟩:∃r:Nat,q=r+1:=⟨q-1,by omega⟩;rw[KCk] at AP;have j5:(0:Int)<=(r:Int):=KAK _;have j6:(r:Int)<(ds.length:Int):=by omega
         by_cases pg:p=(g:Int)
         ·
          subst pg;have ep:((g:Int) != (g:Int))=false:=by simp
          have HE:=AI (S3 HN.out (by simp));clear S2 S3 y0;go_wp2;go_roundw;case rel=>exact⟨r+1+1,_,by omega,by go_num,HE,hS.set g _,hL.set (KAM _) g _⟩
          case measure=>simp[intOf];omega
         ·
          have ep:(p != (g:Int))=true:=by simp[pg]
          have HE:Hid (Kg AA=false):=AI (Qf hlt hG.out (q:=r+1+1) (by rw[<-MR.out];omega) (by rw[<-MR.out];exact S2 HN.out ⟨y0,.inr (.inr pg)⟩));clear S2 S3 y0 pg;go_wp2;go_ret;exact⟨by rw[HE.out];rfl,hL⟩
       ·
        have ek:(y != (k:Int)+1)=true:=by simp[yk]
        have HE:Hid (Kg AA=false):=AI (Qf hlt hG.out (q:=q+1) (by rw[<-MR.out];omega) (by rw[<-MR.out];exact S2 HN.out ⟨y0,.inl yk⟩));clear S2 S3 AP yk y0;go_wp2;go_ret;exact⟨by rw[HE.out];rfl,hL⟩
    ·
     obtain rfl:q=ds.length:=by omega
     go_wp2;go_roundw;case rel=>exact⟨k+1,ow,by omega,by go_num,AI (by rw[FH,hG.out,<-MR.out];exact hQ.out),hS,hL⟩
     case measure=>simp[intOf];omega
  ·
   obtain rfl:k=AA.length:=by omega
   go_wp2;go_ret;exact⟨by rw[Kg,hG.out];rfl,hK⟩
theorem QG {α:Type}(l:List α)(k:Nat)(z:α)(h:k<l.length):l.take (k+1)=l.take k++[l.getD k z]:=by
 rw[KBQ,KAH h,IT,KAH h];rfl
theorem Ru {α:Type}{f:α->Bool}{l:List α}{k:Nat}(z:α)(h:k<l.length)(h1:(l.take k).all f=true)(h2:f (l.getD k z)=true):(l.take (k+1)).all f=true:=by
 rw[QG l k z h,List.all_append,h1];rw[List.all_cons,h2];rfl
theorem Pp (d:List Dd):∀l:List (List Dd),CQ (l++[d])=CQ l+d.length
 | []=>by simp[CQ]
 |x::r=>by rw[KBr,CQ,CQ,Pp d r];omega
theorem QH {AA:List (List Dd)}{k:Nat}(hk:k<AA.length)(h:GQ (AA.getD k [])=false):AL AA=false:=by
 rw[AL,QQ [] k hk h];simp
theorem EX (w:World)(v:Value)(AA:List (List Dd))(h:Fw w v AA)(hx:AA.length<=1048576)(hm:∀i,i<AA.length->(AA.getD i []).length<=1048576):
  Calls Tryz.prog 37 #[v] w fun e w'=>e = .returned (.bool (AL AA))/\AC w w':=by
 have RW:=h;obtain⟨a,c,rfl,h⟩:=h;cases hb:Co (AA.length:Int) 1 3
 ·
  have HE:Hid (AL AA=false):=by
   refine AI ?_;simp[Co] at hb;rw[AL,KAi (by omega)];rfl
  go_enter Tryz.func37,Tryz.ntmps37
  go_wp2_with (go_at_call 69;refine (Gh _ _ _ _).mono ?_;rintro e w' ⟨rfl,rfl⟩)
  go_ret;exact⟨by rw[HE.out];rfl,AC.refl _⟩
 ·
  have h13:1<=AA.length/\AA.length<=3:=by simp[Co] at hb;omega
  have HIN:=AI h13;have h3:=h13.2;clear h13;go_enter Tryz.func37,Tryz.ntmps37
  go_wp2_with (go_at_call 69;refine (Gh _ _ _ _).mono ?_;rintro e w' ⟨rfl,rfl⟩)
  clear hb;go_loopw [3,4] (fun n i wr=>∃k m:Nat,k<=AA.length/\n = .int .i64 m/\i = .int .i64 k/\Hid (m=CQ (AA.take k)/\(AA.take k).all GQ=true)/\m<=5*k/\AC w' wr) (fun _ i _=>AA.length-(intOf i).toNat)
  case atStart=>exact⟨0,0,KAb _,rfl,rfl,AI (by simp[CQ]),by omega,AC.refl _⟩
  case round=>
   obtain⟨k,m,hk,rfl,rfl,hM,m5,hK⟩:=hrel;by_cases hlt:k<AA.length
   ·
    rcases h with h|⟨b,o,rfl,hb,hc⟩
    . exfalso;rw[h] at hlt;simp at hlt
    obtain⟨u,e1,r1⟩:=hc k hlt;have hmk:=hm k hlt;clear hc hm RW;obtain⟨ds,hds⟩:∃ds,ds=AA.getD k []:=⟨_,rfl⟩;have MR:=AI hds;rw[<-hds] at r1 hmk;clear hds;obtain⟨ai,ci,rfl,r1⟩:=r1;have d1:=(hK.cell hb).trans e1;have i1:(0:Int)<=(k:Int):=KAK _;have i2:(k:Int)<(AA.length:Int):=by omega
    go_wp2;go_loopw [5] (fun i wq=>∃q:Nat,q<=ds.length/\i = .int .i64 q/\Hid ((ds.take q).all Fy=true)/\AC w' wq) (fun i _=>ds.length-(intOf i).toNat)
    case atStart=>exact⟨0,KAb _,rfl,AI (by simp),hK⟩
    case round=>
     obtain⟨q,hq,rfl,hQ,hL⟩:=hrel;have d1:=(hL.cell hb).trans e1;by_cases hlq:q<ds.length
     ·
      rcases r1 with h|⟨b2,o2,rfl,hb2,hc2⟩
      . exfalso;rw[h] at hlq;simp at hlq
      have AT:=(hc2 q hlq).keep hb2 hL;clear hc2;have hbq:b<wr.heap.size:=KAC hb hL.size;have hb3:b2<wr.heap.size:=KAC hb2 hL.size;have j1:(0:Int)<=(q:Int):=KAK _;have j2:(q:Int)<(ds.length:Int):=by omega
      have HT:Fy (ds.getD q zD)=true->Hid ((ds.take (q+1)).all Fy=true):=fun e=>AI (Ru zD hlq hQ.out e)
      have HF:Fy (ds.getD q zD)=false->Hid (AL AA=false):=fun e=>AI (QH hlt (by rw[<-MR.out,GQ,QQ zD q hlq e];rfl))
      clear hQ;obtain⟨d,hd⟩:∃d,d=ds.getD q zD:=⟨_,rfl⟩;rw[<-hd] at AT HT HF;clear hd;obtain⟨x0,x1,x2,x3⟩:=d;obtain⟨A0,A1,A2,A3⟩:=AT;simp only at A0 A1 A2 A3;unfold Fy at HT HF;simp only at HT HF;cases hd:Ec x0 x1 x2 x3
      ·
       have HE:=HF hd;clear HT HF;go_wp2_with fail
       refine (Ir _ _ _ _ _).mono ?_;rintro e wz ⟨rfl,kk⟩;go_wp2;go_ret;exact⟨by rw[HE.out];rfl,hL.trans kk⟩
      ·
       have HE:=HT hd;clear HT HF;go_wp2_with fail
       refine (Ir _ _ _ _ _).mono ?_;rintro e wz ⟨rfl,kk⟩;go_wp2;go_roundw;case rel=>exact⟨q+1,by omega,by go_num,HE,hL.trans kk⟩
       case measure=>simp[intOf];omega
     ·
      obtain rfl:q=ds.length:=by omega
      rw[KBK] at hQ;by_cases h5:ds.length<=5
      ·
       have HE:Hid (m+ds.length=CQ (AA.take (k+1))/\(AA.take (k+1)).all GQ=true):=by
        refine AI ⟨?_,Ru [] hlt hM.out.2 (by rw[<-MR.out,GQ,hQ.out];simp[h5])⟩;rw[QG AA k [] hlt,Pp,<-MR.out,hM.out.1]
       go_wp2;go_roundw;case rel=>exact⟨k+1,m+ds.length,by omega,by go_num,by go_num,HE,by omega,hL⟩
       case measure=>simp[intOf];omega
      ·
       have HE:Hid (AL AA=false):=AI (QH hlt (by rw[<-MR.out,GQ];simp;omega));go_wp2;go_ret;exact⟨by rw[HE.out];rfl,hL⟩
   ·
    obtain rfl:k=AA.length:=by omega
    rw[KBK] at hM;have zL:∀i,i<AA.length->GQ (AA.getD i [])=true:=fun i hi=>Bm [] hM.out.2 i hi
    have HW:Hid (AL AA=(decide (m<=12)&&decide (SU AA AA.length<=6)&&Kg AA)):=by
     refine AI ?_;rw[AL,KAl HIN.out,hM.out.2,hM.out.1];rfl
    have rw1:=RW.keep hK;clear hM RW h hm;by_cases h12:m<=12
    ·
     have e12:decide ((m:Int)<=12)=true:=by simp;omega
     by_cases h6:SU AA AA.length<=6
     ·
      have HE:Hid (AL AA=Kg AA):=AI (by rw[HW.out];simp[h12,h6]);go_wp2_with fail
      refine (Kp _ _ _ rw1 h3 zL).mono ?_;rintro e wz ⟨rfl,kk⟩;have rw2:=rw1.keep kk;go_wp2_with fail
      refine (Qt _ _ _ rw2 h3 zL).mono ?_;rintro e wy ⟨rfl,k2⟩;go_wp2;go_ret;exact⟨by rw[HE.out];rfl,(hK.trans kk).trans k2⟩
     ·
      have HE:Hid (AL AA=false):=AI (by rw[HW.out];simp[h6]);go_wp2_with fail
      refine (Kp _ _ _ rw1 h3 zL).mono ?_;rintro e wz ⟨rfl,kk⟩;go_wp2;go_ret;exact⟨by rw[HE.out];rfl,hK.trans kk⟩
    ·
     have HE:Hid (AL AA=false):=AI (by rw[HW.out];simp[h12]);go_wp2;go_ret;exact⟨by rw[HE.out];rfl,hK⟩
section
abbrev dC (k p v g:Int):Obj:= .cells #[.int .i64 k,.int .i64 p,.int .i64 v,.int .i64 g] 82
abbrev eC (i k:Int)(r:Bool)(p v c:Int):Obj:= .cells #[.int .i64 i,.int .i64 k,.bool r,.int .i64 p,.int .i64 v,.int .i64 c] 85
structure lQ (w wr:World)(F:Nat)(out:Value)(es:List Ev)(f:List Int):Prop where
 app:GV wr w.heap.size out es
 row:Dk wr F f
 keep:AC w wr
 hF:w.heap.size<=F
 oF:out.ownBlock≠some F
structure Hh (w wr:World)(F D X:Nat)(out:Value)(es:List Ev)(f:List Int)(k p v g:Int)(i q:Int)(r:Bool)(pl vl c:Int):Prop where
 l:lQ w wr F out es f
 box:wr.heap[D]? = some (dC k p v g)
 ev:wr.heap[X]? = some (eC i q r pl vl c)
 hD:w.heap.size<=D
 hX:w.heap.size<=X
 DX:D≠X
 FD:F≠D
 FX:F≠X
 oD:out.ownBlock≠some D
 oX:out.ownBlock≠some X
theorem lQ.more {w wr wr':World}{F:Nat}{out:Value}{es:List Ev}{f:List Int}(h:lQ w wr F out es f)(k:AC wr wr'):lQ w wr' F out es f:=
 ⟨h.app.keep k,h.row.keep k,h.keep.trans k,h.hF,h.oF⟩
theorem lQ.boxes {w wr:World}{F:Nat}{out:Value}{es:List Ev}{f:List Int}(h:lQ w wr F out es f)(k p v g i q:Int)(r:Bool)(pl vl c:Int):
  Hh w ((wr.alloc (dC k p v g)).alloc (eC i q r pl vl c)) F wr.heap.size (wr.heap.size+1) out es f k p v g i q r pl vl c:=by
 have hs:=h.keep.size;have hR:=h.row.lt;have hl:=h.app.lt;have z:(wr.alloc (dC k p v g)).heap.size=wr.heap.size+1:=AD wr _;refine⟨h.more (((AC.refl wr).alloc _).alloc _),?_,?_,hs,by omega,by omega,by omega,by omega,fun e=>?_,fun e=>?_⟩
 . rw[Bs,KAQ (by rw[z];omega),Bs,KAP rfl]
 . rw[Bs,KAP z.symm]
 . have:=(hl _ e).2;omega
 . have:=(hl _ e).2;omega
variable {w wr:World} {F D X:Nat} {out:Value} {es:List Ev} {f:List Int} {k p v g i q pl vl c:Int} {r:Bool}
theorem Hh.more {wr':World}(h:Hh w wr F D X out es f k p v g i q r pl vl c)(kk:AC wr wr'):Hh w wr' F D X out es f k p v g i q r pl vl c:=
 ⟨h.l.more kk,(KAW kk D (KAm.1 h.box).1).trans h.box,(KAW kk X (KAm.1 h.ev).1).trans h.ev,h.hD,h.hX,h.DX,h.FD,h.FX,h.oD,h.oX⟩
theorem Hh.lt (h:Hh w wr F D X out es f k p v g i q r pl vl c):D<wr.heap.size/\X<wr.heap.size/\F<wr.heap.size:=
 ⟨(KAm.1 h.box).1,(KAm.1 h.ev).1,h.l.row.lt⟩
theorem Hh.deed (h:Hh w wr F D X out es f k p v g i q r pl vl c):
  wr.cell? ⟨D,0,none⟩=some (.int .i64 k)/\wr.cell? ⟨D,1,none⟩=some (.int .i64 p)/\wr.cell? ⟨D,2,none⟩=some (.int .i64 v)/\wr.cell? ⟨D,3,none⟩=some (.int .i64 g):=
 ⟨KAL wr D 0 _ _ (0,0) h.box,KAL wr D 1 _ _ (0,0) h.box,KAL wr D 2 _ _ (0,0) h.box,KAL wr D 3 _ _ (0,0) h.box⟩
theorem Hh.event (h:Hh w wr F D X out es f k p v g i q r pl vl c):
  wr.cell? ⟨X,0,none⟩=some (.int .i64 i)/\wr.cell? ⟨X,1,none⟩=some (.int .i64 q)/\wr.cell? ⟨X,2,none⟩=some (.bool r)/\wr.cell? ⟨X,3,none⟩=some (.int .i64 pl)/\wr.cell? ⟨X,4,none⟩=some (.int .i64 vl)/\wr.cell? ⟨X,5,none⟩=some (.int .i64 c):=
 ⟨KAL wr X 0 _ _ (0,0) h.ev,KAL wr X 1 _ _ (0,0) h.ev,KAL wr X 2 _ _ (0,0) h.ev,KAL wr X 3 _ _ (0,0) h.ev,KAL wr X 4 _ _ (0,0) h.ev,KAL wr X 5 _ _ (0,0) h.ev⟩
theorem Hh.free (h:Hh w wr F D X out es f k p v g i q r pl vl c)(j:Nat):wr.frozen? ⟨X,j,none⟩=false:=KA1 wr X j _ _ h.ev
theorem Hh.qR (h:Hh w wr F D X out es f k p v g i q r pl vl c)(j:Nat)(x:Value){r':Bool}{pl' vl' c':Int}
  (he:(wr.setCell ⟨X,j,none⟩ x).heap[X]? = some (eC i q r' pl' vl' c')):Hh w (wr.setCell ⟨X,j,none⟩ x) F D X out es f k p v g i q r' pl' vl' c':=by
 have hg:=Ad wr X j x;have a:=h.l;refine⟨⟨a.app.kept hg (.inr h.oX),a.row.kept hg (by simp;exact fun e=>h.FX e.symm),a.keep.grown hg (by simp;exact h.hX),a.hF,a.oF⟩,(hg.block D h.lt.1 (by simp;exact h.DX)).trans h.box,he,h.hD,h.hX,h.DX,h.FD,h.FX,h.oD,h.oX⟩
theorem Hh.set2 (h:Hh w wr F D X out es f k p v g i q r pl vl c)(x:Bool):Hh w (wr.setCell ⟨X,2,none⟩ (.bool x)) F D X out es f k p v g i q x pl vl c:=
 h.qR 2 _ (by rw[KAt wr X 2 _ _ _ h.ev];rfl)
theorem Hh.set4 (h:Hh w wr F D X out es f k p v g i q r pl vl c)(x:Int):Hh w (wr.setCell ⟨X,4,none⟩ (.int .i64 x)) F D X out es f k p v g i q r pl x c:=
 h.qR 4 _ (by rw[KAt wr X 4 _ _ _ h.ev];rfl)
theorem Hh.set5 (h:Hh w wr F D X out es f k p v g i q r pl vl c)(x:Int):Hh w (wr.setCell ⟨X,5,none⟩ (.int .i64 x)) F D X out es f k p v g i q r pl vl x:=
 h.qR 5 _ (by rw[KAt wr X 5 _ _ _ h.ev];rfl)
theorem Hh.wU (h:Hh w wr F D X out es f k p v g i q r pl vl c)(j:Nat)(x:Int):Hh w (wr.setCell ⟨F,j,none⟩ (.int .i64 x)) F D X out es (f.set j x) k p v g i q r pl vl c:=by
 have hg:=Ad wr F j (.int .i64 x);have a:=h.l;exact⟨⟨a.app.kept hg (.inr a.oF),a.row.set j x,a.keep.grown hg (by simp;exact a.hF),a.hF,a.oF⟩,(hg.block D h.lt.1 (by simp;exact fun e=>h.FD e.symm)).trans h.box,(hg.block X h.lt.2.1 (by simp;exact fun e=>h.FX e.symm)).trans h.ev,h.hD,h.hX,h.DX,h.FD,h.FX,h.oD,h.oX⟩
theorem Hh.hit (h:Hh w wr F D X out es f k p v g i q r pl vl c){o:Obj}{v':Value}{w':World}(e:Ev)
  (ho:w'.ownsRow w.heap.size 85 6 v' (es.length+1) (es.flatMap cE++cE e)) (hg:(wr.alloc o).grownBy w' out.ownBlock) (hb:v'.ownBlock=out.ownBlock\/v'.ownBlock=some (wr.heap.size+1)):
  Hh w w' F D X v' (es++[e]) f k p v g i q r pl vl c:=by
 have h1:=h.more ((AC.refl wr).alloc o);obtain⟨a1,a2,a3⟩:=h1.lt
 have apart:∀n,n<(wr.alloc o).heap.size->out.ownBlock≠some n->v'.ownBlock≠some n:=fun n hn hne e=>by
  rcases hb with hb|hb
  . exact hne (hb ▸ e)
  . rw[hb] at e;have:=KAI e;rw[AD] at hn;omega
 exact⟨⟨KN ho,h1.l.row.kept hg h1.l.oF,h1.l.keep.grown hg h1.l.app.ge,h1.l.hF,apart F a3 h1.l.oF⟩,(hg.block D a1 (fun e=>h1.oD e.symm)).trans h1.box,(hg.block X a2 (fun e=>h1.oX e.symm)).trans h1.ev,h1.hD,h1.hX,h1.DX,h1.FD,h1.FX,apart D a1 h1.oD,apart X a2 h1.oX⟩
theorem M4 (e:Ev):∀u∈cE e,u.oneCell'=true:=by
 intro u hu;simp only[cE,KBL,KBo,KCl] at hu;rcases hu with rfl|rfl|rfl|rfl|rfl|rfl<;>rfl
theorem M3 (w:World)(i q:Int)(r:Bool)(pl vl c:Int):∀j u,(cE (i,q,r,pl,vl,c))[j]? = some u->(w.alloc (eC i q r pl vl c)).cell? ((⟨w.heap.size,0,none⟩:Addr).add j)=some u:=by
 intro j u hj
 match j,hj with
 | 0,hj=>simp[cE] at hj;subst hj;simp[Addr.add]
 | 1,hj=>simp[cE] at hj;subst hj;simp[Addr.add]
 | 2,hj=>simp[cE] at hj;subst hj;simp[Addr.add]
 | 3,hj=>simp[cE] at hj;subst hj;simp[Addr.add]
 | 4,hj=>simp[cE] at hj;subst hj;simp[Addr.add]
 | 5,hj=>simp[cE] at hj;subst hj;simp[Addr.add]
theorem ZN (w:World)(n:Nat)(hn:w.heap.size=n)(i q:Int)(r:Bool)(pl vl c:Int):∀j u,(cE (i,q,r,pl,vl,c))[j]? = some u->(w.alloc (eC i q r pl vl c)).cell? ((⟨n,0,none⟩:Addr).add j)=some u:=by
 subst hn;exact M3 w i q r pl vl c
end
end Go.Proofs.YtflehmepjhikcaaGreatDoor
