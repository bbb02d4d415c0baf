/- Gathered texts. -/
import Derived.Test.YtnmelakgmgenjaaGreatMK
import Derived.Deep.Cut
import Derived.Test.YtnmelakgmgenjaaGreatME
import Derived.Outline
import Derived.Laws.AppendOwnNone
set_option maxRecDepth 100000
set_option maxHeartbeats 8000000
namespace Go.Proofs.YtnmelakgmgenjaaGreat
open Go.ChangeShapes Go.WideShapes Go.ChangeAt Go.RowKit
open Go.RowKit
section
def CJ (rows:List Nat)(cnt:Nat->Nat)(B:Nat->Bool)(j:Nat×Nat):Prop:=j.1∈rows/\B j.1=true/\j.2<cnt j.1
def St (R:Nat×Nat->Rw)(o:Nat)(r:Nat->Rw):Nat×Nat->Rw:=fun j=>if j.1=o then r j.2 else R j
theorem FE {rows:List Nat}{cnt:Nat->Nat}{B:Nat->Bool}{i:Nat}{j:Nat×Nat}(h:CJ rows cnt (AZ B i) j):CJ rows cnt B j\/j.1=i:=by
 obtain⟨h1,h2,h3⟩:=h;by_cases e:j.1=i
 . exact .inr e
 ·
  refine .inl ⟨h1,?_,h3⟩;unfold AZ at h2;rw[if_neg e] at h2;exact h2
theorem C9 {rows:List Nat}{cnt:Nat->Nat}{B:Nat->Bool}{i:Nat}{j:Nat×Nat}(hi:i∉rows)(h:CJ rows cnt (AZ B i) j):CJ rows cnt B j:=by
 rcases FE h with q|q
 . exact q
 . exact absurd h.1 (by rw[q];exact hi)
structure Jn (w:World)(m:Nat)(live:Nat×Nat->Prop)(R:Nat×Nat->Rw)(wk:Bool)(vW:Value)(wv:List Value)(bs N:Nat)(AA:List (List Dd)):Prop where
 Ai:GH w m live R
 work:wk=true->JP w bs N vW AA/\Dh w bs N vW wv AA/\N<=w.heap.size/\m<=bs
 out:wk=true->∀i,live i->∀k,(R i).v.ownBlock=some k->k<bs\/N<=k
section
variable {w w':World} {m:Nat} {rows:List Nat} {cnt:Nat->Nat} {B:Nat->Bool} {R:Nat×Nat->Rw} {wk:Bool} {vW:Value} {wv:List Value} {bs N:Nat} {AA:List (List Dd)}
theorem Jn.start (w:World)(m:Nat)(rows:List Nat)(cnt:Nat->Nat)(R:Nat×Nat->Rw)(vW:Value)(wv:List Value)(bs N:Nat)(AA:List (List Dd)):Jn w m (CJ rows cnt (fun _=>false)) R false vW wv bs N AA:=
 ⟨⟨fun _ h=>(by cases h.2.1),fun _ _ h=>(by cases h.2.1)⟩,fun h=>(by cases h),fun h=>(by cases h)⟩
theorem Jn.keep {live:Nat×Nat->Prop}(h:Jn w m live R wk vW wv bs N AA)(k:AC w w'):Jn w' m live R wk vW wv bs N AA:=
 ⟨h.Ai.keep k,fun e=>⟨(h.work e).1.kept k.grownBy (by simp),(h.work e).2.1.keep k,Nat.le_trans (h.work e).2.2.1 k.size,(h.work e).2.2.2⟩,h.out⟩
theorem Jn.pass (h:Jn w m (CJ rows cnt B) R wk vW wv bs N AA){i:Nat}(hi:i∉rows):Jn w m (CJ rows cnt (AZ B i)) R wk vW wv bs N AA:=
 ⟨h.Ai.congr (fun _ hj=>C9 hi hj) (fun _ _=>rfl),h.work,fun e j hj=>h.out e j (C9 hi hj)⟩
theorem Jn.add (h:Jn w m (CJ rows cnt B) R wk vW wv bs N AA){i:Nat}(hi:B i=false){r:Nat->Rw}(k:AC w w')(ho:∀q,q<cnt i->(r q).own w' m)(ha:∀p q,p<cnt i->q<cnt i->p≠q->(r p).v.ownBlock=none\/(r p).v.ownBlock≠(r q).v.ownBlock)
  (hn:∀q,q<cnt i->∀b,(r q).v.ownBlock=some b->w.heap.size<=b):Jn w' m (CJ rows cnt (AZ B i)) (St R i r) wk vW wv bs N AA:=by
 have hk:=h.keep k;have sK:∀j,CJ rows cnt B j->j.1≠i:=fun j hj e=>by have q:=hj.2.1;rw[e,hi] at q;cases q
 have eo:∀j:Nat×Nat,j.1≠i->St R i r j=R j:=fun j hj=>if_neg hj
 have es:∀j:Nat×Nat,j.1=i->St R i r j=r j.2:=fun j hj=>if_pos hj
 have cs:∀j:Nat×Nat,j.1=i->CJ rows cnt (AZ B i) j->j.2<cnt i:=fun j e hj=>by have:=hj.2.2;rw[e] at this;exact this
 have old:∀j,CJ rows cnt B j->∀q,q<cnt i->(R j).v.ownBlock=none\/(R j).v.ownBlock≠(r q).v.ownBlock:=fun j hj q hq=>by
  cases e:(R j).v.ownBlock with
  |none=>exact .inl rfl
  |some b=>exact .inr (fun e'=>by have:=(h.Ai.lt hj b e).2;have:=hn q hq b e'.symm;omega)
 refine⟨⟨fun j hj=>?_,fun j l hj hl hjl=>?_⟩,hk.work,fun e j hj b hb=>?_⟩
 ·
  rcases FE hj with q|q
  . rw[eo j (sK j q)];exact hk.Ai.own j q
  . rw[es j q];exact ho _ (cs j q hj)
 ·
  rcases FE hj with q|q
  ·
   rw[eo j (sK j q)];rcases FE hl with p|p
   . rw[eo l (sK l p)];exact h.Ai.apart j l q p hjl
   . rw[es l p];exact old j q _ (cs l p hl)
  ·
   rw[es j q];rcases FE hl with p|p
   ·
    rw[eo l (sK l p)];rcases old l p _ (cs j q hj) with x|x
    ·
     rw[x]
     cases (r j.2).v.ownBlock with
     |none=>exact .inl rfl
     |some b=>exact .inr (by simp)
    . exact .inr (fun e=>x e.symm)
   ·
    rw[es l p];refine ha _ _ (cs j q hj) (cs l p hl) (fun e=>hjl ?_);exact Prod.ext (q.trans p.symm) e
 ·
  rcases FE hj with q|q
  . rw[eo j (sK j q)] at hb;exact h.out e j q b hb
  ·
   rw[es j q] at hb;have:=hn _ (cs j q hj) b hb;have:=(h.work e).2.2.1;right;omega
theorem Jn.one (h:Jn w m (CJ rows cnt B) R wk vW wv bs N AA){i:Nat}(hi:B i=false)(hc:cnt i=1){r:Rw}(k:AC w w')(ho:r.own w' m)(hn:∀b,r.v.ownBlock=some b->w.heap.size<=b):Jn w' m (CJ rows cnt (AZ B i)) (St R i (fun _=>r)) wk vW wv bs N AA:=
 h.add hi k (fun _ _=>ho) (fun p q hp hq hne=>absurd (by omega:p=q) hne) (fun _ _=>hn)
theorem Jn.copied (h:Jn w m (CJ rows cnt B) R false vW wv bs N AA){i:Nat}(hi:i∉rows){v':Value}{V:Nat->Value}(k:AC w w')(hx:CU w' w.heap.size w'.heap.size v' V AA)(hm:m<=w.heap.size):Jn w' m (CJ rows cnt (AZ B i)) R true v' ((List.range AA.length).map V) w.heap.size w'.heap.size AA:=
 ⟨(h.Ai.keep k).congr (fun _ hj=>C9 hi hj) (fun _ _=>rfl),fun _=>⟨hx.wF.upto,hx.ja,Nat.le_refl _,hm⟩,fun _ _ hj b hb => .inl (h.Ai.lt (C9 hi hj) b hb).2⟩
theorem Jn.grow (h:Jn w m (CJ rows cnt B) R wk vW wv bs N AA){i o:Nat}(hi:i∉rows)(hc:cnt o=1)(hj:CJ rows cnt B (o,0)){r:Rw}(hg:w.grownBy w' (R (o,0)).v.ownBlock)(hv:r.v.ownBlock=(R (o,0)).v.ownBlock\/r.v.ownBlock=some w.heap.size)(ho:r.own w' m):Jn w' m (CJ rows cnt (AZ B i)) (St R o (fun _=>r)) wk vW wv bs N AA:=by
 have F:=h.Ai.set hj (r:=r) hg (by rcases hv with e|e;exact .inl e;exact .inr (.inl e)) ho
 have eq:∀j,CJ rows cnt (AZ B i) j->St R o (fun _=>r) j=JC R (o,0) r j:=fun j q=>by
  unfold St JC;by_cases e:j.1=o
  ·
   have h2:j.2=0:=by have:=q.2.2;rw[e,hc] at this;omega
   rw[if_pos e,if_pos (Prod.ext e h2)]
  . rw[if_neg e,if_neg (fun x=>e (by rw[x]))]
 refine⟨F.congr (fun _ q=>C9 hi q) eq,fun e=>⟨(h.work e).1.kept hg (fun g e'=>h.out e _ hj g e'),(h.work e).2.1.kept hg (fun g e'=>h.out e _ hj g e'),Nat.le_trans (h.work e).2.2.1 hg.size,(h.work e).2.2.2⟩,fun e q hq b hb=>?_⟩;rw[eq q hq] at hb;by_cases eq':q=(o,0)
 ·
  subst eq';rw[Ap] at hb;rcases hv with e1|e1
  . rw[e1] at hb;exact h.out e _ hj b hb
  ·
   rw[e1] at hb;have:=Option.some.inj hb;have:=(h.work e).2.2.1;right;omega
 ·
  rw[AV _ _ eq'] at hb;exact h.out e q (C9 hi hq) b hb
theorem Jn.far (h:Jn w m (CJ rows cnt B) R wk vW wv bs N AA){i:Nat}(hi:i∉rows){g:Nat}(hg:w.grownBy w' (some g))(hl:g<m):Jn w' m (CJ rows cnt (AZ B i)) R wk vW wv bs N AA:=
  ⟨(h.Ai.far hg (fun j hj=>by
    cases e:(R j).v.ownBlock with
    |none=>exact .inl rfl
    |some k=>exact .inr (fun e'=>by have:=(h.Ai.lt hj k e).1;have:=Option.some.inj e';omega))).congr (fun _ q=>C9 hi q) (fun _ _=>rfl),
   fun e=>⟨(h.work e).1.kept hg (fun q e'=>by have:=Option.some.inj e';have:=(h.work e).2.2.2;omega),(h.work e).2.1.kept hg (fun q e'=>by have:=Option.some.inj e';have:=(h.work e).2.2.2;omega),Nat.le_trans (h.work e).2.2.1 hg.size,(h.work e).2.2.2⟩,fun e j hj=>h.out e j (C9 hi hj)⟩
theorem Jn.jM (h:Jn w m (CJ rows cnt B) R wk vW wv bs N AA){α:Type}{t:TypeId}{rowOf:List α->Value->Rw}{i:Nat}(hi:B i=false){v:Value}{hs:List Value}{xss:List (List α)}(hc:cnt i=xss.length+1)(k:AC w w')(hm:m<=w.heap.size)(o:DM t rowOf w' w.heap.size v hs xss):
  Jn w' m (CJ rows cnt (AZ B i)) (St R i (fun q=>LJ t rowOf v hs xss (match q with|0=>none|q+1=>some q))) wk vW wv bs N AA:=by
 have lv:∀q,q<cnt i->Ek hs.length (match q with|0=>none|q+1=>some q):=fun q hq=>by
  cases q with
  |zero=>trivial
  |succ q=>show q<hs.length;rw[o.len];omega
 refine h.add hi k (fun q hq=>DS (o.Ai.own _ (lv q hq)) hm) (fun p q hp hq hne=>o.Ai.apart _ _ (lv p hp) (lv q hq) (fun e=>hne ?_)) (fun q hq b hb=>(o.Ai.lt (lv q hq) b hb).1);cases p<;>cases q<;>simp_all
end
end
theorem Tryz.ZD:(Tryz.prog.info? 65).map (fun i=>(i.zero,i.size,i.bytes))=some (some (.agg #[.int .i64 0,.int .i64 0,.int .i64 0,.int .i64 0]),4,32):=by kernel_rfl
theorem Tryz.ZE:(Tryz.prog.info? 62).map (fun i=>(i.zero,i.size,i.bytes))=some (some (.slice none 0 0),1,24):=by kernel_rfl
theorem Pt (ds:List Dd):(ds.flatMap cD).length=ds.length*4:=by
 induction ds with
 |nil=>rfl
 |cons d r ih=>rw[List.flatMap_cons,List.length_append,ih,List.length_cons];simp[cD];omega
theorem Uh (ds:List Dd):∀u∈ds.flatMap cD,u.oneCell'=true:=fun u hu=>by
 obtain⟨x,_,hx⟩:=List.mem_flatMap.1 hu;simp only[cD,List.mem_cons,List.not_mem_nil,or_false] at hx;rcases hx with rfl|rfl|rfl|rfl<;>rfl
theorem Om {w:World}{b off:Nat}{ds:List Dd}(h:∀i,i<ds.length->af w b (off+i*4) (ds.getD i zD)):∀j u,(ds.flatMap cD)[j]? = some u->w.cell? ((⟨b,off,none⟩:Addr).add j)=some u:=fun j u hj=>by
 have hl:j<ds.length*4:=by rw[<-Pt];exact (List.getElem?_eq_some_iff.1 hj).1
 have hi:j / 4<ds.length:=by omega
 have hm:j % 4<4:=Nat.mod_lt _ (by omega);have e:j=j / 4*4+j % 4:=by omega
 have h1:=YZ ds (j / 4) (j % 4) hi hm;rw[<-e] at h1;rw[h1] at hj;have ea:(⟨b,off,none⟩:Addr).add j=⟨b,off+j / 4*4+j % 4,none⟩:=by rw[show off+j / 4*4+j % 4=off+j by omega];simp[Addr.add]
 rw[ea];obtain⟨a0,a1,a2,a3⟩:=h (j / 4) hi;have:j % 4=0\/j % 4=1\/j % 4=2\/j % 4=3:=by omega
 rcases this with q|q|q|q<;>rw[q] at hj ⊢<;>simp[cD] at hj<;>subst hj
 . exact a0
 . exact a1
 . exact a2
 . exact a3
theorem NA (w:World)(v:Value)(AA:List (List Dd))(h:JJ w v AA)(hx:AA.length<=1048576)(hm:∀i,i<AA.length->(AA.getD i []).length<=1048576):
  Calls Tryz.prog 83 #[v] w fun e w'=>∃v',e = .returned v'/\bB w' w.heap.size v' AA/\AC w w':=by
 obtain⟨aD,vK,rfl,h⟩:=h;obtain⟨i0,hi,hz0,hz1,hz2⟩:=info_parts Tryz.ZD;obtain⟨j0,hj,hy0,hy1,hy2⟩:=info_parts Tryz.ZE
 have hown0:CU (w.alloc (.cells #[] 62)) w.heap.size (w.alloc (.cells #[] 62)).heap.size (.slice (some ⟨w.heap.size,0,none⟩) 0 0) (fun _=>vZ) (AA.take 0):=by
  rw[List.take_zero];exact⟨World.ownsRow_lit w #[] 0 (Nat.le_refl _) (by decide) rfl,fun k hk=>by simp[Value.ownBlock] at hk;subst hk;simp,fun i hi=>by simp at hi,fun i hi=>by simp at hi,fun i hi=>by simp at hi,fun i j _ hj=>by simp at hj⟩
 go_enter Tryz.func83,Tryz.ntmps83
 go_wp2;go_loopw [3,4] (fun v0 i wr=>∃(k:Nat) (v:Value) (V:Nat->Value),v=v0/\k<=AA.length/\i = .int .i64 k/\CU wr w.heap.size wr.heap.size v V (AA.take k)/\AC w wr) (fun _ i _=>AA.length-(intOf i).toNat)
 case atStart=>exact⟨0,_,_,rfl,Nat.zero_le _,rfl,hown0,(AC.refl _).alloc _⟩
 case round=>
  obtain⟨k,v,V,rfl,hk,rfl,ho,hK⟩:=hrel;clear hown0;by_cases hlt:k<AA.length
  ·
   rcases h with h0|⟨b,off,rfl,hb,hc⟩
   . exfalso;rw[h0] at hlt;simp at hlt
   obtain⟨vi,d1,r1⟩:=hc k hlt;have d2:=(hK.cell hb).trans d1;have r2:=r1.keep hK;have hml:=hm k hlt
   have HT:Hid (AA.take (k+1)=AA.take k++[AA.getD k []]):=Lib.hid (by
    rw[List.take_add_one,List.getD_eq_getElem?_getD,List.getElem?_eq_getElem hlt];rfl)
   have hlen:(AA.take k).length=k:=by rw[List.length_take];omega
   generalize AA.getD k []=ds at *;obtain⟨ai,ci,rfl,r2⟩:=r2;have i1:(0:Int)<=(k:Int):=Int.natCast_nonneg _;have i2:(k:Int)<(AA.length:Int):=by omega
   have hsz:=hK.size;clear hc d1 r1;have OE:(wr.alloc (.cells #[] 65)).ownsRow wr.heap.size 65 4 (.slice (some ⟨wr.heap.size,0,none⟩) 0 0) 0 []:=World.ownsRow_lit wr #[] 0 (Nat.le_refl _) (by decide) rfl;have d3:(wr.alloc (.cells #[] 65)).cell? ⟨b,off+k,none⟩=some (.slice ai ds.length (ds.length+ci)):=(((AC.refl wr).alloc _).cell (Nat.lt_of_lt_of_le hb hsz)).trans d2;rcases r2 with h0|⟨bd,od,rfl,hbd,hcd⟩
   ·
    subst h0
    cases ai with
    |none=>
     have OD:Br (wr.alloc (.cells #[] 65)) wr.heap.size (.slice (some ⟨wr.heap.size,0,none⟩) 0 0) []:=OE;have k5:AC wr (wr.alloc (.cells #[] 65)):=(AC.refl wr).alloc _;have HX5:=(ho.keep k5).keep ((AC.refl (wr.alloc (.cells #[] 65))).alloc (.cells #[.slice (some ⟨wr.heap.size,0,none⟩) 0 0] 62));have HR:=HX5.row;rw[hlen] at HR;have RF:=OD.keep ((AC.refl (wr.alloc (.cells #[] 65))).alloc (.cells #[.slice (some ⟨wr.heap.size,0,none⟩) 0 0] 62));have s5:=k5.size;go_wp2_with (at_builtin;refine wpList_append_own_at _ rfl _ _ 24 rfl w.heap.size 62 j0 (.slice none 0 0) 1 24 Tryz.underlying24 hj hy0 hy1 hy2 rfl (by decide) _ _ _ rfl HR ⟨_,0,none⟩ 1 1 [.slice (some ⟨wr.heap.size,0,none⟩) 0 0] rfl rfl ?e1 ?e2 ?e3 ?e4 ?e5 ?_)
     case e1=>
      intro j u hj
      match j,hj with
      | 0,hj=>simp at hj;subst hj;simp[Addr.add]
     case e2=>intro u hu;simp at hu;subst hu;rfl
     case e3=>unfold maxLen;omega
     case e4=>omega
     case e5=>simp;omega
     intro v' w7 hown7 hgrow7 _ hblk7;have HP:=HX5.push RF hsz (by rw[hlen];exact hown7) hgrow7 (by rw[AD,AD];exact hblk7) (by simp;omega);have K7:AC w w7:=((hK.trans k5).alloc _).grown hgrow7 (fun k hk=>(World.ownsRow.lt HR k hk).1);clear hown7 hgrow7 hblk7 HR HX5 RF;go_wp2;go_roundw;case rel=>exact⟨k+1,_,_,rfl,by omega,by go_num,by rw[HT.out];exact HP,K7⟩
     case measure=>simp[intOf];omega
    |some x=>
     go_wp2_with (at_builtin;refine wpList_append_own _ rfl _ _ 62 rfl wr.heap.size 65 i0 (.agg #[.int .i64 0,.int .i64 0,.int .i64 0,.int .i64 0]) 4 32 Tryz.underlying62 hi hz0 hz1 hz2 rfl (by decide) _ _ _ rfl OE x 0 ci [] rfl rfl ?c1 ?c2 ?c3 ?c4 ?c5 ?_)
     case c1=>intro j u hj;simp at hj
     case c2=>intro u hu;simp at hu
     case c3=>simp
     case c4=>simp
     case c5=>simp
     intro u w5 hown5 hgrow5 _;have OD:Br w5 wr.heap.size u []:=by unfold Br;simpa using hown5
     have k5:AC wr w5:=((AC.refl wr).alloc (.cells #[] 65)).grown hgrow5 (fun k hk=>(World.ownsRow.lt OE k hk).1);clear hown5 hgrow5;obtain⟨au,cu,hu⟩:∃a c,u = .slice a 0 c:=OD.shape;subst hu;have HX5:=(ho.keep k5).keep ((AC.refl w5).alloc (.cells #[.slice au 0 cu] 62));have HR:=HX5.row;rw[hlen] at HR;have RF:=OD.keep ((AC.refl w5).alloc (.cells #[.slice au 0 cu] 62));have s5:=k5.size;go_wp2_with (at_builtin;refine wpList_append_own_at _ rfl _ _ 24 rfl w.heap.size 62 j0 (.slice none 0 0) 1 24 Tryz.underlying24 hj hy0 hy1 hy2 rfl (by decide) _ _ _ rfl HR ⟨_,0,none⟩ 1 1 [.slice au 0 cu] rfl rfl ?e1 ?e2 ?e3 ?e4 ?e5 ?_)
     case e1=>
      intro j u hj
      match j,hj with
      | 0,hj=>simp at hj;subst hj;simp[Addr.add]
     case e2=>intro u hu;simp at hu;subst hu;rfl
     case e3=>unfold maxLen;omega
     case e4=>omega
     case e5=>simp;omega
     intro v' w7 hown7 hgrow7 _ hblk7;have HP:=HX5.push RF hsz (by rw[hlen];exact hown7) hgrow7 (by rw[AD];exact hblk7) (by simp;omega);have K7:AC w w7:=((hK.trans k5).alloc _).grown hgrow7 (fun k hk=>(World.ownsRow.lt HR k hk).1);clear hown7 hgrow7 hblk7 HR HX5 RF;go_wp2;go_roundw;case rel=>exact⟨k+1,_,_,rfl,by omega,by go_num,by rw[HT.out];exact HP,K7⟩
     case measure=>simp[intOf];omega
   ·
    have NC:=Om (w:=wr.alloc (.cells #[] 65)) (b:=bd) (off:=od) (ds:=ds) (fun i hi=>(hcd i hi).keep hbd ((AC.refl wr).alloc _));go_wp2_with (at_builtin;refine wpList_append_own _ rfl _ _ 62 rfl wr.heap.size 65 i0 (.agg #[.int .i64 0,.int .i64 0,.int .i64 0,.int .i64 0]) 4 32 Tryz.underlying62 hi hz0 hz1 hz2 rfl (by decide) _ _ _ rfl OE ⟨bd,od,none⟩ ds.length (ds.length+ci) (ds.flatMap cD) rfl (Pt ds) ?c1 ?c2 ?c3 ?c4 ?c5 ?_)
    case c1=>exact NC
    case c2=>exact Uh ds
    case c3=>unfold maxLen;omega
    case c4=>omega
    case c5=>simp
    intro u w5 hown5 hgrow5 _;have OD:Br w5 wr.heap.size u ds:=by unfold Br;simpa using hown5
    have k5:AC wr w5:=((AC.refl wr).alloc (.cells #[] 65)).grown hgrow5 (fun k hk=>(World.ownsRow.lt OE k hk).1);clear hown5 hgrow5;obtain⟨au,cu,hu⟩:=OD.shape;subst hu;have HX5:=(ho.keep k5).keep ((AC.refl w5).alloc (.cells #[.slice au ds.length cu] 62));have HR:=HX5.row;rw[hlen] at HR;have RF:=OD.keep ((AC.refl w5).alloc (.cells #[.slice au ds.length cu] 62));have s5:=k5.size;go_wp2_with (at_builtin;refine wpList_append_own_at _ rfl _ _ 24 rfl w.heap.size 62 j0 (.slice none 0 0) 1 24 Tryz.underlying24 hj hy0 hy1 hy2 rfl (by decide) _ _ _ rfl HR ⟨_,0,none⟩ 1 1 [.slice au ds.length cu] rfl rfl ?e1 ?e2 ?e3 ?e4 ?e5 ?_)
    case e1=>
     intro j u hj
     match j,hj with
     | 0,hj=>simp at hj;subst hj;simp[Addr.add]
    case e2=>intro u hu;simp at hu;subst hu;rfl
    case e3=>unfold maxLen;omega
    case e4=>omega
    case e5=>simp;omega
    intro v' w7 hown7 hgrow7 _ hblk7;have HP:=HX5.push RF hsz (by rw[hlen];exact hown7) hgrow7 (by rw[AD];exact hblk7) (by simp;omega);have K7:AC w w7:=((hK.trans k5).alloc _).grown hgrow7 (fun k hk=>(World.ownsRow.lt HR k hk).1);clear hown7 hgrow7 hblk7 HR HX5 RF;go_wp2;go_roundw;case rel=>exact⟨k+1,_,_,rfl,by omega,by go_num,by rw[HT.out];exact HP,K7⟩
    case measure=>simp[intOf];omega
  ·
   obtain rfl:k=AA.length:=by omega
   rw[List.take_length] at ho;go_wp2;go_ret;exact⟨_,rfl,ho.wF,hK⟩
theorem mE {es:List Ev}{j:Nat}(h12:es.length<=12)(hj:j<es.length)(hr:Ah (es.getD j zE)=true):∃i,i<(AX Ah es).length/\(AX Ah es).getD i 0=(j:Int)/\∀q,q<i->(AX Ah es).getD q 0≠(j:Int):=by
 obtain⟨t,ht⟩:=Mx Ah es (j+1) es.length hj
 have e1:Bi Ah es (j+1)=Bi Ah es j++[(j:Int)]:=by
  show (if Ah (es.getD j zE)=true then Bi Ah es j++[(j:Int)] else Bi Ah es j)=_;rw[if_pos hr]
 have e2:AX Ah es=Bi Ah es j++([(j:Int)]++t):=by
  unfold AX;rw[if_pos h12];rw[ht,e1,List.append_assoc]
 refine⟨(Bi Ah es j).length,?_,?_,fun q hq=>?_⟩
 . rw[e2];simp
 . rw[e2,List.getD_eq_getElem?_getD,List.getElem?_append_right (Nat.le_refl _)];simp
 ·
  rw[e2,List.getD_eq_getElem?_getD,List.getElem?_append_left hq,List.getElem?_eq_getElem hq];have:=Ig Ah es j _ (List.getElem_mem hq);show (Bi Ah es j)[q]≠_;omega
theorem fU {AA:List (List Dd)}{b:Bd}{n:Nat}(h:Di AA b n)(c k:Nat)(pl:Bool)(j:Nat)(e:Ev):Di AA (Q5 (AX Ah (AB AA)) c k pl b j e) (n+1):=by
 unfold Q5;split
 ·
  split
  . exact (h.see _ _ _).mono (by omega)
  ·
   split
   . exact h.note c _
   . exact h.ZH _ _ _
 . exact h.mono (by omega)
theorem Ul {AA:List (List Dd)}{b:Bd}{n:Nat}(h:Di AA b n)(c k:Nat)(pl:Bool):∀j:Nat,Di AA (C6 (AB AA) (AX Ah (AB AA)) c k pl b j) (n+j)
 | 0=>h
 |j+1=>fU (Ul h c k pl j) c k pl j _
theorem Pu (es:List Ev)(rs:List Int)(c k:Nat)(pl:Bool)(b:Bd):∀j:Nat,(C6 es rs c k pl b j).AL=b.AL
 | 0=>rfl
 |j+1=>by
  show (Q5 rs c k pl (C6 es rs c k pl b j) j (es.getD j zE)).AL=b.AL;rw[<-Pu es rs c k pl b j];unfold Q5;split
  ·
   split
   . rfl
   . split<;>rfl
  . rfl
theorem Di.sz {AA:List (List Dd)}{b:Bd}{n:Nat}(h:Di AA b n)(hn:n<=2000):Gi AA b:=by
 have u:=(Ay h.work).1;have l5:=fun i hi=>Da h.work (c:=i) hi
 have r12:=IB Ah (AB AA);have e12:=Bv AA;exact⟨by omega,fun i hi=>by have:=l5 i hi;omega,by have:=h.AM;omega,by have:=h.AO;omega,by have:=h.AG;omega,fun i _=>by have:=h.nl i;omega,by have:=h.AL;omega,by have:=h.sn;omega,by have:=h.fr;omega,by have:=h.rws;omega,fun i _=>by have:=h.rl i;omega⟩
theorem ku {AA:List (List Dd)}(hb:AQ AA=true){c:Nat}(hc:c<AA.length)(b:Bd)(hk:Ao b c<(AA.getD c []).length)(h0:0<=b.AL.getD c 0)(h3:(Al AA c (Ao b c)).1=3->b.AG.getD c []=[]):
  { C6 (AB AA) (AX Ah (AB AA)) c (Ao b c) (Dv (Al AA c (Ao b c))) b (AB AA).length with AL:=(C6 (AB AA) (AX Ah (AB AA)) c (Ao b c) (Dv (Al AA c (Ao b c))) b (AB AA).length).AL.set c ((Ao b c:Int)+1) }=Aj AA (AB AA) b c:=by
 rw[Pu,fV hb hc hk b h3];unfold Aj;have:(Ao b c:Int)=b.AL.getD c 0:=by unfold Ao;omega
 rw[this]
theorem fw {AA:List (List Dd)}(hb:AQ AA=true){c k j:Nat}(hc:c<AA.length)(hk:k<(AA.getD c []).length)(hj:j<(AB AA).length)(h:((AB AA).getD j zE).1=(c:Int)/\((AB AA).getD j zE).2.1=(k:Int)):∃p:Nat,p<3/\((AB AA).getD j zE).2.2.2.1=(p:Int):=by
 obtain⟨i,E⟩:=Yr hb hj h;obtain⟨⟨p,hp,e⟩,-⟩:=Ui hb hc hk;exact⟨p,hp,by rw[E.at hb];exact e⟩
theorem Qd {AA:List (List Dd)}{es:List Ev}{b:Bd}{c:Nat}(hc:c<b.AL.length)(h0:0<=b.AL.getD c 0):(Aj AA es b c).AL.getD c 0=b.AL.getD c 0+1/\Ao (Aj AA es b c) c=Ao b c+1:=by
 have e:(Aj AA es b c).AL.getD c 0=b.AL.getD c 0+1:=by
  show (b.AL.set c (b.AL.getD c 0+1)).getD c 0=_;rw[List.getD_eq_getElem?_getD,List.getElem?_set];simp[hc]
 refine⟨e,?_⟩;unfold Ao;rw[e];omega
structure WK (AA:List (List Dd))(c:Nat)(g:Int)(T:Bd)(b:Bd)(n:Nat):Prop where
 Xr:Di AA b n
 le:Ao b c<=(AA.getD c []).length
 z:0<=b.AL.getD c 0
 nt:n+((AA.getD c []).length-Ao b c)<=1000
 go:∃m,(AA.getD c []).length<=Ao b c+m/\T=if Ao b c<(AA.getD c []).length/\Gq (AA.getD c []) (Ao b c)=true then Ef AA (AB AA) g c m b else b
 gg:Ao b c<(AA.getD c []).length->Gq (AA.getD c []) (Ao b c)=true->BP AA c (Ao b c)=g/\g≠0
theorem WK.step {AA:List (List Dd)}{c:Nat}{g:Int}{T b:Bd}{n:Nat}(h:WK AA c g T b n)(hc:c<AA.length)(hl:Ao b c<(AA.getD c []).length)(hg:Gq (AA.getD c []) (Ao b c)=true):WK AA c g T (Aj AA (AB AA) b c) (n+1):=by
 obtain⟨g1,g2⟩:=h.gg hl hg;obtain⟨e1,e2⟩:=Qd (AA:=AA) (es:=AB AA) (by rw[h.Xr.AL];exact hc) h.z;obtain⟨m,m1,m2⟩:=h.go;rw[if_pos ⟨hl,hg⟩] at m2;have hz:=h.z;have hnt:=h.nt;refine⟨h.Xr.one c,by rw[e2];omega,by rw[e1];omega,by rw[e2];omega,?_,fun q1 q2=>?_⟩
 ·
  obtain⟨m',rfl⟩:∃m',m=m'+1:=⟨m-1,by omega⟩;refine⟨m',by rw[e2];omega,?_⟩;rw[m2,Rt (by rw[e2];omega) e2 g1]
 ·
  have q3:=q2;unfold Gq at q3;rw[e2] at q3;simp only[Bool.and_eq_true,bne_iff_ne,ne_eq,beq_iff_eq,decide_eq_true_eq] at q3;refine⟨?_,g2⟩;rw[e2,<-g1];exact q3.2
theorem WK.start {AA:List (List Dd)}{c:Nat}{b:Bd}{n:Nat}(S:Di AA b n)(hn:n<=900)(hc:c<AA.length)(h0:0<=b.AL.getD c 0)(hl:Ao b c<(AA.getD c []).length)(c10:c<10):WK AA c (BP AA c (Ao b c)) (Am AA (AB AA) b (c:Int)) (Aj AA (AB AA) b c) (n+1):=by
 obtain⟨e1,e2⟩:=Qd (AA:=AA) (es:=AB AA) (by rw[S.AL];exact hc) h0;have h5:=Da S.work hc;obtain⟨m',hm'⟩:∃m',(AA.getD c []).length=m'+1:=⟨(AA.getD c []).length-1,by omega⟩;refine⟨S.one c,by rw[e2];omega,by rw[e1];omega,by rw[e2];omega,⟨m',by rw[e2];omega,?_⟩,fun q1 q2=>?_⟩
 ·
  unfold Am;rw[if_neg (by omega)];simp only[Int.toNat_natCast];rw[show Ef AA (AB AA) (BP AA c (Ao b c)) c (AA.getD c []).length b=Ef AA (AB AA) (BP AA c (Ao b c)) c (m'+1) b by rw[hm'],Rt (by rw[e2];omega) e2 rfl]
 ·
  unfold Gq at q2;rw[e2] at q2;simp only[Bool.and_eq_true,bne_iff_ne,ne_eq,beq_iff_eq,decide_eq_true_eq] at q2;have a1:BP AA c (Ao b c+1)=BP AA c (Ao b c):=q2.2;have a2:BP AA c (Ao b c+1)≠0:=q2.1.2;exact⟨by rw[e2];exact a1,fun q=>a2 (a1.trans q)⟩
section
def Kx (v:BV)(nv hv rv wv:List Value)(AA:List (List Dd))(b:Bd):BJ->Rw
 | .b .AG=>EP 101 hv v.N
 |j=>JE v nv rv wv AA b j
theorem Tb (v:BV)(nv hv rv wv:List Value)(AA:List (List Dd))(b:Bd){j:BJ}(h:j≠.b .AG):Kx v nv hv rv wv AA b j=JE v nv rv wv AA b j:=by
 cases j with
 |b i=>cases i<;>first|rfl|exact absurd rfl h
 |wk=>rfl
 |wd c=>rfl
theorem Ky (v:BV)(nv hv rv wv:List Value)(AA:List (List Dd))(b:Bd)(j:BJ):(Kx v nv hv rv wv AA b j).v=(JE v nv rv wv AA b j).v:=by
 cases j with
 |b i=>cases i<;>rfl
 |wk=>rfl
 |wd c=>rfl
structure MY (w:World)(m:Nat)(v:BV)(nv hv rv wv:List Value)(AA:List (List Dd))(b:Bd):Prop where
 Ai:GH w m (Ew nv rv wv) (Kx v nv hv rv wv AA b)
 ln:nv.length=b.AG.length
 lh:hv.length=nv.length
 lr:rv.length=b.rws.length
 lw:wv.length=AA.length
def WR:BJ->Prop
 | .b i=>S7 i
 |_=>False
section
variable {w w':World} {m:Nat} {v:BV} {nv hv rv rv' wv:List Value} {AA:List (List Dd)} {b b':Bd}
theorem Fy.cut (h:Fy w m v nv rv wv AA b){g cap c:Nat}(hv':v.N = .slice (some ⟨g,0,none⟩) nv.length cap)(u:Value):MY (w.setCell ⟨g,c,none⟩ u) m v nv (nv.set c u) rv wv AA b:=by
 have o:=h.Ai.own (.b .AG) ⟨trivial,by simp⟩;obtain⟨q1,q2,q3⟩:=Rw.put (r:=EP 101 nv v.N) o (g:=g) (cap:=cap) (k:=c) hv' u;have F:=h.Ai.set (i:= .b .AG) ⟨trivial,by simp⟩ (r:={ EP 101 nv v.N with xs:=nv.set c u }) q2 (.inl rfl) q1;refine⟨F.congr (fun _ hi=>hi) (fun j _=>?_),h.ln,by simp,h.lr,h.lw⟩;by_cases e:j = .b .AG
 ·
  subst e;rw[Ap];show EP _ (nv.set c u) v.N=_;simp[EP]
 . rw[AV _ _ e,Tb _ _ _ _ _ _ _ e]
theorem MY.keep (h:MY w m v nv hv rv wv AA b)(k:AC w w'):MY w' m v nv hv rv wv AA b:=⟨h.Ai.keep k,h.ln,h.lh,h.lr,h.lw⟩
theorem MQ {i:BI}(hi:Ds rv i):Ew nv rv wv (.b i):=by
 cases i with
 |AM=>exact⟨trivial,by simp⟩
 |AO=>exact⟨trivial,by simp⟩
 |rws=>exact⟨trivial,by simp⟩
 |rw p=>exact⟨hi,by simp⟩
 |bd=>exact hi.elim
 |AG=>exact hi.elim
 |AL=>exact hi.elim
 |sn=>exact hi.elim
 |fr=>exact hi.elim
 |nt c=>exact hi.elim
theorem MY.ZH (h:MY w m v nv hv rv wv AA b):DV w m v rv b:=by
 refine⟨⟨fun i hi=>?_,fun i j hi hj hij=>?_⟩,h.lr⟩
 ·
  have:=h.Ai.own (.b i) (MQ hi);cases i<;>first|exact this|exact absurd hi (by simp[Ds])
 ·
  have:=h.Ai.apart (.b i) (.b j) (MQ hi) (MQ hj) (fun e=>hij (by injection e));rw[Ky,Ky] at this;have ei:(Ax 0 v [] rv b i).v=(JE v nv rv wv AA b (.b i)).v:=by cases i<;>first|rfl|exact absurd hi (by simp[Ds])
  have ej:(Ax 0 v [] rv b j).v=(JE v nv rv wv AA b (.b j)).v:=by cases j<;>first|rfl|exact absurd hj (by simp[Ds])
  rw[ei,ej];exact this
theorem MY.turn (h:MY w m v nv hv rv wv AA b)(o:DV w' m v rv' b')(t:Ak w w' (FL v rv) (FL v rv'))(e1:b'.AG=b.AG)(e2:b'.AL=b.AL)(e3:b'.sn=b.sn)(e4:b'.fr=b.fr):MY w' m v nv hv rv' wv AA b':=by
 have lI:∀i,BZ nv rv' i->S7 i->Ds rv' i:=fun i h1 h2=>by cases i<;>first|trivial|exact h1|exact absurd h2 (by simp[S7])
 refine⟨h.Ai.part (w':=w') (live':=Ew nv rv' wv) (R':=Kx v nv hv rv' wv AA b') WR ⟨fun j hj=>?_,fun j l hj hl hjl=>?_⟩ (fun j hs hj=>?_) (fun j hs _=>?_) t (fun j hj hs g hg hB=>?_) (fun j hj hs g hg=>?_),by rw[e1];exact h.ln,h.lh,o.lr,h.lw⟩
 ·
  obtain⟨hj,hs⟩:=hj
  cases j with
  |b i=>
   have:=o.Ai.own i (lI i hj.1 hs);cases i<;>first|exact this|exact absurd hs (by simp[WR,S7])
  |wk=>exact absurd hs (by simp[WR])
  |wd c=>exact absurd hs (by simp[WR])
 ·
  obtain⟨hj,hs⟩:=hj;obtain⟨hl,hr⟩:=hl
  cases j with
  |b i=>
   cases l with
   |b k=>
    have:=o.Ai.apart i k (lI i hj.1 hs) (lI k hl.1 hr) (fun e=>hjl (by rw[e]));rw[Ky,Ky];have ei:(Ax 0 v [] rv' b' i).v=(JE v nv rv' wv AA b' (.b i)).v:=by cases i<;>first|rfl|exact absurd hs (by simp[WR,S7])
    have ej:(Ax 0 v [] rv' b' k).v=(JE v nv rv' wv AA b' (.b k)).v:=by cases k<;>first|rfl|exact absurd hr (by simp[WR,S7])
    rw[<-ei,<-ej];exact this
   |wk=>exact absurd hr (by simp[WR])
   |wd c=>exact absurd hr (by simp[WR])
  |wk=>exact absurd hs (by simp[WR])
  |wd c=>exact absurd hs (by simp[WR])
 ·
  cases j with
  |b i=>cases i<;>first|exact (hs trivial).elim|exact hj
  |wk=>trivial
  |wd c=>exact hj
 ·
  cases j with
  |b i=>cases i<;>first|exact (hs trivial).elim|rfl|(simp only[Kx,JE,Ax,e1,e2,e3,e4])
  |wk=>rfl
  |wd c=>rfl
 ·
  obtain⟨i,hi,e⟩:=hB;have li:Ew nv rv wv (.b i):=MQ hi
  have ei:(Kx v nv hv rv wv AA b (.b i)).v.ownBlock=some g:=by
   rw[Ky];cases i<;>first|exact e|exact absurd hi (by simp[Ds])
  have hne:j≠.b i:=fun q=>hs (by subst q;cases i<;>first|trivial|exact absurd hi (by simp[Ds]))
  rcases h.Ai.apart j (.b i) hj li hne with q|q
  . rw[hg] at q;cases q
  . exact q (hg.trans ei.symm)
 ·
  cases j with
  |b i=>
   refine⟨i,lI i hj.1 hs,?_⟩;rw[Ky] at hg;cases i<;>first|exact hg|exact absurd hs (by simp[WR,S7])
  |wk=>exact absurd hs (by simp[WR])
  |wd c=>exact absurd hs (by simp[WR])
theorem MY.free {c gq cq:Nat}{u:Value}{x:Nt}{r:List Nt}(h:MY w m v nv (nv.set c u) rv wv AA b)(hc:c<nv.length)(hz:b.AG.getD c []=x::r)(hq:nv.getD c AE = .slice (some ⟨gq,0,none⟩) (r.length+1) cq)
  (hu:(cq=1/\u = .slice (some ⟨gq,0,none⟩) r.length 0)\/u = .slice (some ⟨gq,3,none⟩) r.length (cq-1)):Cf w m w.heap.size v AA { b with AG:=b.AG.set c r }:=by
 have hcb:c<b.AG.length:=by rw[<-h.ln];exact hc
 have oq:=h.Ai.own (.b (.nt c)) ⟨hc,by simp⟩
 have zb:B5 cN 104 3 w m (.slice (some ⟨gq,0,none⟩) (x::r).length cq) (x::r):=by
  have q:B5 cN 104 3 w m (nv.getD c AE) (b.AG.getD c []):=oq;rw[hz,hq] at q;exact q
 have hcq:r.length+1<=cq:=by
  rcases zb.2 with ⟨q,_⟩|⟨g,cap,cur,e,_,_,hcap,_⟩
  . simp at q
  ·
   simp only[Value.slice.injEq,true_and] at e;rw[e.2];simpa using hcap
 have lq:gq<w.heap.size:=(World.ownsRow.lt zb gq rfl).2;have yw:(nv.set c u).getD c AE=u:=by rw[BR _ _ _ _ hc,if_pos rfl]
 have yx:∀i,i≠c->(nv.set c u).getD i AE=nv.getD i AE:=fun i hi=>by rw[BR _ _ _ _ hc,if_neg hi]
 have hNc:(b.AG.set c r).getD c []=r:=by rw[BR _ _ _ _ hcb,if_pos rfl]
 have yu:∀i,i≠c->(b.AG.set c r).getD i []=b.AG.getD i []:=fun i hi=>by rw[BR _ _ _ _ hcb,if_neg hi]
 have vv:(b.AG.set c r).length=b.AG.length:=by simp
 have su:Xc u r.length:=by
  rcases hu with ⟨_,e⟩|e
  . exact⟨_,_,e,.inr ⟨gq,0,rfl⟩⟩
  . exact⟨_,_,e,.inr ⟨gq,3,rfl⟩⟩
 have ru:jK w u r:=by
  rcases hu with ⟨e1,e⟩|e
  ·
   have h0:r=[]:=List.eq_nil_of_length_eq_zero (by omega);exact⟨_,0,by rw[e,h0];rfl,.inl h0⟩
  ·
   refine⟨some ⟨gq,3,none⟩,cq-1-r.length,by rw[e];congr 1;omega,.inr ⟨gq,3,rfl,lq,fun i y hy=>?_⟩⟩;have hr:=B5.rd EE zb;obtain⟨a2,c2,e2,hx⟩:=hr;rcases hx with q|⟨b2,o2,q1,q2,q3⟩
   . cases q
   ·
    rw[q1] at e2;simp only[Value.slice.injEq,Option.some.injEq,Addr.mk.injEq,and_true] at e2;obtain⟨⟨rfl,rfl⟩,-⟩:=e2;have:=q3 (i+1) y (by simpa using hy);rw[show 0+(i+1)*3=3+i*3 by omega] at this;exact this
 have row:∀j,j∈Mc AA.length (b.AG.set c r).length b.rws.length->Ew nv rv wv j/\∀y,IU (Qo v (fun i=>wv.getD i AE) (fun i=>(nv.set c u).getD i AE) (fun i=>rv.getD i AE) AA { b with AG:=b.AG.set c r } j).1 (Qo v (fun i=>wv.getD i AE) (fun i=>(nv.set c u).getD i AE) (fun i=>rv.getD i AE) AA { b with AG:=b.AG.set c r } j).2 y ->
   Wb w y/\m<=y.block/\(Kx v nv (nv.set c u) rv wv AA b j).v.ownBlock=some y.block:=by
  intro j hj;have plain:∀(j:BJ) (n:Nat),Ew nv rv wv j->n<=(Kx v nv (nv.set c u) rv wv AA b j).n*(Kx v nv (nv.set c u) rv wv AA b j).size->∀y,IU (Kx v nv (nv.set c u) rv wv AA b j).v n y->Wb w y/\m<=y.block/\(Kx v nv (nv.set c u) rv wv AA b j).v.ownBlock=some y.block:=fun j n l1 l2 y hy=>Rw.wb (h.Ai.own j l1) l2 hy
  rcases Fp hj with ⟨d,hd,rfl⟩|rfl|rfl|⟨d,hd,rfl⟩|rfl|rfl|rfl|⟨d,hd,rfl⟩
  ·
   have l1:Ew nv rv wv (.wd d):=by show d<wv.length;rw[h.lw];exact hd
   exact⟨l1,plain (.wd d) _ l1 (by show 4*(AA.getD d []).length<=(AA.getD d []).length*4;omega)⟩
  . exact⟨⟨trivial,by simp⟩,plain (.b .AM) _ ⟨trivial,by simp⟩ (by show b.AM.length<=b.AM.length*1;omega)⟩
  . exact⟨⟨trivial,by simp⟩,plain (.b .AO) _ ⟨trivial,by simp⟩ (by show b.AO.length<=b.AO.length*1;omega)⟩
  ·
   have l1:Ew nv rv wv (.b (.nt d)):=⟨by show d<nv.length;rw[h.ln,<-vv];exact hd,by simp⟩;refine⟨l1,fun y hy=>?_⟩;by_cases e:d=c
   ·
    subst e;have hy:IU ((nv.set d u).getD d AE) (3*((b.AG.set d r).getD d []).length) y:=hy;rw[yw,hNc] at hy;refine plain (.b (.nt d)) (3*(r.length+1)) l1 (by show 3*(r.length+1)<=(b.AG.getD d []).length*3;rw[hz,List.length_cons];omega) y ?_;show IU (nv.getD d AE) _ y;rw[hq];obtain⟨b2,o2,l2,c2,i2,e2,hi2,ea⟩:=hy;rcases hu with ⟨_,e3⟩|e3
    ·
     rw[e3] at e2;simp only[Value.slice.injEq,Option.some.injEq,Addr.mk.injEq,and_true] at e2;obtain⟨⟨rfl,rfl⟩,-,-⟩:=e2;exact⟨gq,0,_,_,i2,rfl,by omega,ea⟩
    ·
     rw[e3] at e2;simp only[Value.slice.injEq,Option.some.injEq,Addr.mk.injEq,and_true] at e2;obtain⟨⟨rfl,rfl⟩,-,-⟩:=e2;exact⟨gq,0,_,_,3+i2,rfl,by omega,by rw[ea,Nat.zero_add]⟩
   ·
    have hy:IU ((nv.set c u).getD d AE) (3*((b.AG.set c r).getD d []).length) y:=hy;rw[yx d e,yu d e] at hy;exact plain (.b (.nt d)) _ l1 (by show 3*(b.AG.getD d []).length<=(b.AG.getD d []).length*3;omega) y hy
  . exact⟨⟨trivial,by simp⟩,plain (.b .AL) _ ⟨trivial,by simp⟩ (by show b.AL.length<=b.AL.length*1;omega)⟩
  . exact⟨⟨trivial,by simp⟩,plain (.b .sn) _ ⟨trivial,by simp⟩ (by show b.sn.length<=b.sn.length*1;omega)⟩
  . exact⟨⟨trivial,by simp⟩,plain (.b .fr) _ ⟨trivial,by simp⟩ (by show b.fr.length<=b.fr.length*1;omega)⟩
  ·
   have l1:Ew nv rv wv (.b (.rw d)):=⟨by show d<rv.length;rw[h.lr];exact hd,by simp⟩;exact⟨l1,plain (.b (.rw d)) _ l1 (by show 1*(b.rws.getD d []).length<=(b.rws.getD d []).length*1;omega)⟩
 have heads:∀(j:BJ) (t:TypeId) (vs:List Value) (z:Value),Ew nv rv wv j->Kx v nv (nv.set c u) rv wv AA b j=EP t vs z->j∉Mc AA.length (b.AG.set c r).length b.rws.length ->
   Xz w z (fun i=>vs.getD i AE) vs.length (IV (Nx v (fun i=>wv.getD i AE) (fun i=>(nv.set c u).getD i AE) (fun i=>rv.getD i AE) AA { b with AG:=b.AG.set c r })):=by
  intro j t vs z hl e hj;have ho:=h.Ai.own j hl;rw[e] at ho;obtain⟨a,cc,ea,h1⟩:=Bt ho;refine⟨a,cc,ea,?_⟩;rcases h1 with h1|⟨g,e1,e2,e3⟩
  . exact .inl (by rw[h1];rfl)
  ·
   refine .inr ⟨g,0,e1,e2,fun i hi=>⟨by rw[Nat.zero_add];exact e3 i hi,?_⟩⟩;rintro⟨r',hr,hx⟩;rw[Dj,List.mem_map] at hr;obtain⟨q,hq',rfl⟩:=hr;obtain⟨l1,l2⟩:=row q hq';have hb:=(l2 _ hx).2.2;have ap:=h.Ai.apart q j l1 hl (fun e=>hj (e ▸ hq'));rw[hb,e] at ap;rcases ap with ap|ap
   . cases ap
   ·
    apply ap;show _=z.ownBlock;rw[ea,e1];rfl
 have hge:∀(j:BJ) (n:Nat),Ew nv rv wv j->dJ (Kx v nv (nv.set c u) rv wv AA b j).v n m:=fun j n hl q o l c' e _=>(h.Ai.lt hl q (by rw[e];rfl)).1
 have o1:BM w m v.P b.AM:=h.Ai.own (.b .AM) ⟨trivial,by simp⟩;have o2:BM w m v.L b.AO:=h.Ai.own (.b .AO) ⟨trivial,by simp⟩;have o3:BM w m v.X b.AL:=h.Ai.own (.b .AL) ⟨trivial,by simp⟩;have o4:BM w m v.S b.sn:=h.Ai.own (.b .sn) ⟨trivial,by simp⟩;have o5:BM w m v.F b.fr:=h.Ai.own (.b .fr) ⟨trivial,by simp⟩;have hw:=heads .wk 62 wv v.W trivial rfl (fun hq=>by have:=Fp hq;simp at this);have hn:=heads (.b .AG) 101 (nv.set c u) v.N ⟨trivial,by simp⟩ rfl (fun hq=>by have:=Fp hq;simp at this);have hr:=heads (.b .rws) 28 rv v.R ⟨trivial,by simp⟩ rfl (fun hq=>by have:=Fp hq;simp at this);rw[h.lw] at hw;rw[h.lh,h.ln,<-vv] at hn;rw[h.lr] at hr;refine⟨⟨?_,o1.rd,o2.rd,?_,o3.rd,o4.rd,o5.rd,?_⟩,⟨fun i=>wv.getD i AE,fun i=>(nv.set c u).getD i AE,fun i=>rv.getD i AE,?_,⟨?_,?_⟩,?_⟩,hge .wk _ trivial,hge (.b .AG) _ ⟨trivial,by simp⟩,hge (.b .rws) _ ⟨trivial,by simp⟩⟩
 ·
  obtain⟨a,cap,e,h1⟩:=hw;refine⟨a,cap,e,?_⟩;rcases h1 with h1|⟨g,o,e1,e2,e3⟩
  . exact .inl (List.eq_nil_of_length_eq_zero h1)
  . exact .inr ⟨g,o,e1,e2,fun i hi=>⟨_,(e3 i hi).1,(show Br w m (wv.getD i AE) (AA.getD i []) from h.Ai.own (.wd i) (by show i<wv.length;rw[h.lw];exact hi)).SX.rd⟩⟩
 ·
  obtain⟨a,cap,e,h1⟩:=hn;refine⟨a,cap,e,?_⟩;rcases h1 with h1|⟨g,o,e1,e2,e3⟩
  . exact .inl (List.eq_nil_of_length_eq_zero h1)
  ·
   refine .inr ⟨g,o,e1,e2,fun i hi=>⟨_,(e3 i hi).1,?_⟩⟩;show jK w ((nv.set c u).getD i AE) ((b.AG.set c r).getD i []);by_cases ei:i=c
   . subst ei;rw[yw,hNc];exact ru
   ·
    rw[yx i ei,yu i ei];have hi2:i<nv.length:=by rw[h.ln,<-vv];exact hi
    exact B5.rd EE (show B5 cN 104 3 w m (nv.getD i AE) (b.AG.getD i []) from h.Ai.own (.b (.nt i)) ⟨hi2,by simp⟩)
 ·
  obtain⟨a,cap,e,h1⟩:=hr;refine⟨a,cap,e,?_⟩;rcases h1 with h1|⟨g,o,e1,e2,e3⟩
  . exact .inl (List.eq_nil_of_length_eq_zero h1)
  . exact .inr ⟨g,o,e1,e2,fun i hi=>⟨_,(e3 i hi).1,(show BM w m (rv.getD i AE) (b.rws.getD i []) from h.Ai.own (.b (.rw i)) ⟨by show i<rv.length;rw[h.lr];exact hi,by simp⟩).rd⟩⟩
 ·
  refine⟨hw,fun i hi=>Rw.Sj (h.Ai.own (.wd i) (by show i<wv.length;rw[h.lw];exact hi)),Rw.Sj (h.Ai.own (.b .AM) ⟨trivial,by simp⟩),Rw.Sj (h.Ai.own (.b .AO) ⟨trivial,by simp⟩),hn,
   fun i hi=>?_,Rw.Sj (h.Ai.own (.b .AL) ⟨trivial,by simp⟩),Rw.Sj (h.Ai.own (.b .sn) ⟨trivial,by simp⟩),Rw.Sj (h.Ai.own (.b .fr) ⟨trivial,by simp⟩),hr,
   fun i hi=>Rw.Sj (h.Ai.own (.b (.rw i)) ⟨by show i<rv.length;rw[h.lr];exact hi,by simp⟩)⟩
  show Xc ((nv.set c u).getD i AE) ((b.AG.set c r).getD i []).length;by_cases ei:i=c
  . subst ei;rw[yw,hNc];exact su
  ·
   rw[yx i ei,yu i ei];have hi2:i<nv.length:=by rw[h.ln,<-vv];exact hi
   exact Rw.Sj (h.Ai.own (.b (.nt i)) ⟨hi2,by simp⟩)
 ·
  rintro y ⟨r',hr',hx⟩;rw[Dj,List.mem_map] at hr';obtain⟨q,hq',rfl⟩:=hr';exact ((row q hq').2 y hx).1
 ·
  rw[Dj,List.pairwise_map];refine List.Pairwise.imp_of_mem (R:=fun a b=>a≠b) (fun {p q} hp hq' hne y hx hy=>?_) (Og _ _ _);have a1:=((row p hp).2 y hx).2.2;have a2:=((row q hq').2 y hy).2.2;rcases h.Ai.apart p q (row p hp).1 (row q hq').1 hne with ap|ap
  . rw[a1] at ap;cases ap
  . rw[a1,a2] at ap;exact ap rfl
 ·
  rintro y ⟨r',hr',hx⟩;rw[Dj,List.mem_map] at hr';obtain⟨q,hq',rfl⟩:=hr';have:=(row q hq').2 y hx;exact⟨this.2.1,this.1.lt⟩
end
end
theorem Ux {l:List Int}{m:Nat}(h:m<l.length):Gv l (l.getD m 0)=true:=by
 unfold Gv;rw[List.any_eq_true];refine⟨l.getD m 0,?_,by simp⟩;rw[List.getD_eq_getElem?_getD,List.getElem?_eq_getElem h];exact List.getElem_mem h
theorem aG {AA:List (List Dd)}{b:Bd}(hb:AW AA b=true):Gi AA b:=by
 obtain⟨h1,h2,h3,h4,h5,h6,h7,h8,h9,h10⟩:=ED hb;obtain⟨w1,w2⟩:=G7 h1;exact⟨by omega,w2,by omega,by omega,by omega,fun i hi=>by have:=h10 i (by omega);omega,by omega,by omega,by omega,by omega,fun i hi=>by have:=h9 i (by omega);omega⟩
theorem Tc {AA:List (List Dd)}{es:List Ev}{b:Bd}(c:Nat):Am AA es b (10+(c:Int))=BT b c:=by
 unfold Am;rw[if_pos (by omega)];have:(10+(c:Int)-10).toNat=c:=by omega
 rw[this]
theorem RB.any {AA:List (List Dd)}{b:Bd}(hb:AW AA b=true):RB AA b (fun _=>20) 20:=RB.of hb (Di.of hb).nl (Di.of hb).rl
def MG (AA:List (List Dd)):List (List Dd):=if AQ AA=true then AA else []
def OG (AA:List (List Dd)):Bd:=if AQ AA=true then Cd AA else MV
theorem DI (w:World)(v:Value)(zs:List Int)(h:Rd w v zs)(hn:zs.length<=1048576):
  Calls Tryz.prog 36 #[v] w fun e w'=>∃v',e = .returned v'/\BM w' w.heap.size v' zs/\AC w w':=by
 have ho:BM (w.alloc (.cells #[] 2)) w.heap.size (.slice (some ⟨w.heap.size,0,none⟩) 0 0) []:=World.ownsRow_lit w #[] 0 (Nat.le_refl _) (by decide) rfl;have hK:AC w (w.alloc (.cells #[] 2)):=(AC.refl w).alloc _;obtain⟨i0,hi,hz0,hz1,hz2⟩:=info_parts Tryz.GU;obtain⟨a,cap,rfl,h⟩:=h;rcases h with rfl|⟨g,off,rfl,hg,hc⟩
 ·
  cases a with
  |none=>
   go_enter Tryz.func36,Tryz.ntmps36
   go_wp2;go_ret;exact⟨_,rfl,ho,hK⟩
  |some x=>
   go_enter Tryz.func36,Tryz.ntmps36
   go_wp2_with (at_builtin;refine wpList_append_own _ rfl _ _ 28 rfl w.heap.size 2 i0 (.int .i64 0) 1 8 Tryz.underlying28 hi hz0 hz1 hz2 rfl (by decide) _ _ _ rfl ho x 0 cap [] rfl rfl ?c1 ?c2 ?c3 ?c4 ?c5 ?_)
   case c1=>intro j u hj;simp at hj
   case c2=>intro u hu;simp at hu
   case c3=>simp
   case c4=>simp
   case c5=>simp
   intro v' w1 hown' hgrow _;have k1:AC w w1:=hK.grown hgrow ho.ge;have o1:BM w1 w.heap.size v' []:=by unfold BM;simpa using hown'
   clear hgrow hown';go_wp2;go_ret;exact⟨_,rfl,o1,k1⟩
 ·
  have C:=Sb (w:=w.alloc (.cells #[] 2)) (b:=g) (off:=off) (zs:=zs) (fun i hi=>(hK.cell hg).trans (hc i hi));go_enter Tryz.func36,Tryz.ntmps36
  go_wp2_with (at_builtin;refine wpList_append_own _ rfl _ _ 28 rfl w.heap.size 2 i0 (.int .i64 0) 1 8 Tryz.underlying28 hi hz0 hz1 hz2 rfl (by decide) _ _ _ rfl ho ⟨g,off,none⟩ zs.length cap (zs.map (Value.int .i64)) rfl (by simp) ?c1 ?c2 ?c3 ?c4 ?c5 ?_)
  case c1=>exact C
  case c2=>exact ZI zs
  case c3=>simp;unfold maxLen;omega
  case c4=>simp;omega
  case c5=>simp
  intro v' w1 hown' hgrow _;have k1:AC w w1:=hK.grown hgrow ho.ge;have o1:BM w1 w.heap.size v' zs:=by unfold BM;simpa using hown'
  clear hgrow hown';go_wp2;go_ret;exact⟨_,rfl,o1,k1⟩
end Go.Proofs.YtnmelakgmgenjaaGreat
