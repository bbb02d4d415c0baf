/- Gathered texts. -/
import Derived.Test.YtnmelakgmgenjaaGreatMJ
import Derived.Deep.Cut
import Derived.Outline
import Derived.Laws.AppendOwnNone
set_option maxRecDepth 100000
set_option maxHeartbeats 8000000
namespace Go.Proofs.YtnmelakgmgenjaaGreat
open Go.ChangeShapes Go.WideShapes Go.ChangeAt Go.RowKit
open Go.RowKit
theorem Tryz.aG:(Tryz.prog.info? 65).map (fun i=>(i.zero,i.size,i.bytes))=some (some (.agg #[.int .i64 0,.int .i64 0,.int .i64 0,.int .i64 0]),4,32):=by kernel_rfl
theorem Tryz.aH:(Tryz.prog.info? 62).map (fun i=>(i.zero,i.size,i.bytes))=some (some (.slice none 0 0),1,24):=by kernel_rfl
theorem Qb (ds:List Dd):(ds.flatMap cD).length=ds.length*4:=by
 induction ds with
 |nil=>rfl
 |cons d r ih=>rw[List.flatMap_cons,List.length_append,ih,List.length_cons];simp[cD];omega
theorem Vb (ds:List Dd):∀u∈ds.flatMap cD,u.oneCell'=true:=fun u hu=>by
 obtain⟨x,_,hx⟩:=List.mem_flatMap.1 hu;simp only[cD,List.mem_cons,List.not_mem_nil,or_false] at hx;rcases hx with rfl|rfl|rfl|rfl<;>rfl
theorem PU {w:World}{b off:Nat}{ds:List Dd}(h:∀i,i<ds.length->Ri w b (off+i*4) (ds.getD i zD)):∀j u,(ds.flatMap cD)[j]? = some u->w.cell? ((⟨b,off,none⟩:Addr).add j)=some u:=fun j u hj=>by
 have hl:j<ds.length*4:=by rw[<-Qb];exact (List.getElem?_eq_some_iff.1 hj).1
 have hi:j / 4<ds.length:=by omega
 have hm:j % 4<4:=Nat.mod_lt _ (by omega);have e:j=j / 4*4+j % 4:=by omega
 have h1:=ZX ds (j / 4) (j % 4) hi hm;rw[<-e] at h1;rw[h1] at hj;have ea:(⟨b,off,none⟩:Addr).add j=⟨b,off+j / 4*4+j % 4,none⟩:=by rw[show off+j / 4*4+j % 4=off+j by omega];simp[Addr.add]
 rw[ea];obtain⟨a0,a1,a2,a3⟩:=h (j / 4) hi;have:j % 4=0\/j % 4=1\/j % 4=2\/j % 4=3:=by omega
 rcases this with q|q|q|q<;>rw[q] at hj ⊢<;>simp[cD] at hj<;>subst hj
 . exact a0
 . exact a1
 . exact a2
 . exact a3
theorem Nm (w:World)(v:Value)(AA:List (List Dd))(h:Fz w v AA)(hx:AA.length<=1048576)(hm:∀i,i<AA.length->(AA.getD i []).length<=1048576):
  Calls Tryz.prog 83 #[v] w fun e w'=>∃v',e = .returned v'/\Wj w' w.heap.size v' AA/\AC w w':=by
 obtain⟨aD,yg,rfl,h⟩:=h;obtain⟨i0,hi,hz0,hz1,hz2⟩:=info_parts Tryz.aG;obtain⟨j0,hj,hy0,hy1,hy2⟩:=info_parts Tryz.aH
 have hown0:Di (w.alloc (.cells #[] 62)) w.heap.size (w.alloc (.cells #[] 62)).heap.size (.slice (some ⟨w.heap.size,0,none⟩) 0 0) (fun _=>vZ) (AA.take 0):=by
  rw[List.take_zero];exact⟨World.ownsRow_lit w #[] 0 (Nat.le_refl _) (by decide) rfl,fun k hk=>by simp[Value.ownBlock] at hk;subst hk;simp,fun i hi=>by simp at hi,fun i hi=>by simp at hi,fun i hi=>by simp at hi,fun i j _ hj=>by simp at hj⟩
 go_enter Tryz.func83,Tryz.ntmps83
 go_wp2;go_loopw [3,4] (fun v0 i wr=>∃(k:Nat) (v:Value) (V:Nat->Value),v=v0/\k<=AA.length/\i = .int .i64 k/\Di wr w.heap.size wr.heap.size v V (AA.take k)/\AC w wr) (fun _ i _=>AA.length-(intOf i).toNat)
 case atStart=>exact⟨0,_,_,rfl,Nat.zero_le _,rfl,hown0,(AC.refl _).alloc _⟩
 case round=>
  obtain⟨k,v,V,rfl,hk,rfl,ho,hK⟩:=hrel;clear hown0;by_cases hlt:k<AA.length
  ·
   rcases h with h0|⟨b,off,rfl,hb,hc⟩
   . exfalso;rw[h0] at hlt;simp at hlt
   obtain⟨vi,d1,r1⟩:=hc k hlt;have d2:=(hK.cell hb).trans d1;have r2:=r1.keep hK;have hml:=hm k hlt
   have HT:Hid (AA.take (k+1)=AA.take k++[AA.getD k []]):=Lib.hid (by
    rw[List.take_add_one,List.getD_eq_getElem?_getD,List.getElem?_eq_getElem hlt];rfl)
   have hlen:(AA.take k).length=k:=by rw[List.length_take];omega
   generalize AA.getD k []=ds at *;obtain⟨ai,ci,rfl,r2⟩:=r2;have i1:(0:Int)<=(k:Int):=Int.natCast_nonneg _;have i2:(k:Int)<(AA.length:Int):=by omega
   have hsz:=hK.size;clear hc d1 r1;have OE:(wr.alloc (.cells #[] 65)).ownsRow wr.heap.size 65 4 (.slice (some ⟨wr.heap.size,0,none⟩) 0 0) 0 []:=World.ownsRow_lit wr #[] 0 (Nat.le_refl _) (by decide) rfl;have d3:(wr.alloc (.cells #[] 65)).cell? ⟨b,off+k,none⟩=some (.slice ai ds.length (ds.length+ci)):=(((AC.refl wr).alloc _).cell (Nat.lt_of_lt_of_le hb hsz)).trans d2;rcases r2 with h0|⟨bd,od,rfl,hbd,hcd⟩
   ·
    subst h0
    cases ai with
    |none=>
     have OD:C2 (wr.alloc (.cells #[] 65)) wr.heap.size (.slice (some ⟨wr.heap.size,0,none⟩) 0 0) []:=OE;have k5:AC wr (wr.alloc (.cells #[] 65)):=(AC.refl wr).alloc _;have HX5:=(ho.keep k5).keep ((AC.refl (wr.alloc (.cells #[] 65))).alloc (.cells #[.slice (some ⟨wr.heap.size,0,none⟩) 0 0] 62));have HR:=HX5.row;rw[hlen] at HR;have Rn:=OD.keep ((AC.refl (wr.alloc (.cells #[] 65))).alloc (.cells #[.slice (some ⟨wr.heap.size,0,none⟩) 0 0] 62));have s5:=k5.size;go_wp2_with (at_builtin;refine wpList_append_own_at _ rfl _ _ 24 rfl w.heap.size 62 j0 (.slice none 0 0) 1 24 Tryz.underlying24 hj hy0 hy1 hy2 rfl (by decide) _ _ _ rfl HR ⟨_,0,none⟩ 1 1 [.slice (some ⟨wr.heap.size,0,none⟩) 0 0] rfl rfl ?e1 ?e2 ?e3 ?e4 ?e5 ?_)
     case e1=>
      intro j u hj
      match j,hj with
      | 0,hj=>simp at hj;subst hj;simp[Addr.add]
     case e2=>intro u hu;simp at hu;subst hu;rfl
     case e3=>unfold maxLen;omega
     case e4=>omega
     case e5=>simp;omega
     intro v' w7 hown7 hgrow7 _ hblk7;have HP:=HX5.push Rn hsz (by rw[hlen];exact hown7) hgrow7 (by rw[AD,AD];exact hblk7) (by simp;omega);have K7:AC w w7:=((hK.trans k5).alloc _).grown hgrow7 (fun k hk=>(World.ownsRow.lt HR k hk).1);clear hown7 hgrow7 hblk7 HR HX5 Rn;go_wp2;go_roundw;case rel=>exact⟨k+1,_,_,rfl,by omega,by go_num,by rw[HT.out];exact HP,K7⟩
     case measure=>simp[intOf];omega
    |some x=>
     go_wp2_with (at_builtin;refine wpList_append_own _ rfl _ _ 62 rfl wr.heap.size 65 i0 (.agg #[.int .i64 0,.int .i64 0,.int .i64 0,.int .i64 0]) 4 32 Tryz.underlying62 hi hz0 hz1 hz2 rfl (by decide) _ _ _ rfl OE x 0 ci [] rfl rfl ?c1 ?c2 ?c3 ?c4 ?c5 ?_)
     case c1=>intro j u hj;simp at hj
     case c2=>intro u hu;simp at hu
     case c3=>simp
     case c4=>simp
     case c5=>simp
     intro u w5 hown5 hgrow5 _;have OD:C2 w5 wr.heap.size u []:=by unfold C2;simpa using hown5
     have k5:AC wr w5:=((AC.refl wr).alloc (.cells #[] 65)).grown hgrow5 (fun k hk=>(World.ownsRow.lt OE k hk).1);clear hown5 hgrow5;obtain⟨au,cu,hu⟩:∃a c,u = .slice a 0 c:=OD.shape;subst hu;have HX5:=(ho.keep k5).keep ((AC.refl w5).alloc (.cells #[.slice au 0 cu] 62));have HR:=HX5.row;rw[hlen] at HR;have Rn:=OD.keep ((AC.refl w5).alloc (.cells #[.slice au 0 cu] 62));have s5:=k5.size;go_wp2_with (at_builtin;refine wpList_append_own_at _ rfl _ _ 24 rfl w.heap.size 62 j0 (.slice none 0 0) 1 24 Tryz.underlying24 hj hy0 hy1 hy2 rfl (by decide) _ _ _ rfl HR ⟨_,0,none⟩ 1 1 [.slice au 0 cu] rfl rfl ?e1 ?e2 ?e3 ?e4 ?e5 ?_)
     case e1=>
      intro j u hj
      match j,hj with
      | 0,hj=>simp at hj;subst hj;simp[Addr.add]
     case e2=>intro u hu;simp at hu;subst hu;rfl
     case e3=>unfold maxLen;omega
     case e4=>omega
     case e5=>simp;omega
     intro v' w7 hown7 hgrow7 _ hblk7;have HP:=HX5.push Rn hsz (by rw[hlen];exact hown7) hgrow7 (by rw[AD];exact hblk7) (by simp;omega);have K7:AC w w7:=((hK.trans k5).alloc _).grown hgrow7 (fun k hk=>(World.ownsRow.lt HR k hk).1);clear hown7 hgrow7 hblk7 HR HX5 Rn;go_wp2;go_roundw;case rel=>exact⟨k+1,_,_,rfl,by omega,by go_num,by rw[HT.out];exact HP,K7⟩
     case measure=>simp[intOf];omega
   ·
    have NC:=PU (w:=wr.alloc (.cells #[] 65)) (b:=bd) (off:=od) (ds:=ds) (fun i hi=>(hcd i hi).keep hbd ((AC.refl wr).alloc _));go_wp2_with (at_builtin;refine wpList_append_own _ rfl _ _ 62 rfl wr.heap.size 65 i0 (.agg #[.int .i64 0,.int .i64 0,.int .i64 0,.int .i64 0]) 4 32 Tryz.underlying62 hi hz0 hz1 hz2 rfl (by decide) _ _ _ rfl OE ⟨bd,od,none⟩ ds.length (ds.length+ci) (ds.flatMap cD) rfl (Qb ds) ?c1 ?c2 ?c3 ?c4 ?c5 ?_)
    case c1=>exact NC
    case c2=>exact Vb ds
    case c3=>unfold maxLen;omega
    case c4=>omega
    case c5=>simp
    intro u w5 hown5 hgrow5 _;have OD:C2 w5 wr.heap.size u ds:=by unfold C2;simpa using hown5
    have k5:AC wr w5:=((AC.refl wr).alloc (.cells #[] 65)).grown hgrow5 (fun k hk=>(World.ownsRow.lt OE k hk).1);clear hown5 hgrow5;obtain⟨au,cu,hu⟩:=OD.shape;subst hu;have HX5:=(ho.keep k5).keep ((AC.refl w5).alloc (.cells #[.slice au ds.length cu] 62));have HR:=HX5.row;rw[hlen] at HR;have Rn:=OD.keep ((AC.refl w5).alloc (.cells #[.slice au ds.length cu] 62));have s5:=k5.size;go_wp2_with (at_builtin;refine wpList_append_own_at _ rfl _ _ 24 rfl w.heap.size 62 j0 (.slice none 0 0) 1 24 Tryz.underlying24 hj hy0 hy1 hy2 rfl (by decide) _ _ _ rfl HR ⟨_,0,none⟩ 1 1 [.slice au ds.length cu] rfl rfl ?e1 ?e2 ?e3 ?e4 ?e5 ?_)
    case e1=>
     intro j u hj
     match j,hj with
     | 0,hj=>simp at hj;subst hj;simp[Addr.add]
    case e2=>intro u hu;simp at hu;subst hu;rfl
    case e3=>unfold maxLen;omega
    case e4=>omega
    case e5=>simp;omega
    intro v' w7 hown7 hgrow7 _ hblk7;have HP:=HX5.push Rn hsz (by rw[hlen];exact hown7) hgrow7 (by rw[AD];exact hblk7) (by simp;omega);have K7:AC w w7:=((hK.trans k5).alloc _).grown hgrow7 (fun k hk=>(World.ownsRow.lt HR k hk).1);clear hown7 hgrow7 hblk7 HR HX5 Rn;go_wp2;go_roundw;case rel=>exact⟨k+1,_,_,rfl,by omega,by go_num,by rw[HT.out];exact HP,K7⟩
    case measure=>simp[intOf];omega
  ·
   obtain rfl:k=AA.length:=by omega
   rw[List.take_length] at ho;go_wp2;go_ret;exact⟨_,rfl,ho.rdX,hK⟩
theorem qL {es:List Ev}{j:Nat}(h12:es.length<=12)(hj:j<es.length)(hr:Ad (es.getD j zE)=true):∃i,i<(AV Ad es).length/\(AV Ad es).getD i 0=(j:Int)/\∀q,q<i->(AV Ad es).getD q 0≠(j:Int):=by
 obtain⟨t,ht⟩:=Nf Ad es (j+1) es.length hj
 have e1:BZ Ad es (j+1)=BZ Ad es j++[(j:Int)]:=by
  show (if Ad (es.getD j zE)=true then BZ Ad es j++[(j:Int)] else BZ Ad es j)=_;rw[if_pos hr]
 have e2:AV Ad es=BZ Ad es j++([(j:Int)]++t):=by
  unfold AV;rw[if_pos h12];rw[ht,e1,List.append_assoc]
 refine⟨(BZ Ad es j).length,?_,?_,fun q hq=>?_⟩
 . rw[e2];simp
 . rw[e2,List.getD_eq_getElem?_getD,List.getElem?_append_right (Nat.le_refl _)];simp
 ·
  rw[e2,List.getD_eq_getElem?_getD,List.getElem?_append_left hq,List.getElem?_eq_getElem hq];have:=EG Ad es j _ (List.getElem_mem hq);show (BZ Ad es j)[q]≠_;omega
theorem jM {AA:List (List Dd)}{b:Bd}{n:Nat}(h:Dc AA b n)(c k:Nat)(pl:Bool)(j:Nat)(e:Ev):Dc AA (Rj (AV Ad (AB AA)) c k pl b j e) (n+1):=by
 unfold Rj;split
 ·
  split
  . exact (h.see _ _ _).mono (by omega)
  ·
   split
   . exact h.note c _
   . exact h.Xr _ _ _
 . exact h.mono (by omega)
theorem Vf {AA:List (List Dd)}{b:Bd}{n:Nat}(h:Dc AA b n)(c k:Nat)(pl:Bool):∀j:Nat,Dc AA (C8 (AB AA) (AV Ad (AB AA)) c k pl b j) (n+j)
 | 0=>h
 |j+1=>jM (Vf h c k pl j) c k pl j _
theorem Qd (es:List Ev)(rs:List Int)(c k:Nat)(pl:Bool)(b:Bd):∀j:Nat,(C8 es rs c k pl b j).AK=b.AK
 | 0=>rfl
 |j+1=>by
  show (Rj rs c k pl (C8 es rs c k pl b j) j (es.getD j zE)).AK=b.AK;rw[<-Qd es rs c k pl b j];unfold Rj;split
  ·
   split
   . rfl
   . split<;>rfl
  . rfl
theorem Dc.sz {AA:List (List Dd)}{b:Bd}{n:Nat}(h:Dc AA b n)(hn:n<=2000):JQ AA b:=by
 have u:=(Ay h.work).1;have l5:=fun i hi=>Db h.work (c:=i) hi
 have r12:=Hw Ad (AB AA);have e12:=Bu AA;exact⟨by omega,fun i hi=>by have:=l5 i hi;omega,by have:=h.AM;omega,by have:=h.AQ;omega,by have:=h.AG;omega,fun i _=>by have:=h.nl i;omega,by have:=h.AK;omega,by have:=h.sn;omega,by have:=h.fr;omega,by have:=h.rws;omega,fun i _=>by have:=h.rl i;omega⟩
theorem pY {AA:List (List Dd)}(hb:AO AA=true){c:Nat}(hc:c<AA.length)(b:Bd)(hk:Ap b c<(AA.getD c []).length)(h0:0<=b.AK.getD c 0)(h3:(Ak AA c (Ap b c)).1=3->b.AG.getD c []=[]):
  { C8 (AB AA) (AV Ad (AB AA)) c (Ap b c) (Dv (Ak AA c (Ap b c))) b (AB AA).length with AK:=(C8 (AB AA) (AV Ad (AB AA)) c (Ap b c) (Dv (Ak AA c (Ap b c))) b (AB AA).length).AK.set c ((Ap b c:Int)+1) }=Ai AA (AB AA) b c:=by
 rw[Qd,jN hb hc hk b h3];unfold Ai;have:(Ap b c:Int)=b.AK.getD c 0:=by unfold Ap;omega
 rw[this]
theorem jQ {AA:List (List Dd)}(hb:AO AA=true){c k j:Nat}(hc:c<AA.length)(hk:k<(AA.getD c []).length)(hj:j<(AB AA).length)(h:((AB AA).getD j zE).1=(c:Int)/\((AB AA).getD j zE).2.1=(k:Int)):∃p:Nat,p<3/\((AB AA).getD j zE).2.2.2.1=(p:Int):=by
 obtain⟨i,E⟩:=Zs hb hj h;obtain⟨⟨p,hp,e⟩,-⟩:=Vc hb hc hk;exact⟨p,hp,by rw[E.at hb];exact e⟩
theorem Q5 {AA:List (List Dd)}{es:List Ev}{b:Bd}{c:Nat}(hc:c<b.AK.length)(h0:0<=b.AK.getD c 0):(Ai AA es b c).AK.getD c 0=b.AK.getD c 0+1/\Ap (Ai AA es b c) c=Ap b c+1:=by
 have e:(Ai AA es b c).AK.getD c 0=b.AK.getD c 0+1:=by
  show (b.AK.set c (b.AK.getD c 0+1)).getD c 0=_;rw[List.getD_eq_getElem?_getD,List.getElem?_set];simp[hc]
 refine⟨e,?_⟩;unfold Ap;rw[e];omega
structure WK (AA:List (List Dd))(c:Nat)(g:Int)(T:Bd)(b:Bd)(n:Nat):Prop where
 Yp:Dc AA b n
 le:Ap b c<=(AA.getD c []).length
 z:0<=b.AK.getD c 0
 nt:n+((AA.getD c []).length-Ap b c)<=1000
 go:∃m,(AA.getD c []).length<=Ap b c+m/\T=if Ap b c<(AA.getD c []).length/\GX (AA.getD c []) (Ap b c)=true then Ea AA (AB AA) g c m b else b
 gg:Ap b c<(AA.getD c []).length->GX (AA.getD c []) (Ap b c)=true->BS AA c (Ap b c)=g/\g≠0
theorem WK.step {AA:List (List Dd)}{c:Nat}{g:Int}{T b:Bd}{n:Nat}(h:WK AA c g T b n)(hc:c<AA.length)(hl:Ap b c<(AA.getD c []).length)(hg:GX (AA.getD c []) (Ap b c)=true):WK AA c g T (Ai AA (AB AA) b c) (n+1):=by
 obtain⟨g1,g2⟩:=h.gg hl hg;obtain⟨e1,e2⟩:=Q5 (AA:=AA) (es:=AB AA) (by rw[h.Yp.AK];exact hc) h.z;obtain⟨m,m1,m2⟩:=h.go;rw[if_pos ⟨hl,hg⟩] at m2;have hz:=h.z;have hnt:=h.nt;refine⟨h.Yp.one c,by rw[e2];omega,by rw[e1];omega,by rw[e2];omega,?_,fun q1 q2=>?_⟩
 ·
  obtain⟨m',rfl⟩:∃m',m=m'+1:=⟨m-1,by omega⟩;refine⟨m',by rw[e2];omega,?_⟩;rw[m2,SY (by rw[e2];omega) e2 g1]
 ·
  have q3:=q2;unfold GX at q3;rw[e2] at q3;simp only[Bool.and_eq_true,bne_iff_ne,ne_eq,beq_iff_eq,decide_eq_true_eq] at q3;refine⟨?_,g2⟩;rw[e2,<-g1];exact q3.2
theorem WK.start {AA:List (List Dd)}{c:Nat}{b:Bd}{n:Nat}(S:Dc AA b n)(hn:n<=900)(hc:c<AA.length)(h0:0<=b.AK.getD c 0)(hl:Ap b c<(AA.getD c []).length)(c10:c<10):WK AA c (BS AA c (Ap b c)) (Al AA (AB AA) b (c:Int)) (Ai AA (AB AA) b c) (n+1):=by
 obtain⟨e1,e2⟩:=Q5 (AA:=AA) (es:=AB AA) (by rw[S.AK];exact hc) h0;have h5:=Db S.work hc;obtain⟨m',hm'⟩:∃m',(AA.getD c []).length=m'+1:=⟨(AA.getD c []).length-1,by omega⟩;refine⟨S.one c,by rw[e2];omega,by rw[e1];omega,by rw[e2];omega,⟨m',by rw[e2];omega,?_⟩,fun q1 q2=>?_⟩
 ·
  unfold Al;rw[if_neg (by omega)];simp only[Int.toNat_natCast];rw[show Ea AA (AB AA) (BS AA c (Ap b c)) c (AA.getD c []).length b=Ea AA (AB AA) (BS AA c (Ap b c)) c (m'+1) b by rw[hm'],SY (by rw[e2];omega) e2 rfl]
 ·
  unfold GX at q2;rw[e2] at q2;simp only[Bool.and_eq_true,bne_iff_ne,ne_eq,beq_iff_eq,decide_eq_true_eq] at q2;have a1:BS AA c (Ap b c+1)=BS AA c (Ap b c):=q2.2;have a2:BS AA c (Ap b c+1)≠0:=q2.1.2;exact⟨by rw[e2];exact a1,fun q=>a2 (a1.trans q)⟩
section
def LV (v:BV)(nv hv rv wv:List Value)(AA:List (List Dd))(b:Bd):BJ->Rw
 | .b .AG=>Dp 101 hv v.N
 |j=>JC v nv rv wv AA b j
theorem UY (v:BV)(nv hv rv wv:List Value)(AA:List (List Dd))(b:Bd){j:BJ}(h:j≠.b .AG):LV v nv hv rv wv AA b j=JC v nv rv wv AA b j:=by
 cases j with
 |b i=>cases i<;>first|rfl|exact absurd rfl h
 |wk=>rfl
 |wd c=>rfl
theorem LX (v:BV)(nv hv rv wv:List Value)(AA:List (List Dd))(b:Bd)(j:BJ):(LV v nv hv rv wv AA b j).v=(JC v nv rv wv AA b j).v:=by
 cases j with
 |b i=>cases i<;>rfl
 |wk=>rfl
 |wd c=>rfl
structure Mw (w:World)(m:Nat)(v:BV)(nv hv rv wv:List Value)(AA:List (List Dd))(b:Bd):Prop where
 Ag:Fl w m (Eg nv rv wv) (LV v nv hv rv wv AA b)
 ln:nv.length=b.AG.length
 lh:hv.length=nv.length
 lr:rv.length=b.rws.length
 lw:wv.length=AA.length
def Xs:BJ->Prop
 | .b i=>Tw i
 |_=>False
section
variable {w w':World} {m:Nat} {v:BV} {nv hv rv rv' wv:List Value} {AA:List (List Dd)} {b b':Bd}
theorem Ei.cut (h:Ei w m v nv rv wv AA b){g cap c:Nat}(hv':v.N = .slice (some ⟨g,0,none⟩) nv.length cap)(u:Value):Mw (w.setCell ⟨g,c,none⟩ u) m v nv (nv.set c u) rv wv AA b:=by
 have o:=h.Ag.own (.b .AG) ⟨trivial,by simp⟩;obtain⟨q1,q2,q3⟩:=Rw.put (r:=Dp 101 nv v.N) o (g:=g) (cap:=cap) (k:=c) hv' u;have F:=h.Ag.set (i:= .b .AG) ⟨trivial,by simp⟩ (r:={ Dp 101 nv v.N with xs:=nv.set c u }) q2 (.inl rfl) q1;refine⟨F.congr (fun _ hi=>hi) (fun j _=>?_),h.ln,by simp,h.lr,h.lw⟩;by_cases e:j = .b .AG
 ·
  subst e;rw[Am];show Dp _ (nv.set c u) v.N=_;simp[Dp]
 . rw[AR _ _ e,UY _ _ _ _ _ _ _ e]
theorem Mw.keep (h:Mw w m v nv hv rv wv AA b)(k:AC w w'):Mw w' m v nv hv rv wv AA b:=⟨h.Ag.keep k,h.ln,h.lh,h.lr,h.lw⟩
theorem Mm {i:BI}(hi:Ds rv i):Eg nv rv wv (.b i):=by
 cases i with
 |AM=>exact⟨trivial,by simp⟩
 |AQ=>exact⟨trivial,by simp⟩
 |rws=>exact⟨trivial,by simp⟩
 |rw p=>exact⟨hi,by simp⟩
 |bd=>exact hi.elim
 |AG=>exact hi.elim
 |AK=>exact hi.elim
 |sn=>exact hi.elim
 |fr=>exact hi.elim
 |nt c=>exact hi.elim
theorem Mw.Xr (h:Mw w m v nv hv rv wv AA b):DU w m v rv b:=by
 refine⟨⟨fun i hi=>?_,fun i j hi hj hij=>?_⟩,h.lr⟩
 ·
  have:=h.Ag.own (.b i) (Mm hi);cases i<;>first|exact this|exact absurd hi (by simp[Ds])
 ·
  have:=h.Ag.apart (.b i) (.b j) (Mm hi) (Mm hj) (fun e=>hij (by injection e));rw[LX,LX] at this;have ei:(Av 0 v [] rv b i).v=(JC v nv rv wv AA b (.b i)).v:=by cases i<;>first|rfl|exact absurd hi (by simp[Ds])
  have ej:(Av 0 v [] rv b j).v=(JC v nv rv wv AA b (.b j)).v:=by cases j<;>first|rfl|exact absurd hj (by simp[Ds])
  rw[ei,ej];exact this
theorem Mw.turn (h:Mw w m v nv hv rv wv AA b)(o:DU w' m v rv' b')(t:Aj w w' (FE v rv) (FE v rv'))(e1:b'.AG=b.AG)(e2:b'.AK=b.AK)(e3:b'.sn=b.sn)(e4:b'.fr=b.fr):Mw w' m v nv hv rv' wv AA b':=by
 have lI:∀i,Bf nv rv' i->Tw i->Ds rv' i:=fun i h1 h2=>by cases i<;>first|trivial|exact h1|exact absurd h2 (by simp[Tw])
 refine⟨h.Ag.part (w':=w') (live':=Eg nv rv' wv) (R':=LV v nv hv rv' wv AA b') Xs ⟨fun j hj=>?_,fun j l hj hl hjl=>?_⟩ (fun j hs hj=>?_) (fun j hs _=>?_) t (fun j hj hs g hg hB=>?_) (fun j hj hs g hg=>?_),by rw[e1];exact h.ln,h.lh,o.lr,h.lw⟩
 ·
  obtain⟨hj,hs⟩:=hj
  cases j with
  |b i=>
   have:=o.Ag.own i (lI i hj.1 hs);cases i<;>first|exact this|exact absurd hs (by simp[Xs,Tw])
  |wk=>exact absurd hs (by simp[Xs])
  |wd c=>exact absurd hs (by simp[Xs])
 ·
  obtain⟨hj,hs⟩:=hj;obtain⟨hl,hr⟩:=hl
  cases j with
  |b i=>
   cases l with
   |b k=>
    have:=o.Ag.apart i k (lI i hj.1 hs) (lI k hl.1 hr) (fun e=>hjl (by rw[e]));rw[LX,LX];have ei:(Av 0 v [] rv' b' i).v=(JC v nv rv' wv AA b' (.b i)).v:=by cases i<;>first|rfl|exact absurd hs (by simp[Xs,Tw])
    have ej:(Av 0 v [] rv' b' k).v=(JC v nv rv' wv AA b' (.b k)).v:=by cases k<;>first|rfl|exact absurd hr (by simp[Xs,Tw])
    rw[<-ei,<-ej];exact this
   |wk=>exact absurd hr (by simp[Xs])
   |wd c=>exact absurd hr (by simp[Xs])
  |wk=>exact absurd hs (by simp[Xs])
  |wd c=>exact absurd hs (by simp[Xs])
 ·
  cases j with
  |b i=>cases i<;>first|exact (hs trivial).elim|exact hj
  |wk=>trivial
  |wd c=>exact hj
 ·
  cases j with
  |b i=>cases i<;>first|exact (hs trivial).elim|rfl|(simp only[LV,JC,Av,e1,e2,e3,e4])
  |wk=>rfl
  |wd c=>rfl
 ·
  obtain⟨i,hi,e⟩:=hB;have li:Eg nv rv wv (.b i):=Mm hi
  have ei:(LV v nv hv rv wv AA b (.b i)).v.ownBlock=some g:=by
   rw[LX];cases i<;>first|exact e|exact absurd hi (by simp[Ds])
  have hne:j≠.b i:=fun q=>hs (by subst q;cases i<;>first|trivial|exact absurd hi (by simp[Ds]))
  rcases h.Ag.apart j (.b i) hj li hne with q|q
  . rw[hg] at q;cases q
  . exact q (hg.trans ei.symm)
 ·
  cases j with
  |b i=>
   refine⟨i,lI i hj.1 hs,?_⟩;rw[LX] at hg;cases i<;>first|exact hg|exact absurd hs (by simp[Xs,Tw])
  |wk=>exact absurd hs (by simp[Xs])
  |wd c=>exact absurd hs (by simp[Xs])
theorem Mw.free {c gq cq:Nat}{u:Value}{x:Nt}{r:List Nt}(h:Mw w m v nv (nv.set c u) rv wv AA b)(hc:c<nv.length)(hz:b.AG.getD c []=x::r)(hq:nv.getD c AE = .slice (some ⟨gq,0,none⟩) (r.length+1) cq)
  (hu:(cq=1/\u = .slice (some ⟨gq,0,none⟩) r.length 0)\/u = .slice (some ⟨gq,3,none⟩) r.length (cq-1)):CX w m w.heap.size v AA { b with AG:=b.AG.set c r }:=by
 have hcb:c<b.AG.length:=by rw[<-h.ln];exact hc
 have oq:=h.Ag.own (.b (.nt c)) ⟨hc,by simp⟩
 have oq2:Bz cN 104 3 w m (.slice (some ⟨gq,0,none⟩) (x::r).length cq) (x::r):=by
  have q:Bz cN 104 3 w m (nv.getD c AE) (b.AG.getD c []):=oq;rw[hz,hq] at q;exact q
 have hcq:r.length+1<=cq:=by
  rcases oq2.2 with ⟨q,_⟩|⟨g,cap,cur,e,_,_,hcap,_⟩
  . simp at q
  ·
   simp only[Value.slice.injEq,true_and] at e;rw[e.2];simpa using hcap
 have lq:gq<w.heap.size:=(World.ownsRow.lt oq2 gq rfl).2;have hVc:(nv.set c u).getD c AE=u:=by rw[BK _ _ _ _ hc,if_pos rfl]
 have hVo:∀i,i≠c->(nv.set c u).getD i AE=nv.getD i AE:=fun i hi=>by rw[BK _ _ _ _ hc,if_neg hi]
 have hNc:(b.AG.set c r).getD c []=r:=by rw[BK _ _ _ _ hcb,if_pos rfl]
 have hNo:∀i,i≠c->(b.AG.set c r).getD i []=b.AG.getD i []:=fun i hi=>by rw[BK _ _ _ _ hcb,if_neg hi]
 have yx:(b.AG.set c r).length=b.AG.length:=by simp
 have su:UE u r.length:=by
  rcases hu with ⟨_,e⟩|e
  . exact⟨_,_,e,.inr ⟨gq,0,rfl⟩⟩
  . exact⟨_,_,e,.inr ⟨gq,3,rfl⟩⟩
 have ru:mJ w u r:=by
  rcases hu with ⟨e1,e⟩|e
  ·
   have h0:r=[]:=List.eq_nil_of_length_eq_zero (by omega);exact⟨_,0,by rw[e,h0];rfl,.inl h0⟩
  ·
   refine⟨some ⟨gq,3,none⟩,cq-1-r.length,by rw[e];congr 1;omega,.inr ⟨gq,3,rfl,lq,fun i y hy=>?_⟩⟩;have hr:=Bz.rd D5 oq2;obtain⟨a2,c2,e2,hx⟩:=hr;rcases hx with q|⟨b2,o2,q1,q2,q3⟩
   . cases q
   ·
    rw[q1] at e2;simp only[Value.slice.injEq,Option.some.injEq,Addr.mk.injEq,and_true] at e2;obtain⟨⟨rfl,rfl⟩,-⟩:=e2;have:=q3 (i+1) y (by simpa using hy);rw[show 0+(i+1)*3=3+i*3 by omega] at this;exact this
 have row:∀j,j∈Mz AA.length (b.AG.set c r).length b.rws.length->Eg nv rv wv j/\∀y,D0 (RO v (fun i=>wv.getD i AE) (fun i=>(nv.set c u).getD i AE) (fun i=>rv.getD i AE) AA { b with AG:=b.AG.set c r } j).1 (RO v (fun i=>wv.getD i AE) (fun i=>(nv.set c u).getD i AE) (fun i=>rv.getD i AE) AA { b with AG:=b.AG.set c r } j).2 y ->
   Wb w y/\m<=y.block/\(LV v nv (nv.set c u) rv wv AA b j).v.ownBlock=some y.block:=by
  intro j hj;have plain:∀(j:BJ) (n:Nat),Eg nv rv wv j->n<=(LV v nv (nv.set c u) rv wv AA b j).n*(LV v nv (nv.set c u) rv wv AA b j).size->∀y,D0 (LV v nv (nv.set c u) rv wv AA b j).v n y->Wb w y/\m<=y.block/\(LV v nv (nv.set c u) rv wv AA b j).v.ownBlock=some y.block:=fun j n l1 l2 y hy=>Rw.wb (h.Ag.own j l1) l2 hy
  rcases FZ hj with ⟨d,hd,rfl⟩|rfl|rfl|⟨d,hd,rfl⟩|rfl|rfl|rfl|⟨d,hd,rfl⟩
  ·
   have l1:Eg nv rv wv (.wd d):=by show d<wv.length;rw[h.lw];exact hd
   exact⟨l1,plain (.wd d) _ l1 (by show 4*(AA.getD d []).length<=(AA.getD d []).length*4;omega)⟩
  . exact⟨⟨trivial,by simp⟩,plain (.b .AM) _ ⟨trivial,by simp⟩ (by show b.AM.length<=b.AM.length*1;omega)⟩
  . exact⟨⟨trivial,by simp⟩,plain (.b .AQ) _ ⟨trivial,by simp⟩ (by show b.AQ.length<=b.AQ.length*1;omega)⟩
  ·
   have l1:Eg nv rv wv (.b (.nt d)):=⟨by show d<nv.length;rw[h.ln,<-yx];exact hd,by simp⟩;refine⟨l1,fun y hy=>?_⟩;by_cases e:d=c
   ·
    subst e;have hy:D0 ((nv.set d u).getD d AE) (3*((b.AG.set d r).getD d []).length) y:=hy;rw[hVc,hNc] at hy;refine plain (.b (.nt d)) (3*(r.length+1)) l1 (by show 3*(r.length+1)<=(b.AG.getD d []).length*3;rw[hz,List.length_cons];omega) y ?_;show D0 (nv.getD d AE) _ y;rw[hq];obtain⟨b2,o2,l2,c2,i2,e2,hi2,ea⟩:=hy;rcases hu with ⟨_,e3⟩|e3
    ·
     rw[e3] at e2;simp only[Value.slice.injEq,Option.some.injEq,Addr.mk.injEq,and_true] at e2;obtain⟨⟨rfl,rfl⟩,-,-⟩:=e2;exact⟨gq,0,_,_,i2,rfl,by omega,ea⟩
    ·
     rw[e3] at e2;simp only[Value.slice.injEq,Option.some.injEq,Addr.mk.injEq,and_true] at e2;obtain⟨⟨rfl,rfl⟩,-,-⟩:=e2;exact⟨gq,0,_,_,3+i2,rfl,by omega,by rw[ea,Nat.zero_add]⟩
   ·
    have hy:D0 ((nv.set c u).getD d AE) (3*((b.AG.set c r).getD d []).length) y:=hy;rw[hVo d e,hNo d e] at hy;exact plain (.b (.nt d)) _ l1 (by show 3*(b.AG.getD d []).length<=(b.AG.getD d []).length*3;omega) y hy
  . exact⟨⟨trivial,by simp⟩,plain (.b .AK) _ ⟨trivial,by simp⟩ (by show b.AK.length<=b.AK.length*1;omega)⟩
  . exact⟨⟨trivial,by simp⟩,plain (.b .sn) _ ⟨trivial,by simp⟩ (by show b.sn.length<=b.sn.length*1;omega)⟩
  . exact⟨⟨trivial,by simp⟩,plain (.b .fr) _ ⟨trivial,by simp⟩ (by show b.fr.length<=b.fr.length*1;omega)⟩
  ·
   have l1:Eg nv rv wv (.b (.rw d)):=⟨by show d<rv.length;rw[h.lr];exact hd,by simp⟩;exact⟨l1,plain (.b (.rw d)) _ l1 (by show 1*(b.rws.getD d []).length<=(b.rws.getD d []).length*1;omega)⟩
 have heads:∀(j:BJ) (t:TypeId) (vs:List Value) (z:Value),Eg nv rv wv j->LV v nv (nv.set c u) rv wv AA b j=Dp t vs z->j∉Mz AA.length (b.AG.set c r).length b.rws.length ->
   QR w z (fun i=>vs.getD i AE) vs.length (CV (M3 v (fun i=>wv.getD i AE) (fun i=>(nv.set c u).getD i AE) (fun i=>rv.getD i AE) AA { b with AG:=b.AG.set c r })):=by
  intro j t vs z hl e hj;have ho:=h.Ag.own j hl;rw[e] at ho;obtain⟨a,cc,ea,h1⟩:=Br ho;refine⟨a,cc,ea,?_⟩;rcases h1 with h1|⟨g,e1,e2,e3⟩
  . exact .inl (by rw[h1];rfl)
  ·
   refine .inr ⟨g,0,e1,e2,fun i hi=>⟨by rw[Nat.zero_add];exact e3 i hi,?_⟩⟩;rintro⟨r',hr,hx⟩;rw[Dl,List.mem_map] at hr;obtain⟨q,hq',rfl⟩:=hr;obtain⟨l1,l2⟩:=row q hq';have hb:=(l2 _ hx).2.2;have ap:=h.Ag.apart q j l1 hl (fun e=>hj (e ▸ hq'));rw[hb,e] at ap;rcases ap with ap|ap
   . cases ap
   ·
    apply ap;show _=z.ownBlock;rw[ea,e1];rfl
 have hge:∀(j:BJ) (n:Nat),Eg nv rv wv j->iU (LV v nv (nv.set c u) rv wv AA b j).v n m:=fun j n hl q o l c' e _=>(h.Ag.lt hl q (by rw[e];rfl)).1
 have o1:BO w m v.P b.AM:=h.Ag.own (.b .AM) ⟨trivial,by simp⟩;have o2:BO w m v.L b.AQ:=h.Ag.own (.b .AQ) ⟨trivial,by simp⟩;have o3:BO w m v.X b.AK:=h.Ag.own (.b .AK) ⟨trivial,by simp⟩;have o4:BO w m v.S b.sn:=h.Ag.own (.b .sn) ⟨trivial,by simp⟩;have o5:BO w m v.F b.fr:=h.Ag.own (.b .fr) ⟨trivial,by simp⟩;have hw:=heads .wk 62 wv v.W trivial rfl (fun hq=>by have:=FZ hq;simp at this);have hn:=heads (.b .AG) 101 (nv.set c u) v.N ⟨trivial,by simp⟩ rfl (fun hq=>by have:=FZ hq;simp at this);have hr:=heads (.b .rws) 28 rv v.R ⟨trivial,by simp⟩ rfl (fun hq=>by have:=FZ hq;simp at this);rw[h.lw] at hw;rw[h.lh,h.ln,<-yx] at hn;rw[h.lr] at hr;refine⟨⟨?_,o1.rd,o2.rd,?_,o3.rd,o4.rd,o5.rd,?_⟩,⟨fun i=>wv.getD i AE,fun i=>(nv.set c u).getD i AE,fun i=>rv.getD i AE,?_,⟨?_,?_⟩,?_⟩,hge .wk _ trivial,hge (.b .AG) _ ⟨trivial,by simp⟩,hge (.b .rws) _ ⟨trivial,by simp⟩⟩
 ·
  obtain⟨a,cap,e,h1⟩:=hw;refine⟨a,cap,e,?_⟩;rcases h1 with h1|⟨g,o,e1,e2,e3⟩
  . exact .inl (List.eq_nil_of_length_eq_zero h1)
  . exact .inr ⟨g,o,e1,e2,fun i hi=>⟨_,(e3 i hi).1,(show C2 w m (wv.getD i AE) (AA.getD i []) from h.Ag.own (.wd i) (by show i<wv.length;rw[h.lw];exact hi)).Uw.rd⟩⟩
 ·
  obtain⟨a,cap,e,h1⟩:=hn;refine⟨a,cap,e,?_⟩;rcases h1 with h1|⟨g,o,e1,e2,e3⟩
  . exact .inl (List.eq_nil_of_length_eq_zero h1)
  ·
   refine .inr ⟨g,o,e1,e2,fun i hi=>⟨_,(e3 i hi).1,?_⟩⟩;show mJ w ((nv.set c u).getD i AE) ((b.AG.set c r).getD i []);by_cases ei:i=c
   . subst ei;rw[hVc,hNc];exact ru
   ·
    rw[hVo i ei,hNo i ei];have hi2:i<nv.length:=by rw[h.ln,<-yx];exact hi
    exact Bz.rd D5 (show Bz cN 104 3 w m (nv.getD i AE) (b.AG.getD i []) from h.Ag.own (.b (.nt i)) ⟨hi2,by simp⟩)
 ·
  obtain⟨a,cap,e,h1⟩:=hr;refine⟨a,cap,e,?_⟩;rcases h1 with h1|⟨g,o,e1,e2,e3⟩
  . exact .inl (List.eq_nil_of_length_eq_zero h1)
  . exact .inr ⟨g,o,e1,e2,fun i hi=>⟨_,(e3 i hi).1,(show BO w m (rv.getD i AE) (b.rws.getD i []) from h.Ag.own (.b (.rw i)) ⟨by show i<rv.length;rw[h.lr];exact hi,by simp⟩).rd⟩⟩
 ·
  refine⟨hw,fun i hi=>Rw.Ta (h.Ag.own (.wd i) (by show i<wv.length;rw[h.lw];exact hi)),Rw.Ta (h.Ag.own (.b .AM) ⟨trivial,by simp⟩),Rw.Ta (h.Ag.own (.b .AQ) ⟨trivial,by simp⟩),hn,
   fun i hi=>?_,Rw.Ta (h.Ag.own (.b .AK) ⟨trivial,by simp⟩),Rw.Ta (h.Ag.own (.b .sn) ⟨trivial,by simp⟩),Rw.Ta (h.Ag.own (.b .fr) ⟨trivial,by simp⟩),hr,
   fun i hi=>Rw.Ta (h.Ag.own (.b (.rw i)) ⟨by show i<rv.length;rw[h.lr];exact hi,by simp⟩)⟩
  show UE ((nv.set c u).getD i AE) ((b.AG.set c r).getD i []).length;by_cases ei:i=c
  . subst ei;rw[hVc,hNc];exact su
  ·
   rw[hVo i ei,hNo i ei];have hi2:i<nv.length:=by rw[h.ln,<-yx];exact hi
   exact Rw.Ta (h.Ag.own (.b (.nt i)) ⟨hi2,by simp⟩)
 ·
  rintro y ⟨r',hr',hx⟩;rw[Dl,List.mem_map] at hr';obtain⟨q,hq',rfl⟩:=hr';exact ((row q hq').2 y hx).1
 ·
  rw[Dl,List.pairwise_map];refine List.Pairwise.imp_of_mem (R:=fun a b=>a≠b) (fun {p q} hp hq' hne y hx hy=>?_) (PO _ _ _);have a1:=((row p hp).2 y hx).2.2;have a2:=((row q hq').2 y hy).2.2;rcases h.Ag.apart p q (row p hp).1 (row q hq').1 hne with ap|ap
  . rw[a1] at ap;cases ap
  . rw[a1,a2] at ap;exact ap rfl
 ·
  rintro y ⟨r',hr',hx⟩;rw[Dl,List.mem_map] at hr';obtain⟨q,hq',rfl⟩:=hr';have:=(row q hq').2 y hx;exact⟨this.2.1,this.1.lt⟩
end
end
structure sG (AA:List (List Dd))(fM:List Int)(b:Bd)(k:Nat):Prop where
 run:Y9 AA b
 eq:Jl AA (AB AA) (CM AA) fM=b
 len:fM.length=k
 mes:Df AA b+k<=24
 ln:LN AA b
 nx:∀c,0<=b.AK.getD c 0
theorem sG.new {AA:List (List Dd)}(hb:AO AA=true):sG AA [] (CM AA) 0:=
 ⟨Y9.new hb,rfl,rfl,(Ke hb).1,(Ke hb).2.1,(Ke hb).2.2⟩
theorem sG.step {AA:List (List Dd)}(hb:AO AA=true){fM:List Int}{b:Bd}{k:Nat}(h:sG AA fM b k){s:Int}(hs:Hf (Ah AA b) s=true):sG AA (fM++[s]) (Al AA (AB AA) b s) (k+1):=by
 have hm:=Hz hb (es:=AB AA) h.ln h.nx hs;refine⟨h.run.step hb hs,?_,by simp[h.len],by have:=h.mes;have:=hm.1;omega,hm.2.1,hm.2.2⟩;rw[WO,h.eq];show Jl AA (AB AA) (if Hf (Ah AA b) s=true then Al AA (AB AA) b s else b) []=_;rw[if_pos hs];rfl
theorem RB.flush {AA:List (List Dd)}{b:Bd}{N:Nat->Nat}{m:Nat}(h:RB AA b N m){c:Nat}(hc:c<AA.length){x:Nt}{r:List Nt}(e:b.AG.getD c []=x::r):RB AA (BA b c) N (m+1):=by
 have hx:=(h.nl c).2 x (by rw[e];simp);have hl:=(h.nl c).1;rw[e] at hl;have h1:=h.note (N':=N) c r (fun y hy=>(h.nl c).2 y (by rw[e];exact List.mem_cons_of_mem _ hy)) (by simp at hl;omega) (fun _ _=>Nat.le_refl _) hc;rw[BA,e];exact h1.Xr _ _ _ hx.2.1 hx.2.2
theorem NP {AA:List (List Dd)}{es:List Ev}{b:Bd}(c:Nat):Al AA es b (10+(c:Int))=BA b c:=by
 unfold Al;rw[if_pos (by omega)];have:(10+(c:Int)-10).toNat=c:=by omega
 rw[this]
theorem RB.sz {AA:List (List Dd)}{b:Bd}{n m:Nat}(h:RB AA b (fun _=>n) m)(hn:n<=1000)(hm:m<=1000):JQ AA b/\uE AA b:=by
 obtain⟨w1,w2⟩:=Jr h.work;have h9:=Mh AA
 have hr:(AV Ad (AB AA)).length<=12:=by
  unfold AV;split
  . have:=C9 Ad (AB AA) (AB AA).length;omega
  . simp
 have hl:BF AA<=12:=by
  have h1:=h.work;simp only[AO,Bool.and_eq_true,decide_eq_true_eq] at h1;exact h1.1.1.2
 have key:∀ {α:Type} (l:List (List α)) (m:Nat),(∀i,i<l.length->(l.getD i []).length<=m)->∀k,k<=l.length->Kb (l.take k)<=k*m:=by
  intro α l m h k
  induction k with
  |zero=>intro _;simp[Kb]
  |succ k ih=>
   intro hk;have:=ih (by omega);have:=h k hk;rw[Xv l k hk,Nat.add_mul];omega
 have n1:=key b.AG n (fun i _=>(h.nl i).1) b.AG.length (Nat.le_refl _);have n2:=key b.rws m (fun i _=>(h.rl i).1) b.rws.length (Nat.le_refl _);rw[List.take_length,h.AG] at n1;rw[List.take_length,h.rws] at n2;have m1:AA.length*n<=3*1000:=Nat.mul_le_mul w1 hn;refine⟨⟨by omega,w2,by rw[h.AM];omega,by rw[h.AQ];omega,by rw[h.AG];omega,fun i _=>by have:=(h.nl i).1;omega,by rw[h.AK];omega,by rw[h.sn];omega,by rw[h.fr];omega,by rw[h.rws];omega,fun i _=>by have:=(h.rl i).1;omega⟩,by omega,by omega,by omega⟩
theorem RB.any {AA:List (List Dd)}{b:Bd}(hb:Ac AA b=true):RB AA b (fun _=>20) 20:=RB.of hb (Dc.of hb).nl (Dc.of hb).rl
theorem RB.quick {AA:List (List Dd)}{b:Bd}{n m:Nat}(h:RB AA b (fun _=>n) m){c:Nat}(hc:c<AA.length)(hcan:BU AA b c=true):RB AA (BE AA (AB AA) b c) (fun _=>n+1) (m+6):=by
 have h3:AA.length<=3:=(Ay h.work).1;have h1:=h.stepped hc hcan (by omega);unfold BE;split
 . exact h1.more (fun _=>Nat.le_refl _) (by omega)
 ·
  rename_i hne;rw[NP]
  cases e:(Al AA (AB AA) b (c:Int)).AG.getD c [] with
  |nil=>rw[e] at hne;simp at hne
  |cons x r=>exact h1.flush hc e
def Ma (AA:List (List Dd)):List (List Dd):=if AO AA=true then AA else []
def PB (AA:List (List Dd)):Bd:=if AO AA=true then CM AA else Mt
theorem DZ (w:World)(v:Value)(zs:List Int)(h:Rd w v zs)(hn:zs.length<=1048576):
  Calls Tryz.prog 36 #[v] w fun e w'=>∃v',e = .returned v'/\BO w' w.heap.size v' zs/\AC w w':=by
 have ho:BO (w.alloc (.cells #[] 2)) w.heap.size (.slice (some ⟨w.heap.size,0,none⟩) 0 0) []:=World.ownsRow_lit w #[] 0 (Nat.le_refl _) (by decide) rfl;have hK:AC w (w.alloc (.cells #[] 2)):=(AC.refl w).alloc _;obtain⟨i0,hi,hz0,hz1,hz2⟩:=info_parts Tryz.GI;obtain⟨a,cap,rfl,h⟩:=h;rcases h with rfl|⟨g,off,rfl,hg,hc⟩
 ·
  cases a with
  |none=>
   go_enter Tryz.func36,Tryz.ntmps36
   go_wp2;go_ret;exact⟨_,rfl,ho,hK⟩
  |some x=>
   go_enter Tryz.func36,Tryz.ntmps36
   go_wp2_with (at_builtin;refine wpList_append_own _ rfl _ _ 28 rfl w.heap.size 2 i0 (.int .i64 0) 1 8 Tryz.underlying28 hi hz0 hz1 hz2 rfl (by decide) _ _ _ rfl ho x 0 cap [] rfl rfl ?c1 ?c2 ?c3 ?c4 ?c5 ?_)
   case c1=>intro j u hj;simp at hj
   case c2=>intro u hu;simp at hu
   case c3=>simp
   case c4=>simp
   case c5=>simp
   intro v' w1 hown' hgrow _;have k1:AC w w1:=hK.grown hgrow ho.ge;have o1:BO w1 w.heap.size v' []:=by unfold BO;simpa using hown'
   clear hgrow hown';go_wp2;go_ret;exact⟨_,rfl,o1,k1⟩
 ·
  have C:=TH (w:=w.alloc (.cells #[] 2)) (b:=g) (off:=off) (zs:=zs) (fun i hi=>(hK.cell hg).trans (hc i hi));go_enter Tryz.func36,Tryz.ntmps36
  go_wp2_with (at_builtin;refine wpList_append_own _ rfl _ _ 28 rfl w.heap.size 2 i0 (.int .i64 0) 1 8 Tryz.underlying28 hi hz0 hz1 hz2 rfl (by decide) _ _ _ rfl ho ⟨g,off,none⟩ zs.length cap (zs.map (Value.int .i64)) rfl (by simp) ?c1 ?c2 ?c3 ?c4 ?c5 ?_)
  case c1=>exact C
  case c2=>exact aK zs
  case c3=>simp;unfold maxLen;omega
  case c4=>simp;omega
  case c5=>simp
  intro v' w1 hown' hgrow _;have k1:AC w w1:=hK.grown hgrow ho.ge;have o1:BO w1 w.heap.size v' zs:=by unfold BO;simpa using hown'
  clear hgrow hown';go_wp2;go_ret;exact⟨_,rfl,o1,k1⟩
end Go.Proofs.YtnmelakgmgenjaaGreat
