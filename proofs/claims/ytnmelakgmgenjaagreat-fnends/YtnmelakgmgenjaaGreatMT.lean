/- Gathered texts. -/
import Derived.Deep.Cut
import Derived.Test.YtnmelakgmgenjaaGreatML
set_option maxRecDepth 100000
set_option maxHeartbeats 8000000
namespace Go.Proofs.YtnmelakgmgenjaaGreat
open Go.ChangeShapes Go.WideShapes Go.ChangeAt Go.RowKit
theorem JH {w:World}{ops:Array Oper}{rest:List Oper}{o:Oper}{a:Act}{Q:Exit->Act->World->Prop}(hgd:o.guard=none)(s x:Operand)
  (ho:o.op = .call { callee:= .builtin .append,args:=#[s,x],argTypes:=#[101,101] })
  (base g:Nat) (hs:a.eval s = .slice (some ⟨g,0,none⟩) 0 0) (hown:B5 cN 104 3 w base (.slice (some ⟨g,0,none⟩) 0 0) [])
  (vx:Value) (hx:a.eval x=vx) (ns:List Nt) (hr:jK w vx ns) (hn:ns.length<=1048576) (hb:base<=w.heap.size)
  (h:∀v' w',B5 cN 104 3 w' base v' ns->w.grownBy w' (some g)->wpList Tryz.prog ops Q rest (a.put o.dst v') w'):wpList Tryz.prog ops Q (o::rest) a w:=
 wpList_plain hgd fun _ hK=>Hd s x ho base g hs hown vx hx ns hr hn hb (fun v' w' h1 h2=>hK _ _ (h v' w' h1 h2))
theorem DM.push {α:Type}{t:TypeId}{rowOf:List α->Value->Rw}{w w1 w2:World}{m:Nat}{v v' u:Value}{hs:List Value}{xss:List (List α)}{xs:List α}(h:DM t rowOf w m v hs xss)(hv:∀xs u,(rowOf xs u).v=u)(k:AC w w1)
  (ou:(rowOf xs u).own w1 m) (hn:∀b,u.ownBlock=some b->w.heap.size<=b) (hg:w1.grownBy w2 v.ownBlock) (hb:v'.ownBlock=v.ownBlock\/v'.ownBlock=some w1.heap.size) (ho:(EP t (hs++[u]) v').own w2 m):DM t rowOf w2 m v' (hs++[u]) (xss++[xs]):=by
 have F1:=h.Ai.add (i:=some hs.length) (fun q=>Nat.lt_irrefl _ (show hs.length<hs.length from q)) (r:=rowOf xs u) rfl k ou (fun b hb=>hn b (by rw[hv] at hb;exact hb));have F2:=F1.set (i:=none) (.inl trivial) (r:=EP t (hs++[u]) v') (by rw[AV _ _ (by simp)];exact hg) (by rw[AV _ _ (by simp)];rcases hb with e|e;exact .inl e;exact .inr (.inl e)) ho;refine⟨F2.congr (fun o ho'=>?_) (fun o ho'=>?_),by rw[List.length_append,List.length_append,h.len];rfl⟩
 ·
  cases o with
  |none=>exact .inl trivial
  |some i=>
   have hi:i<(hs++[u]).length:=ho';rw[List.length_append] at hi;by_cases e:i=hs.length
   . exact .inr (by rw[e])
   . exact .inl (show i<hs.length by simp at hi;omega)
 ·
  cases o with
  |none=>rw[Ap];rfl
  |some i=>
   have hi:i<(hs++[u]).length:=ho';rw[List.length_append] at hi;rw[AV _ _ (by simp)];show rowOf ((xss++[xs]).getD i []) ((hs++[u]).getD i AE)=_;by_cases e:i=hs.length
   ·
    subst e;rw[Ap];have e1:(xss++[xs]).getD hs.length []=xs:=by rw[h.len,List.getD_eq_getElem?_getD,List.getElem?_append_right (Nat.le_refl _)];simp
    have e2:(hs++[u]).getD hs.length AE=u:=by rw[List.getD_eq_getElem?_getD,List.getElem?_append_right (Nat.le_refl _)];simp
    rw[e1,e2]
   ·
    rw[AV _ _ (by simpa using e)];have hi2:i<hs.length:=by simp at hi;omega
    have e1:(xss++[xs]).getD i []=xss.getD i []:=by rw[List.getD_eq_getElem?_getD,List.getElem?_append_left (by rw[<-h.len];exact hi2),<-List.getD_eq_getElem?_getD]
    have e2:(hs++[u]).getD i AE=hs.getD i AE:=by rw[List.getD_eq_getElem?_getD,List.getElem?_append_left hi2,<-List.getD_eq_getElem?_getD]
    rw[e1,e2];rfl
theorem Rl (w:World)(v:Value)(xss:List (List Nt))(h:YA w v xss)(hx:xss.length<=1048576)(hm:∀i,i<xss.length->(xss.getD i []).length<=1048576):
  Calls Tryz.prog 135 #[v] w fun e w'=>∃v' hs,e = .returned v'/\DM 101 PL w' w.heap.size v' hs xss/\AC w w':=by
 obtain⟨a,c,rfl,h⟩:=h;obtain⟨j0,hj,hy0,hy1,hy2⟩:=info_parts Tryz.QD
 have hown0:DM 101 PL (w.alloc (.cells #[] 101)) w.heap.size (.slice (some ⟨w.heap.size,0,none⟩) 0 0) [] (xss.take 0):=by
  rw[List.take_zero];refine⟨⟨fun o ho=>?_,fun o o' ho ho' hne=>?_⟩,rfl⟩
  ·
   cases o with
   |none=>exact World.ownsRow_lit w #[] 0 (Nat.le_refl _) (by decide) rfl
   |some i=>exact absurd (show i<0 from ho) (by omega)
  ·
   cases o with
   |none=>
    cases o' with
    |none=>exact absurd rfl hne
    |some i=>exact absurd (show i<0 from ho') (by omega)
   |some i=>exact absurd (show i<0 from ho) (by omega)
 go_enter Tryz.func135,Tryz.ntmps135
 go_wp2;go_loopw [3,5,9] (fun v0 _ i wr=>∃(k:Nat) (v:Value) (hs:List Value),v=v0/\k<=xss.length/\i = .int .i64 k/\DM 101 PL wr w.heap.size v hs (xss.take k)/\AC w wr) (fun _ _ i _=>xss.length-(intOf i).toNat)
 case atStart=>exact⟨0,_,_,rfl,Nat.zero_le _,rfl,hown0,(AC.refl _).alloc _⟩
 case round=>
  obtain⟨k,v,hs,rfl,hk,rfl,ho,hK⟩:=hrel;clear hown0;by_cases hlt:k<xss.length
  ·
   rcases h with h0|⟨b,off,rfl,hb,hc⟩
   . exfalso;rw[h0] at hlt;simp at hlt
   obtain⟨vi,d1,r1⟩:=hc k hlt;have d2:=(hK.cell hb).trans d1;have r2:=r1.keep hK;have hml:=hm k hlt
   have HT:Hid (xss.take (k+1)=xss.take k++[xss.getD k []]):=Lib.hid (by
    rw[List.take_add_one,List.getD_eq_getElem?_getD,List.getElem?_eq_getElem hlt];rfl)
   have hlen:hs.length=k:=by rw[ho.len,List.length_take];omega
   generalize xss.getD k []=ns at *;have hsz:=hK.size;have r3:=r2.keep ((AC.refl wr).alloc (.cells #[] 104));obtain⟨ai,ci,rfl,-⟩:=id r2;have i1:(0:Int)<=(k:Int):=Int.natCast_nonneg _;have i2:(k:Int)<(xss.length:Int):=by omega
   clear hc d1 r1 r2;have OE:B5 cN 104 3 (wr.alloc (.cells #[] 104)) wr.heap.size (.slice (some ⟨wr.heap.size,0,none⟩) 0 0) []:=World.ownsRow_lit wr #[] 0 (Nat.le_refl _) (by decide) rfl;go_wp2_with (at_builtin;refine JH rfl _ _ rfl wr.heap.size wr.heap.size rfl OE _ rfl ns r3 hml (by rw[AD];omega) ?_)
   intro u w5 o5 g5;have OU:(PL ns u).own w5 wr.heap.size:=o5;have k5:AC wr w5:=((AC.refl wr).alloc (.cells #[] 104)).grown g5 (fun q hq=>Nat.le_of_eq (Option.some.inj hq));have s5:=k5.size
   obtain⟨au,cu,hu⟩:∃a c,u = .slice a ns.length c:=by
    rcases OU.2 with ⟨e,hn'⟩|⟨g,cap,cur,e,_⟩
    . exact⟨none,0,by rw[show ns.length=0 from hn'];exact e⟩
    . exact⟨_,_,e⟩
   subst hu;have k6:AC w5 (w5.alloc (.cells #[.slice au ns.length cu] 101)):=(AC.refl w5).alloc _
   have HR:World.ownsRow (w5.alloc (.cells #[.slice au ns.length cu] 101)) w.heap.size 101 1 v k hs:=by
    have:=((ho.Ai.keep k5).keep k6).own none trivial;rw[<-hlen];exact this
   clear o5 g5;go_wp2_with (at_builtin;refine wpList_append_own_at _ rfl _ _ 34 rfl w.heap.size 101 j0 (.slice none 0 0) 1 24 Tryz.underlying34 hj hy0 hy1 hy2 rfl (by decide) _ _ _ rfl HR ⟨_,0,none⟩ 1 1 [.slice au ns.length cu] rfl rfl ?e1 ?e2 ?e3 ?e4 ?e5 ?_)
   case e1=>
    intro j u hj
    match j,hj with
    | 0,hj=>simp at hj;subst hj;simp[Addr.add]
   case e2=>intro u hu;simp at hu;subst hu;rfl
   case e3=>unfold maxLen;omega
   case e4=>omega
   case e5=>simp;omega
   intro v7 w7 hown7 hgrow7 _ hblk7;have HP:=ho.push (xs:=ns) (fun _ _=>rfl) (k5.trans k6) (DS (show (PL ns (.slice au ns.length cu)).own _ wr.heap.size from World.ownsRow.kept OU k6.grownBy (by cases (Value.slice au ns.length cu).ownBlock<;>simp)) hsz) (fun q hq=>(World.ownsRow.lt OU q hq).1) hgrow7 (by rw[AD];exact hblk7) (by show World.ownsRow _ _ _ _ _ (hs++[Value.slice au ns.length cu]).length _;rw[List.length_append,hlen];exact hown7);have K7:AC w w7:=((hK.trans k5).alloc _).grown hgrow7 (fun k hk=>(World.ownsRow.lt HR k hk).1);clear hown7 hgrow7 hblk7 HR OU ho;go_wp2;go_roundw;case rel=>exact⟨k+1,_,_,rfl,by omega,by go_num,by rw[HT.out];exact HP,K7⟩
   case measure=>simp[intOf];omega
  ·
   obtain rfl:k=xss.length:=by omega
   rw[List.take_length] at ho;go_wp2;go_ret;exact⟨_,_,rfl,ho,hK⟩
theorem Rk (w:World)(v:Value)(xss:List (List Int))(h:RJ w v xss)(hx:xss.length<=1048576)(hm:∀i,i<xss.length->(xss.getD i []).length<=1048576):
  Calls Tryz.prog 136 #[v] w fun e w'=>∃v' hs,e = .returned v'/\DM 28 Bn w' w.heap.size v' hs xss/\AC w w':=by
 obtain⟨a,c,rfl,h⟩:=h;obtain⟨j0,hj,hy0,hy1,hy2⟩:=info_parts Tryz.QC
 have hown0:DM 28 Bn (w.alloc (.cells #[] 28)) w.heap.size (.slice (some ⟨w.heap.size,0,none⟩) 0 0) [] (xss.take 0):=by
  rw[List.take_zero];refine⟨⟨fun o ho=>?_,fun o o' ho ho' hne=>?_⟩,rfl⟩
  ·
   cases o with
   |none=>exact World.ownsRow_lit w #[] 0 (Nat.le_refl _) (by decide) rfl
   |some i=>exact absurd (show i<0 from ho) (by omega)
  ·
   cases o with
   |none=>
    cases o' with
    |none=>exact absurd rfl hne
    |some i=>exact absurd (show i<0 from ho') (by omega)
   |some i=>exact absurd (show i<0 from ho) (by omega)
 go_enter Tryz.func136,Tryz.ntmps136
 go_wp2;go_loopw [3,5,9] (fun v0 _ i wr=>∃(k:Nat) (v:Value) (hs:List Value),v=v0/\k<=xss.length/\i = .int .i64 k/\DM 28 Bn wr w.heap.size v hs (xss.take k)/\AC w wr) (fun _ _ i _=>xss.length-(intOf i).toNat)
 case atStart=>exact⟨0,_,_,rfl,Nat.zero_le _,rfl,hown0,(AC.refl _).alloc _⟩
 case round=>
  obtain⟨k,v,hs,rfl,hk,rfl,ho,hK⟩:=hrel;clear hown0;by_cases hlt:k<xss.length
  ·
   rcases h with h0|⟨b,off,rfl,hb,hc⟩
   . exfalso;rw[h0] at hlt;simp at hlt
   obtain⟨vi,d1,r1⟩:=hc k hlt;have d2:=(hK.cell hb).trans d1;have r2:=r1.keep hK;have hml:=hm k hlt
   have HT:Hid (xss.take (k+1)=xss.take k++[xss.getD k []]):=Lib.hid (by
    rw[List.take_add_one,List.getD_eq_getElem?_getD,List.getElem?_eq_getElem hlt];rfl)
   have hlen:hs.length=k:=by rw[ho.len,List.length_take];omega
   generalize xss.getD k []=ns at *;have hsz:=hK.size;have r3:=r2.keep ((AC.refl wr).alloc (.cells #[] 2));obtain⟨ai,ci,rfl,-⟩:=id r2;have i1:(0:Int)<=(k:Int):=Int.natCast_nonneg _;have i2:(k:Int)<(xss.length:Int):=by omega
   clear hc d1 r1 r2;have OE:BM (wr.alloc (.cells #[] 2)) wr.heap.size (.slice (some ⟨wr.heap.size,0,none⟩) 0 0) []:=World.ownsRow_lit wr #[] 0 (Nat.le_refl _) (by decide) rfl;go_wp2_with (at_builtin;refine BB rfl _ _ rfl wr.heap.size _ [] rfl OE _ rfl ns r3 (by simp) hml (by rw[AD];omega) ?_)
   intro u w5 o5 g5 _;have OU:(Bn ns u).own w5 wr.heap.size:=o5;have k5:AC wr w5:=((AC.refl wr).alloc (.cells #[] 2)).grown g5 (fun q hq=>Nat.le_of_eq (Option.some.inj hq));have s5:=k5.size
   obtain⟨au,cu,hu⟩:∃a c,u = .slice a ns.length c:=by
    rcases OU.2 with ⟨e,hn'⟩|⟨g,cap,cur,e,_⟩
    . exact⟨none,0,by rw[show ns.length=0 from hn'];exact e⟩
    . exact⟨_,_,e⟩
   subst hu;have k6:AC w5 (w5.alloc (.cells #[.slice au ns.length cu] 28)):=(AC.refl w5).alloc _
   have HR:World.ownsRow (w5.alloc (.cells #[.slice au ns.length cu] 28)) w.heap.size 28 1 v k hs:=by
    have:=((ho.Ai.keep k5).keep k6).own none trivial;rw[<-hlen];exact this
   clear o5 g5;go_wp2_with (at_builtin;refine wpList_append_own_at _ rfl _ _ 26 rfl w.heap.size 28 j0 (.slice none 0 0) 1 24 Tryz.underlying26 hj hy0 hy1 hy2 rfl (by decide) _ _ _ rfl HR ⟨_,0,none⟩ 1 1 [.slice au ns.length cu] rfl rfl ?e1 ?e2 ?e3 ?e4 ?e5 ?_)
   case e1=>
    intro j u hj
    match j,hj with
    | 0,hj=>simp at hj;subst hj;simp[Addr.add]
   case e2=>intro u hu;simp at hu;subst hu;rfl
   case e3=>unfold maxLen;omega
   case e4=>omega
   case e5=>simp;omega
   intro v7 w7 hown7 hgrow7 _ hblk7;have HP:=ho.push (xs:=ns) (fun _ _=>rfl) (k5.trans k6) (DS (show (Bn ns (.slice au ns.length cu)).own _ wr.heap.size from World.ownsRow.kept OU k6.grownBy (by cases (Value.slice au ns.length cu).ownBlock<;>simp)) hsz) (fun q hq=>(World.ownsRow.lt OU q hq).1) hgrow7 (by rw[AD];exact hblk7) (by show World.ownsRow _ _ _ _ _ (hs++[Value.slice au ns.length cu]).length _;rw[List.length_append,hlen];exact hown7);have K7:AC w w7:=((hK.trans k5).alloc _).grown hgrow7 (fun k hk=>(World.ownsRow.lt HR k hk).1);clear hown7 hgrow7 hblk7 HR OU ho;go_wp2;go_roundw;case rel=>exact⟨k+1,_,_,rfl,by omega,by go_num,by rw[HT.out];exact HP,K7⟩
   case measure=>simp[intOf];omega
  ·
   obtain rfl:k=xss.length:=by omega
   rw[List.take_length] at ho;go_wp2;go_ret;exact⟨_,_,rfl,ho,hK⟩
theorem Hy (w:World)(v:Value)(AA:List (List Dd))(h:JJ w v AA)(hx:AA.length<=1048576)(hm:∀i,i<AA.length->(AA.getD i []).length<=1048576):
  Calls Tryz.prog 113 #[v] w fun e w'=>∃v' V,e = .returned v'/\CU w' w.heap.size w'.heap.size v' V AA/\AC w w':=by
 obtain⟨aD,vK,rfl,h⟩:=h;obtain⟨i0,hi,hz0,hz1,hz2⟩:=info_parts Tryz.ZD;obtain⟨j0,hj,hy0,hy1,hy2⟩:=info_parts Tryz.ZE
 have hown0:CU (w.alloc (.cells #[] 62)) w.heap.size (w.alloc (.cells #[] 62)).heap.size (.slice (some ⟨w.heap.size,0,none⟩) 0 0) (fun _=>vZ) (AA.take 0):=by
  rw[List.take_zero];exact⟨World.ownsRow_lit w #[] 0 (Nat.le_refl _) (by decide) rfl,fun k hk=>by simp[Value.ownBlock] at hk;subst hk;simp,fun i hi=>by simp at hi,fun i hi=>by simp at hi,fun i hi=>by simp at hi,fun i j _ hj=>by simp at hj⟩
 go_enter Tryz.func113,Tryz.ntmps113
 go_wp2;go_loopw [3,5,9] (fun v0 _ i wr=>∃(k:Nat) (v:Value) (V:Nat->Value),v=v0/\k<=AA.length/\i = .int .i64 k/\CU wr w.heap.size wr.heap.size v V (AA.take k)/\AC w wr) (fun _ _ i _=>AA.length-(intOf i).toNat)
 case atStart=>exact⟨0,_,_,rfl,Nat.zero_le _,rfl,hown0,(AC.refl _).alloc _⟩
 case round=>
  obtain⟨k,v,V,rfl,hk,rfl,ho,hK⟩:=hrel;clear hown0;by_cases hlt:k<AA.length
  ·
   rcases h with h0|⟨b,off,rfl,hb,hc⟩
   . exfalso;rw[h0] at hlt;simp at hlt
   obtain⟨vi,d1,r1⟩:=hc k hlt;have d2:=(hK.cell hb).trans d1;have r2:=r1.keep hK;have hml:=hm k hlt
   have HT:Hid (AA.take (k+1)=AA.take k++[AA.getD k []]):=Lib.hid (by
    rw[List.take_add_one,List.getD_eq_getElem?_getD,List.getElem?_eq_getElem hlt];rfl)
   have hlen:(AA.take k).length=k:=by rw[List.length_take];omega
   generalize AA.getD k []=ds at *;obtain⟨ai,ci,rfl,r2⟩:=r2;have i1:(0:Int)<=(k:Int):=Int.natCast_nonneg _;have i2:(k:Int)<(AA.length:Int):=by omega
   have hsz:=hK.size;clear hc d1 r1;have OE:(wr.alloc (.cells #[] 65)).ownsRow wr.heap.size 65 4 (.slice (some ⟨wr.heap.size,0,none⟩) 0 0) 0 []:=World.ownsRow_lit wr #[] 0 (Nat.le_refl _) (by decide) rfl;have d3:(wr.alloc (.cells #[] 65)).cell? ⟨b,off+k,none⟩=some (.slice ai ds.length (ds.length+ci)):=(((AC.refl wr).alloc _).cell (Nat.lt_of_lt_of_le hb hsz)).trans d2;rcases r2 with h0|⟨bd,od,rfl,hbd,hcd⟩
   ·
    subst h0
    cases ai with
    |none=>
     have OD:Br (wr.alloc (.cells #[] 65)) wr.heap.size (.slice (some ⟨wr.heap.size,0,none⟩) 0 0) []:=OE;have k5:AC wr (wr.alloc (.cells #[] 65)):=(AC.refl wr).alloc _;have HX5:=(ho.keep k5).keep ((AC.refl (wr.alloc (.cells #[] 65))).alloc (.cells #[.slice (some ⟨wr.heap.size,0,none⟩) 0 0] 62));have HR:=HX5.row;rw[hlen] at HR;have RF:=OD.keep ((AC.refl (wr.alloc (.cells #[] 65))).alloc (.cells #[.slice (some ⟨wr.heap.size,0,none⟩) 0 0] 62));have s5:=k5.size;go_wp2_with (at_builtin;refine wpList_append_own_at _ rfl _ _ 24 rfl w.heap.size 62 j0 (.slice none 0 0) 1 24 Tryz.underlying24 hj hy0 hy1 hy2 rfl (by decide) _ _ _ rfl HR ⟨_,0,none⟩ 1 1 [.slice (some ⟨wr.heap.size,0,none⟩) 0 0] rfl rfl ?e1 ?e2 ?e3 ?e4 ?e5 ?_)
     case e1=>
      intro j u hj
      match j,hj with
      | 0,hj=>simp at hj;subst hj;simp[Addr.add]
     case e2=>intro u hu;simp at hu;subst hu;rfl
     case e3=>unfold maxLen;omega
     case e4=>omega
     case e5=>simp;omega
     intro v' w7 hown7 hgrow7 _ hblk7;have HP:=HX5.push RF hsz (by rw[hlen];exact hown7) hgrow7 (by rw[AD,AD];exact hblk7) (by simp;omega);have K7:AC w w7:=((hK.trans k5).alloc _).grown hgrow7 (fun k hk=>(World.ownsRow.lt HR k hk).1);clear hown7 hgrow7 hblk7 HR HX5 RF;go_wp2;go_roundw;case rel=>exact⟨k+1,_,_,rfl,by omega,by go_num,by rw[HT.out];exact HP,K7⟩
     case measure=>simp[intOf];omega
    |some x=>
     go_wp2_with (at_builtin;refine wpList_append_own _ rfl _ _ 62 rfl wr.heap.size 65 i0 (.agg #[.int .i64 0,.int .i64 0,.int .i64 0,.int .i64 0]) 4 32 Tryz.underlying62 hi hz0 hz1 hz2 rfl (by decide) _ _ _ rfl OE x 0 ci [] rfl rfl ?c1 ?c2 ?c3 ?c4 ?c5 ?_)
     case c1=>intro j u hj;simp at hj
     case c2=>intro u hu;simp at hu
     case c3=>simp
     case c4=>simp
     case c5=>simp
     intro u w5 hown5 hgrow5 _;have OD:Br w5 wr.heap.size u []:=by unfold Br;simpa using hown5
     have k5:AC wr w5:=((AC.refl wr).alloc (.cells #[] 65)).grown hgrow5 (fun k hk=>(World.ownsRow.lt OE k hk).1);clear hown5 hgrow5;obtain⟨au,cu,hu⟩:∃a c,u = .slice a 0 c:=OD.shape;subst hu;have HX5:=(ho.keep k5).keep ((AC.refl w5).alloc (.cells #[.slice au 0 cu] 62));have HR:=HX5.row;rw[hlen] at HR;have RF:=OD.keep ((AC.refl w5).alloc (.cells #[.slice au 0 cu] 62));have s5:=k5.size;go_wp2_with (at_builtin;refine wpList_append_own_at _ rfl _ _ 24 rfl w.heap.size 62 j0 (.slice none 0 0) 1 24 Tryz.underlying24 hj hy0 hy1 hy2 rfl (by decide) _ _ _ rfl HR ⟨_,0,none⟩ 1 1 [.slice au 0 cu] rfl rfl ?e1 ?e2 ?e3 ?e4 ?e5 ?_)
     case e1=>
      intro j u hj
      match j,hj with
      | 0,hj=>simp at hj;subst hj;simp[Addr.add]
     case e2=>intro u hu;simp at hu;subst hu;rfl
     case e3=>unfold maxLen;omega
     case e4=>omega
     case e5=>simp;omega
     intro v' w7 hown7 hgrow7 _ hblk7;have HP:=HX5.push RF hsz (by rw[hlen];exact hown7) hgrow7 (by rw[AD];exact hblk7) (by simp;omega);have K7:AC w w7:=((hK.trans k5).alloc _).grown hgrow7 (fun k hk=>(World.ownsRow.lt HR k hk).1);clear hown7 hgrow7 hblk7 HR HX5 RF;go_wp2;go_roundw;case rel=>exact⟨k+1,_,_,rfl,by omega,by go_num,by rw[HT.out];exact HP,K7⟩
     case measure=>simp[intOf];omega
   ·
    have NC:=Om (w:=wr.alloc (.cells #[] 65)) (b:=bd) (off:=od) (ds:=ds) (fun i hi=>(hcd i hi).keep hbd ((AC.refl wr).alloc _));go_wp2_with (at_builtin;refine wpList_append_own _ rfl _ _ 62 rfl wr.heap.size 65 i0 (.agg #[.int .i64 0,.int .i64 0,.int .i64 0,.int .i64 0]) 4 32 Tryz.underlying62 hi hz0 hz1 hz2 rfl (by decide) _ _ _ rfl OE ⟨bd,od,none⟩ ds.length (ds.length+ci) (ds.flatMap cD) rfl (Pt ds) ?c1 ?c2 ?c3 ?c4 ?c5 ?_)
    case c1=>exact NC
    case c2=>exact Uh ds
    case c3=>unfold maxLen;omega
    case c4=>omega
    case c5=>simp
    intro u w5 hown5 hgrow5 _;have OD:Br w5 wr.heap.size u ds:=by unfold Br;simpa using hown5
    have k5:AC wr w5:=((AC.refl wr).alloc (.cells #[] 65)).grown hgrow5 (fun k hk=>(World.ownsRow.lt OE k hk).1);clear hown5 hgrow5;obtain⟨au,cu,hu⟩:=OD.shape;subst hu;have HX5:=(ho.keep k5).keep ((AC.refl w5).alloc (.cells #[.slice au ds.length cu] 62));have HR:=HX5.row;rw[hlen] at HR;have RF:=OD.keep ((AC.refl w5).alloc (.cells #[.slice au ds.length cu] 62));have s5:=k5.size;go_wp2_with (at_builtin;refine wpList_append_own_at _ rfl _ _ 24 rfl w.heap.size 62 j0 (.slice none 0 0) 1 24 Tryz.underlying24 hj hy0 hy1 hy2 rfl (by decide) _ _ _ rfl HR ⟨_,0,none⟩ 1 1 [.slice au ds.length cu] rfl rfl ?e1 ?e2 ?e3 ?e4 ?e5 ?_)
    case e1=>
     intro j u hj
     match j,hj with
     | 0,hj=>simp at hj;subst hj;simp[Addr.add]
    case e2=>intro u hu;simp at hu;subst hu;rfl
    case e3=>unfold maxLen;omega
    case e4=>omega
    case e5=>simp;omega
    intro v' w7 hown7 hgrow7 _ hblk7;have HP:=HX5.push RF hsz (by rw[hlen];exact hown7) hgrow7 (by rw[AD];exact hblk7) (by simp;omega);have K7:AC w w7:=((hK.trans k5).alloc _).grown hgrow7 (fun k hk=>(World.ownsRow.lt HR k hk).1);clear hown7 hgrow7 hblk7 HR HX5 RF;go_wp2;go_roundw;case rel=>exact⟨k+1,_,_,rfl,by omega,by go_num,by rw[HT.out];exact HP,K7⟩
    case measure=>simp[intOf];omega
  ·
   obtain rfl:k=AA.length:=by omega
   rw[List.take_length] at ho;go_wp2;go_ret;exact⟨_,_,rfl,ho,hK⟩
def Lo (b:Bd)(o:Nat):Nat:=if o=13 then b.AG.length+1 else if o=28 then b.rws.length+1 else 1
def lV:BI->Option (Nat×Nat)
 | .bd=>none
 | .AM=>some (3,0)
 | .AO=>some (7,0)
 | .AG=>some (13,0)
 | .AL=>some (14,0)
 | .sn=>some (18,0)
 | .fr=>some (22,0)
 | .rws=>some (28,0)
 | .nt c=>some (13,c+1)
 | .rw p=>some (28,p+1)
theorem gJ:∀a b i,lV a=some i->lV b=some i->a=b:=by
 intro a b i h1 h2;cases a<;>cases b<;>simp only[lV,Option.some.injEq,reduceCtorEq] at h1 h2<;>subst h1<;>simp_all
theorem fT {w:World}{m bs N:Nat}{B:Nat->Bool}{R:Nat×Nat->Rw}{AA:List (List Dd)}{b:Bd}{wv nv rv:List Value}{x5 x9 x13 x16 x20 x24 x28 x31:Value}(HM:Jn w m (CJ [3,7,13,14,18,22,28] (Lo b) B) R true x5 wv bs N AA)
  (b3:B 3=true) (b7:B 7=true) (b13:B 13=true) (b14:B 14=true) (b18:B 18=true) (b22:B 22=true) (b28:B 28=true)
  (r3:R (3,0)=Bn b.AM x9) (r7:R (7,0)=Bn b.AO x13) (ln:nv.length=b.AG.length) (rn:R (13,0)=EP 101 nv x16) (rn':∀i,R (13,i+1)=PL (b.AG.getD i []) (nv.getD i AE))
  (r14:R (14,0)=Bn b.AL x20) (r18:R (18,0)=Bn b.sn x24) (r22:R (22,0)=Bn b.fr x28) (lr:rv.length=b.rws.length) (rr:R (28,0)=EP 28 rv x31) (rr':∀i,R (28,i+1)=Bn (b.rws.getD i []) (rv.getD i AE)):
  BG w m ⟨x5,x9,x13,x16,x20,x24,x28,x31⟩ nv rv bs N AA b:=by
 have H1:∀a i,(BZ nv rv a/\a≠.bd)->lV a=some i->CJ [3,7,13,14,18,22,28] (Lo b) B i/\Ax 0 ⟨x5,x9,x13,x16,x20,x24,x28,x31⟩ nv rv b a=R i:=by
  intro a i ha hi
  match a,ha,hi with
  | .AM,_,hi=>cases hi;exact⟨⟨by decide,b3,by show 0<1;omega⟩,r3.symm⟩
  | .AO,_,hi=>cases hi;exact⟨⟨by decide,b7,by show 0<1;omega⟩,r7.symm⟩
  | .AG,_,hi=>cases hi;exact⟨⟨by decide,b13,by show 0<b.AG.length+1;omega⟩,rn.symm⟩
  | .AL,_,hi=>cases hi;exact⟨⟨by decide,b14,by show 0<1;omega⟩,r14.symm⟩
  | .sn,_,hi=>cases hi;exact⟨⟨by decide,b18,by show 0<1;omega⟩,r18.symm⟩
  | .fr,_,hi=>cases hi;exact⟨⟨by decide,b22,by show 0<1;omega⟩,r22.symm⟩
  | .rws,_,hi=>cases hi;exact⟨⟨by decide,b28,by show 0<b.rws.length+1;omega⟩,rr.symm⟩
  | .nt c,ha,hi=>cases hi;exact⟨⟨by simp,b13,by have:c<nv.length:=ha.1;show c+1<b.AG.length+1;omega⟩,(rn' c).symm⟩
  | .rw c,ha,hi=>cases hi;exact⟨⟨by simp,b28,by have:c<rv.length:=ha.1;show c+1<b.rws.length+1;omega⟩,(rr' c).symm⟩
 have H2:∀a,(BZ nv rv a/\a≠.bd)->lV a=none->(Ax 0 ⟨x5,x9,x13,x16,x20,x24,x28,x31⟩ nv rv b a).own w m/\(Ax 0 ⟨x5,x9,x13,x16,x20,x24,x28,x31⟩ nv rv b a).v.ownBlock=none:=by
  intro a ha hn
  match a,ha,hn with
  | .bd,ha,_=>exact absurd rfl ha.2
 refine⟨HM.Ai.via lV gJ H1 H2,ln,lr,(HM.work rfl).1,(HM.work rfl).2.2.1,fun a ha hbd k hk=>?_⟩
 cases e:lV a with
 |none=>rw[(H2 a ⟨ha,hbd⟩ e).2] at hk;cases hk
 |some i=>rw[(H1 a i ⟨ha,hbd⟩ e).2] at hk;exact HM.out rfl i (H1 a i ⟨ha,hbd⟩ e).1 k hk
structure o9 (w:World)(w1:World)(AA:List (List Dd))(b:Bd)(aW:Option Addr)(aP:Option Addr)(aL:Option Addr)(aN:Option Addr)(aX:Option Addr)(aT:Option Addr)(aF:Option Addr)(aR:Option Addr)(cW:Nat)(cP:Nat)(cL:Nat)(cQ:Nat)(cX:Nat)(cT:Nat)(cF:Nat)(cR:Nat)(B:Nat->Bool)(R:Nat×Nat->Rw)(wv:List Value)(nv:List Value)(rv:List Value)(bs:Nat)(N:Nat)(x3 x4 x5 x6 x7 x8 x9 x10 x11 x12 x13 x14 x15 x16 x17 x18 x19 x20 x21 x22 x23 x24 x25 x26 x27 x28 x29 x30 x31 x32:Value)(w3:World):Prop where
 HM:Jn w3 w1.heap.size (CJ [3,7,13,14,18,22,28] (Lo b) B) R (B 2) x5 wv bs N AA
 HK:AC w w3
 HS:w1.heap.size<=w3.heap.size
 HB:w3.heap[w.heap.size]? = some (.cells #[.slice aW AA.length cW,.slice aP b.AM.length cP,.slice aL b.AO.length cL,.slice aN b.AG.length cQ,.slice aX b.AL.length cX,.slice aT b.sn.length cT,.slice aF b.fr.length cF,.slice aR b.rws.length cR] 36 (0,0))
 HZ:B 30=false->w3.heap[w.heap.size+1]? = some (.cells #[AE,AE,AE,AE,AE,AE,AE,AE] 36 (0,0))
 F3:B 3=true->(∃g,x6 = .slice (some ⟨g,0,none⟩) 0 0)/\(B 6=false->R (3,0)=Bn [] x6)
 F4:B 4=true->x7 = .pointer (some ⟨w.heap.size,1,none⟩)
 F5:B 5=true->x8 = .slice aP b.AM.length cP
 F6:B 6=true->B 3=true/\(∃a c,x9 = .slice a b.AM.length c)/\R (3,0)=Bn b.AM x9
 F7:B 7=true->(∃g,x10 = .slice (some ⟨g,0,none⟩) 0 0)/\(B 10=false->R (7,0)=Bn [] x10)
 F8:B 8=true->x11 = .pointer (some ⟨w.heap.size,2,none⟩)
 F9:B 9=true->x12 = .slice aL b.AO.length cL
 F10:B 10=true->B 7=true/\(∃a c,x13 = .slice a b.AO.length c)/\R (7,0)=Bn b.AO x13
 F14:B 14=true->(∃g,x17 = .slice (some ⟨g,0,none⟩) 0 0)/\(B 17=false->R (14,0)=Bn [] x17)
 F15:B 15=true->x18 = .pointer (some ⟨w.heap.size,4,none⟩)
 F16:B 16=true->x19 = .slice aX b.AL.length cX
 F17:B 17=true->B 14=true/\(∃a c,x20 = .slice a b.AL.length c)/\R (14,0)=Bn b.AL x20
 F18:B 18=true->(∃g,x21 = .slice (some ⟨g,0,none⟩) 0 0)/\(B 21=false->R (18,0)=Bn [] x21)
 F19:B 19=true->x22 = .pointer (some ⟨w.heap.size,5,none⟩)
 F20:B 20=true->x23 = .slice aT b.sn.length cT
 F21:B 21=true->B 18=true/\(∃a c,x24 = .slice a b.sn.length c)/\R (18,0)=Bn b.sn x24
 F22:B 22=true->(∃g,x25 = .slice (some ⟨g,0,none⟩) 0 0)/\(B 25=false->R (22,0)=Bn [] x25)
 F23:B 23=true->x26 = .pointer (some ⟨w.heap.size,6,none⟩)
 F24:B 24=true->x27 = .slice aF b.fr.length cF
 F25:B 25=true->B 22=true/\(∃a c,x28 = .slice a b.fr.length c)/\R (22,0)=Bn b.fr x28
 F0:B 0=true->x3 = .pointer (some ⟨w.heap.size,0,none⟩)
 F1:B 1=true->x4 = .slice aW AA.length cW
 F2:B 2=true->∃a c,x5 = .slice a AA.length c
 F11:B 11=true->x14 = .pointer (some ⟨w.heap.size,3,none⟩)
 F12:B 12=true->x15 = .slice aN b.AG.length cQ
 F13:B 13=true->(∃a c,x16 = .slice a b.AG.length c)/\nv.length=b.AG.length/\R (13,0)=EP 101 nv x16/\∀i,R (13,i+1)=PL (b.AG.getD i []) (nv.getD i AE)
 F26:B 26=true->x29 = .pointer (some ⟨w.heap.size,7,none⟩)
 F27:B 27=true->x30 = .slice aR b.rws.length cR
 F28:B 28=true->(∃a c,x31 = .slice a b.rws.length c)/\rv.length=b.rws.length/\R (28,0)=EP 28 rv x31/\∀i,R (28,i+1)=Bn (b.rws.getD i []) (rv.getD i AE)
 F29:B 29=true->(B 2=true/\B 6=true/\B 10=true/\B 13=true/\B 17=true/\B 21=true/\B 25=true/\B 28=true)/\x32 = .agg #[x5,x9,x13,x16,x20,x24,x28,x31]
 F30:B 30=true->B 29=true/\w3.heap[w.heap.size+1]? = some (.cells #[x5,x9,x13,x16,x20,x24,x28,x31] 36 (0,0))
theorem MD (w:World)(bv:BV)(AA:List (List Dd))(b:Bd)(h:CV w bv AA b)(hb:AW AA b=true):
  Calls Tryz.prog 102 #[bv.agg] w fun e w'=>∃bv' nv rv wv bs N,e = .returned (BV.agg bv')/\BG w' w.heap.size bv' nv rv bs N AA b/\Dh w' bs N bv'.W wv AA/\w.heap.size<=bs/\AC w w':=by
 obtain⟨hwk,q1,q2,q3,q4,q5,q6,q7,q8,q9⟩:=ED hb;obtain⟨u1,hll⟩:=G7 hwk;have g1:b.AM.length<=1048576:=by omega
 have g2:b.AO.length<=1048576:=by omega
 have g3:b.AL.length<=1048576:=by omega
 have g4:b.AG.length<=1048576:=by omega
 have g5:b.rws.length<=1048576:=by omega
 have hln:∀i,i<b.AG.length->(b.AG.getD i []).length<=1048576:=fun i hi=>by have:=q9 i (by omega);omega
 have hlr:∀i,i<b.rws.length->(b.rws.getD i []).length<=1048576:=fun i hi=>by have:=q8 i (by omega);omega
 clear q1 q2 q3 q4 q5 q8 q9 hwk;obtain⟨aW,aP,aL,aN,aX,aT,aF,aR,cW,cP,cL,cQ,cX,cT,cF,cR,rfl⟩:=h.shapes;go_enter Tryz.func102,Tryz.ntmps102
 go_upto_region 1 with fail
 obtain⟨w1,hw1⟩:∃W:World,W=(w.alloc (.cells #[.slice aW AA.length cW,.slice aP b.AM.length cP,.slice aL b.AO.length cL,.slice aN b.AG.length cQ,.slice aX b.AL.length cX,.slice aT b.sn.length cT,.slice aF b.fr.length cF,.slice aR b.rws.length cR] 36)).alloc (.cells #[AE,AE,AE,AE,AE,AE,AE,AE] 36):=⟨_,rfl⟩;have K1:AC w w1:=by rw[hw1];exact ((AC.refl w).alloc _).alloc _
 have s1:w1.heap.size=w.heap.size+1+1:=by rw[hw1,AD,AD]
 have hB1:w1.heap[w.heap.size]? = some (.cells #[.slice aW AA.length cW,.slice aP b.AM.length cP,.slice aL b.AO.length cL,.slice aN b.AG.length cQ,.slice aX b.AL.length cX,.slice aT b.sn.length cT,.slice aF b.fr.length cF,.slice aR b.rws.length cR] 36 (0,0)):=by rw[hw1];exact CX ((AC.refl _).alloc _)
 have hR1:w1.heap[w.heap.size+1]? = some (.cells #[AE,AE,AE,AE,AE,AE,AE,AE] 36 (0,0)):=by rw[hw1,<-AD w (.cells #[.slice aW AA.length cW,.slice aP b.AM.length cP,.slice aL b.AO.length cL,.slice aN b.AG.length cQ,.slice aX b.AL.length cX,.slice aT b.sn.length cT,.slice aF b.fr.length cF,.slice aR b.rws.length cR] 36)];exact heap_alloc_new _ _
 rw[<-hw1];clear hw1;have y1:w.heap.size+1<w1.heap.size:=by omega
 clear s1;refine Bx (by kernel_rfl) (fun listed a w3=>∃(B:Nat->Bool) (R:Nat×Nat->Rw) (wv:List Value) (nv:List Value) (rv:List Value) (bs:Nat) (N:Nat) (x3 x4 x5 x6 x7 x8 x9 x10 x11 x12 x13 x14 x15 x16 x17 x18 x19 x20 x21 x22 x23 x24 x25 x26 x27 x28 x29 x30 x31 x32:Value),listed=#[B 0,B 1,B 2,B 3,B 4,B 5,B 6,B 7,B 8,B 9,B 10,B 11,B 12,B 13,B 14,B 15,B 16,B 17,B 18,B 19,B 20,B 21,B 22,B 23,B 24,B 25,B 26,B 27,B 28,B 29,B 30]/\a=⟨#[.agg #[.slice aW AA.length cW,.slice aP b.AM.length cP,.slice aL b.AO.length cL,.slice aN b.AG.length cQ,.slice aX b.AL.length cX,.slice aT b.sn.length cT,.slice aF b.fr.length cF,.slice aR b.rws.length cR],.pointer (some ⟨w.heap.size,0,none⟩),.pointer (some ⟨w.heap.size+1,0,none⟩),x3,x4,x5,x6,x7,x8,x9,x10,x11,x12,x13,x14,x15,x16,x17,x18,x19,x20,x21,x22,x23,x24,x25,x26,x27,x28,x29,x30,x31,x32],[]⟩/\o9 w w1 AA b aW aP aL aN aX aT aF aR cW cP cL cQ cX cT cF cR B R wv nv rv bs N x3 x4 x5 x6 x7 x8 x9 x10 x11 x12 x13 x14 x15 x16 x17 x18 x19 x20 x21 x22 x23 x24 x25 x26 x27 x28 x29 x30 x31 x32 w3) ?_ ?_ ?_
 . exact⟨fun _=>false,fun _=>⟨0,0,AE,0,[]⟩,[],[],[],0,0,undef,undef,undef,undef,undef,undef,undef,undef,undef,undef,undef,undef,undef,undef,undef,undef,undef,undef,undef,undef,undef,undef,undef,undef,undef,undef,undef,undef,undef,undef,rfl,rfl,⟨Jn.start _ _ _ _ _ _ _ _ _ _,K1.drew,Nat.le_refl _,hB1,(fun _=>hR1),(fun q=>by cases q),(fun q=>by cases q),(fun q=>by cases q),(fun q=>by cases q),(fun q=>by cases q),(fun q=>by cases q),(fun q=>by cases q),(fun q=>by cases q),(fun q=>by cases q),(fun q=>by cases q),(fun q=>by cases q),(fun q=>by cases q),(fun q=>by cases q),(fun q=>by cases q),(fun q=>by cases q),(fun q=>by cases q),(fun q=>by cases q),(fun q=>by cases q),(fun q=>by cases q),(fun q=>by cases q),(fun q=>by cases q),(fun q=>by cases q),(fun q=>by cases q),(fun q=>by cases q),(fun q=>by cases q),(fun q=>by cases q),(fun q=>by cases q),(fun q=>by cases q),(fun q=>by cases q),(fun q=>by cases q),(fun q=>by cases q)⟩⟩
 ·
  rintro listed a w3 ⟨B,R,wv,nv,rv,bs,N,x3,x4,x5,x6,x7,x8,x9,x10,x11,x12,x13,x14,x15,x16,x17,x18,x19,x20,x21,x22,x23,x24,x25,x26,x27,x28,x29,x30,x31,x32,rfl,rfl,h'⟩ i hi;have hlt:=(AF hi).1;have hcs:i=0\/i=1\/i=2\/i=3\/i=4\/i=5\/i=6\/i=7\/i=8\/i=9\/i=10\/i=11\/i=12\/i=13\/i=14\/i=15\/i=16\/i=17\/i=18\/i=19\/i=20\/i=21\/i=22\/i=23\/i=24\/i=25\/i=26\/i=27\/i=28\/i=29\/i=30:=by simp at hlt;omega
  rcases hcs with rfl|rfl|rfl|rfl|rfl|rfl|rfl|rfl|rfl|rfl|rfl|rfl|rfl|rfl|rfl|rfl|rfl|rfl|rfl|rfl|rfl|rfl|rfl|rfl|rfl|rfl|rfl|rfl|rfl|rfl|rfl
  ·
   have hbi:B 0=false:=by simpa using (AF hi).2.1
   refine AH rfl rfl (fun K hK=>?_);simp only[List.getElem_toArray,List.getElem_cons_zero];go_simp;refine hK.out _ _ ?_;exact⟨AZ B 0,R,wv,nv,rv,bs,N,_,_,_,_,_,_,_,_,_,_,_,_,_,_,_,_,_,_,_,_,_,_,_,_,_,_,_,_,_,_,rfl,rfl,{ h' with F0:=(fun _=>rfl),HM:=h'.HM.pass (by decide) }⟩
  ·
   have hbi:B 1=false:=by simpa using (AF hi).2.1
   have d0:B 0=true:=AJ hi 0 rfl (by kernel_rfl);have dc:w3.cell? ⟨w.heap.size,0,none⟩=some (.slice aW AA.length cW):=by rw[cell_of_row w3 _ 0 _ _ _ h'.HB];rfl
   have Ex:=Lib.hid (h'.F0 d0);rw[Ex.out];refine AH rfl rfl (fun K hK=>?_);simp only[List.getElem_toArray,List.getElem_cons_succ,List.getElem_cons_zero];go_simp;refine hK.out _ _ ?_;have ex:=Ex.out;subst ex;exact⟨AZ B 1,R,wv,nv,rv,bs,N,_,_,_,_,_,_,_,_,_,_,_,_,_,_,_,_,_,_,_,_,_,_,_,_,_,_,_,_,_,_,rfl,rfl,{ h' with F1:=(fun _=>rfl),HM:=h'.HM.pass (by decide) }⟩
  ·
   have hbi:B 2=false:=by simpa using (AF hi).2.1
   have d1:B 1=true:=AJ hi 1 rfl (by kernel_rfl);have hsz:=h'.HS;have hy:=y1;have Ex:=Lib.hid (h'.F1 d1);rw[Ex.out];refine AH rfl rfl (fun K hK=>?_);simp only[List.getElem_toArray,List.getElem_cons_succ,List.getElem_cons_zero];go_simp;refine (Hy _ _ _ (h.W.keep h'.HK) (by omega) hll).mono ?_;rintro e wz ⟨vz,V,rfl,hx,kk⟩;go_wp2_with fail
   refine hK.out _ _ ?_;have ex:=Ex.out;subst ex;have HM:=h'.HM;rw[hbi] at HM;obtain⟨az,cz,ez,-⟩:=id hx.rdW;exact⟨AZ B 2,R,_,nv,rv,_,_,_,_,_,_,_,_,_,_,_,_,_,_,_,_,_,_,_,_,_,_,_,_,_,_,_,_,_,_,_,_,rfl,rfl,{ h' with F29:=(fun q=>absurd (h'.F29 q).1.1 (by rw[hbi];simp)),F30:=(fun q=>absurd (h'.F29 (h'.F30 q).1).1.1 (by rw[hbi];simp)),F2:=(fun _=>⟨az,cz,ez⟩),HM:=HM.copied (by decide) kk hx hsz,HK:=h'.HK.trans kk,HS:=Nat.le_trans h'.HS kk.size,HB:=(Below.block kk w.heap.size (by omega)).trans h'.HB,HZ:=(fun q=>(Below.block kk (w.heap.size+1) (by omega)).trans (h'.HZ q)) }⟩
  ·
   have hbi:B 3=false:=by simpa using (AF hi).2.1
   have hsz:=h'.HS;have hy:=y1;refine AH rfl rfl (fun K hK=>?_);simp only[List.getElem_toArray,List.getElem_cons_succ,List.getElem_cons_zero];go_simp;refine hK.out _ _ ?_;exact⟨AZ B 3,_,wv,nv,rv,bs,N,_,_,_,_,_,_,_,_,_,_,_,_,_,_,_,_,_,_,_,_,_,_,_,_,_,_,_,_,_,_,rfl,rfl,{ h' with HM:=h'.HM.one hbi rfl (r:=Bn [] (.slice (some ⟨w3.heap.size,0,none⟩) 0 0)) ((AC.refl w3).alloc _) (World.ownsRow_lit w3 #[] 0 hsz (by decide) rfl) (fun q hq=>Nat.le_of_eq (Option.some.inj hq)),F3:=(fun _=>⟨⟨_,rfl⟩,fun _=>rfl⟩),F6:=(fun q=>absurd (h'.F6 q).1 (by rw[hbi];simp)),HK:=h'.HK.trans ((AC.refl w3).alloc _),HS:=Nat.le_trans h'.HS ((AC.refl w3).alloc _).size,HB:=(Below.block ((AC.refl w3).alloc _) w.heap.size (by omega)).trans h'.HB,HZ:=(fun q=>(Below.block ((AC.refl w3).alloc _) (w.heap.size+1) (by omega)).trans (h'.HZ q)),F29:=(fun q=>absurd (h'.F6 ((h'.F29 q).1.2.1)).1 (by rw[hbi];simp)),F30:=(fun q=>absurd (h'.F6 ((h'.F29 (h'.F30 q).1).1.2.1)).1 (by rw[hbi];simp)) }⟩
  ·
   have hbi:B 4=false:=by simpa using (AF hi).2.1
   refine AH rfl rfl (fun K hK=>?_);simp only[List.getElem_toArray,List.getElem_cons_succ,List.getElem_cons_zero];go_simp;refine hK.out _ _ ?_;exact⟨AZ B 4,R,wv,nv,rv,bs,N,_,_,_,_,_,_,_,_,_,_,_,_,_,_,_,_,_,_,_,_,_,_,_,_,_,_,_,_,_,_,rfl,rfl,{ h' with F4:=(fun _=>rfl),HM:=h'.HM.pass (by decide) }⟩
  ·
   have hbi:B 5=false:=by simpa using (AF hi).2.1
   have d4:B 4=true:=AJ hi 4 rfl (by kernel_rfl);have dc:w3.cell? ⟨w.heap.size,1,none⟩=some (.slice aP b.AM.length cP):=by rw[cell_of_row w3 _ 1 _ _ _ h'.HB];rfl
   have Ex:=Lib.hid (h'.F4 d4);rw[Ex.out];refine AH rfl rfl (fun K hK=>?_);simp only[List.getElem_toArray,List.getElem_cons_succ,List.getElem_cons_zero];go_simp;refine hK.out _ _ ?_;have ex:=Ex.out;subst ex;exact⟨AZ B 5,R,wv,nv,rv,bs,N,_,_,_,_,_,_,_,_,_,_,_,_,_,_,_,_,_,_,_,_,_,_,_,_,_,_,_,_,_,_,rfl,rfl,{ h' with F5:=(fun _=>rfl),HM:=h'.HM.pass (by decide) }⟩
  ·
   have hbi:B 6=false:=by simpa using (AF hi).2.1
   have d3:B 3=true:=AJ hi 3 rfl (by kernel_rfl);have d5:B 5=true:=AJ hi 5 rfl (by kernel_rfl);have hsz:=h'.HS;have hy:=y1;have lv:CJ [3,7,13,14,18,22,28] (Lo b) B (3,0):=⟨by decide,d3,by show 0<1;omega⟩;have er:=(h'.F3 d3).2 hbi;have ow:BM w3 w1.heap.size x6 []:=by have:=h'.HM.Ai.own (3,0) lv;rw[er] at this;exact this
   have hge:=ow.ge;obtain⟨⟨g0,eg⟩,-⟩:=h'.F3 d3;have Ex:=Lib.hid (h'.F5 d5);rw[Ex.out];refine AH rfl rfl (fun K hK=>?_);simp only[List.getElem_toArray,List.getElem_cons_succ,List.getElem_cons_zero];refine Cu _ _ rfl w1.heap.size x6 [] rfl ow _ rfl b.AM (h.P.keep h'.HK) (by simp) (by omega) hsz ?_;intro vz wz oz gz bz;simp only[Act.put,List.setIfInBounds_toArray,List.set_cons_zero,List.set_cons_succ];refine hK.out _ _ ?_;have ex:=Ex.out;subst ex;rw[List.nil_append] at oz;obtain⟨az,cz,ez,-⟩:=oz.rd;exact⟨AZ B 6,_,wv,nv,rv,bs,N,_,_,_,_,_,_,_,_,_,_,_,_,_,_,_,_,_,_,_,_,_,_,_,_,_,_,_,_,_,_,rfl,rfl,{ h' with F29:=(fun q=>absurd (h'.F29 q).1.2.1 (by rw[hbi];simp)),F30:=(fun q=>absurd (h'.F29 (h'.F30 q).1).1.2.1 (by rw[hbi];simp)),HM:=h'.HM.grow (by decide) rfl lv (r:=Bn b.AM vz) (by rw[er];exact gz) (by rw[er];exact bz) oz,HK:=h'.HK.grown gz (fun q hq=>by have:=hge q hq;omega),HS:=Nat.le_trans h'.HS gz.size,HB:=(gz.block w.heap.size (by omega) (fun e=>by have:=hge _ e.symm;omega)).trans h'.HB,HZ:=(fun q=>(gz.block (w.heap.size+1) (by omega) (fun e=>by have:=hge _ e.symm;omega)).trans (h'.HZ q)),F3:=(fun _=>⟨⟨g0,eg⟩,fun q=>by cases q⟩),F6:=(fun _=>⟨d3,⟨az,cz,ez⟩,rfl⟩) }⟩
  ·
   have hbi:B 7=false:=by simpa using (AF hi).2.1
   have hsz:=h'.HS;have hy:=y1;refine AH rfl rfl (fun K hK=>?_);simp only[List.getElem_toArray,List.getElem_cons_succ,List.getElem_cons_zero];go_simp;refine hK.out _ _ ?_;exact⟨AZ B 7,_,wv,nv,rv,bs,N,_,_,_,_,_,_,_,_,_,_,_,_,_,_,_,_,_,_,_,_,_,_,_,_,_,_,_,_,_,_,rfl,rfl,{ h' with HM:=h'.HM.one hbi rfl (r:=Bn [] (.slice (some ⟨w3.heap.size,0,none⟩) 0 0)) ((AC.refl w3).alloc _) (World.ownsRow_lit w3 #[] 0 hsz (by decide) rfl) (fun q hq=>Nat.le_of_eq (Option.some.inj hq)),F7:=(fun _=>⟨⟨_,rfl⟩,fun _=>rfl⟩),F10:=(fun q=>absurd (h'.F10 q).1 (by rw[hbi];simp)),HK:=h'.HK.trans ((AC.refl w3).alloc _),HS:=Nat.le_trans h'.HS ((AC.refl w3).alloc _).size,HB:=(Below.block ((AC.refl w3).alloc _) w.heap.size (by omega)).trans h'.HB,HZ:=(fun q=>(Below.block ((AC.refl w3).alloc _) (w.heap.size+1) (by omega)).trans (h'.HZ q)),F29:=(fun q=>absurd (h'.F10 ((h'.F29 q).1.2.2.1)).1 (by rw[hbi];simp)),F30:=(fun q=>absurd (h'.F10 ((h'.F29 (h'.F30 q).1).1.2.2.1)).1 (by rw[hbi];simp)) }⟩
  ·
   have hbi:B 8=false:=by simpa using (AF hi).2.1
   refine AH rfl rfl (fun K hK=>?_);simp only[List.getElem_toArray,List.getElem_cons_succ,List.getElem_cons_zero];go_simp;refine hK.out _ _ ?_;exact⟨AZ B 8,R,wv,nv,rv,bs,N,_,_,_,_,_,_,_,_,_,_,_,_,_,_,_,_,_,_,_,_,_,_,_,_,_,_,_,_,_,_,rfl,rfl,{ h' with F8:=(fun _=>rfl),HM:=h'.HM.pass (by decide) }⟩
  ·
   have hbi:B 9=false:=by simpa using (AF hi).2.1
   have d8:B 8=true:=AJ hi 8 rfl (by kernel_rfl);have dc:w3.cell? ⟨w.heap.size,2,none⟩=some (.slice aL b.AO.length cL):=by rw[cell_of_row w3 _ 2 _ _ _ h'.HB];rfl
   have Ex:=Lib.hid (h'.F8 d8);rw[Ex.out];refine AH rfl rfl (fun K hK=>?_);simp only[List.getElem_toArray,List.getElem_cons_succ,List.getElem_cons_zero];go_simp;refine hK.out _ _ ?_;have ex:=Ex.out;subst ex;exact⟨AZ B 9,R,wv,nv,rv,bs,N,_,_,_,_,_,_,_,_,_,_,_,_,_,_,_,_,_,_,_,_,_,_,_,_,_,_,_,_,_,_,rfl,rfl,{ h' with F9:=(fun _=>rfl),HM:=h'.HM.pass (by decide) }⟩
  ·
   have hbi:B 10=false:=by simpa using (AF hi).2.1
   have d7:B 7=true:=AJ hi 7 rfl (by kernel_rfl);have d9:B 9=true:=AJ hi 9 rfl (by kernel_rfl);have hsz:=h'.HS;have hy:=y1;have lv:CJ [3,7,13,14,18,22,28] (Lo b) B (7,0):=⟨by decide,d7,by show 0<1;omega⟩;have er:=(h'.F7 d7).2 hbi;have ow:BM w3 w1.heap.size x10 []:=by have:=h'.HM.Ai.own (7,0) lv;rw[er] at this;exact this
   have hge:=ow.ge;obtain⟨⟨g0,eg⟩,-⟩:=h'.F7 d7;have Ex:=Lib.hid (h'.F9 d9);rw[Ex.out];refine AH rfl rfl (fun K hK=>?_);simp only[List.getElem_toArray,List.getElem_cons_succ,List.getElem_cons_zero];refine Cu _ _ rfl w1.heap.size x10 [] rfl ow _ rfl b.AO (h.L.keep h'.HK) (by simp) (by omega) hsz ?_;intro vz wz oz gz bz;simp only[Act.put,List.setIfInBounds_toArray,List.set_cons_zero,List.set_cons_succ];refine hK.out _ _ ?_;have ex:=Ex.out;subst ex;rw[List.nil_append] at oz;obtain⟨az,cz,ez,-⟩:=oz.rd;exact⟨AZ B 10,_,wv,nv,rv,bs,N,_,_,_,_,_,_,_,_,_,_,_,_,_,_,_,_,_,_,_,_,_,_,_,_,_,_,_,_,_,_,rfl,rfl,{ h' with F29:=(fun q=>absurd (h'.F29 q).1.2.2.1 (by rw[hbi];simp)),F30:=(fun q=>absurd (h'.F29 (h'.F30 q).1).1.2.2.1 (by rw[hbi];simp)),HM:=h'.HM.grow (by decide) rfl lv (r:=Bn b.AO vz) (by rw[er];exact gz) (by rw[er];exact bz) oz,HK:=h'.HK.grown gz (fun q hq=>by have:=hge q hq;omega),HS:=Nat.le_trans h'.HS gz.size,HB:=(gz.block w.heap.size (by omega) (fun e=>by have:=hge _ e.symm;omega)).trans h'.HB,HZ:=(fun q=>(gz.block (w.heap.size+1) (by omega) (fun e=>by have:=hge _ e.symm;omega)).trans (h'.HZ q)),F7:=(fun _=>⟨⟨g0,eg⟩,fun q=>by cases q⟩),F10:=(fun _=>⟨d7,⟨az,cz,ez⟩,rfl⟩) }⟩
  ·
   have hbi:B 11=false:=by simpa using (AF hi).2.1
   refine AH rfl rfl (fun K hK=>?_);simp only[List.getElem_toArray,List.getElem_cons_succ,List.getElem_cons_zero];go_simp;refine hK.out _ _ ?_;exact⟨AZ B 11,R,wv,nv,rv,bs,N,_,_,_,_,_,_,_,_,_,_,_,_,_,_,_,_,_,_,_,_,_,_,_,_,_,_,_,_,_,_,rfl,rfl,{ h' with F11:=(fun _=>rfl),HM:=h'.HM.pass (by decide) }⟩
  ·
   have hbi:B 12=false:=by simpa using (AF hi).2.1
   have d11:B 11=true:=AJ hi 11 rfl (by kernel_rfl);have dc:w3.cell? ⟨w.heap.size,3,none⟩=some (.slice aN b.AG.length cQ):=by rw[cell_of_row w3 _ 3 _ _ _ h'.HB];rfl
   have Ex:=Lib.hid (h'.F11 d11);rw[Ex.out];refine AH rfl rfl (fun K hK=>?_);simp only[List.getElem_toArray,List.getElem_cons_succ,List.getElem_cons_zero];go_simp;refine hK.out _ _ ?_;have ex:=Ex.out;subst ex;exact⟨AZ B 12,R,wv,nv,rv,bs,N,_,_,_,_,_,_,_,_,_,_,_,_,_,_,_,_,_,_,_,_,_,_,_,_,_,_,_,_,_,_,rfl,rfl,{ h' with F12:=(fun _=>rfl),HM:=h'.HM.pass (by decide) }⟩
  ·
   have hbi:B 13=false:=by simpa using (AF hi).2.1
   have d12:B 12=true:=AJ hi 12 rfl (by kernel_rfl);have hsz:=h'.HS;have hy:=y1;have Ex:=Lib.hid (h'.F12 d12);rw[Ex.out];refine AH rfl rfl (fun K hK=>?_);simp only[List.getElem_toArray,List.getElem_cons_succ,List.getElem_cons_zero];go_simp;refine (Rl _ _ _ (h.N.keep h'.HK) (by omega) hln).mono ?_;rintro e wz ⟨vz,hs,rfl,oz,kk⟩;go_wp2_with fail
   refine hK.out _ _ ?_;have ex:=Ex.out;subst ex;obtain⟨az,cz,ez,-⟩:=Bt (oz.Ai.own none trivial);rw[oz.len] at ez;exact⟨AZ B 13,_,wv,hs,rv,bs,N,_,_,_,_,_,_,_,_,_,_,_,_,_,_,_,_,_,_,_,_,_,_,_,_,_,_,_,_,_,_,rfl,rfl,{ h' with F29:=(fun q=>absurd (h'.F29 q).1.2.2.2.1 (by rw[hbi];simp)),F30:=(fun q=>absurd (h'.F29 (h'.F30 q).1).1.2.2.2.1 (by rw[hbi];simp)),HM:=h'.HM.jM hbi rfl kk hsz oz,F13:=(fun _=>⟨⟨az,cz,ez⟩,oz.len,rfl,fun _=>rfl⟩),HK:=h'.HK.trans kk,HS:=Nat.le_trans h'.HS kk.size,HB:=(Below.block kk w.heap.size (by omega)).trans h'.HB,HZ:=(fun q=>(Below.block kk (w.heap.size+1) (by omega)).trans (h'.HZ q)) }⟩
  ·
   have hbi:B 14=false:=by simpa using (AF hi).2.1
   have hsz:=h'.HS;have hy:=y1;refine AH rfl rfl (fun K hK=>?_);simp only[List.getElem_toArray,List.getElem_cons_succ,List.getElem_cons_zero];go_simp;refine hK.out _ _ ?_;exact⟨AZ B 14,_,wv,nv,rv,bs,N,_,_,_,_,_,_,_,_,_,_,_,_,_,_,_,_,_,_,_,_,_,_,_,_,_,_,_,_,_,_,rfl,rfl,{ h' with HM:=h'.HM.one hbi rfl (r:=Bn [] (.slice (some ⟨w3.heap.size,0,none⟩) 0 0)) ((AC.refl w3).alloc _) (World.ownsRow_lit w3 #[] 0 hsz (by decide) rfl) (fun q hq=>Nat.le_of_eq (Option.some.inj hq)),F14:=(fun _=>⟨⟨_,rfl⟩,fun _=>rfl⟩),F17:=(fun q=>absurd (h'.F17 q).1 (by rw[hbi];simp)),HK:=h'.HK.trans ((AC.refl w3).alloc _),HS:=Nat.le_trans h'.HS ((AC.refl w3).alloc _).size,HB:=(Below.block ((AC.refl w3).alloc _) w.heap.size (by omega)).trans h'.HB,HZ:=(fun q=>(Below.block ((AC.refl w3).alloc _) (w.heap.size+1) (by omega)).trans (h'.HZ q)),F29:=(fun q=>absurd (h'.F17 ((h'.F29 q).1.2.2.2.2.1)).1 (by rw[hbi];simp)),F30:=(fun q=>absurd (h'.F17 ((h'.F29 (h'.F30 q).1).1.2.2.2.2.1)).1 (by rw[hbi];simp)) }⟩
  ·
   have hbi:B 15=false:=by simpa using (AF hi).2.1
   refine AH rfl rfl (fun K hK=>?_);simp only[List.getElem_toArray,List.getElem_cons_succ,List.getElem_cons_zero];go_simp;refine hK.out _ _ ?_;exact⟨AZ B 15,R,wv,nv,rv,bs,N,_,_,_,_,_,_,_,_,_,_,_,_,_,_,_,_,_,_,_,_,_,_,_,_,_,_,_,_,_,_,rfl,rfl,{ h' with F15:=(fun _=>rfl),HM:=h'.HM.pass (by decide) }⟩
  ·
   have hbi:B 16=false:=by simpa using (AF hi).2.1
   have d15:B 15=true:=AJ hi 15 rfl (by kernel_rfl);have dc:w3.cell? ⟨w.heap.size,4,none⟩=some (.slice aX b.AL.length cX):=by rw[cell_of_row w3 _ 4 _ _ _ h'.HB];rfl
   have Ex:=Lib.hid (h'.F15 d15);rw[Ex.out];refine AH rfl rfl (fun K hK=>?_);simp only[List.getElem_toArray,List.getElem_cons_succ,List.getElem_cons_zero];go_simp;refine hK.out _ _ ?_;have ex:=Ex.out;subst ex;exact⟨AZ B 16,R,wv,nv,rv,bs,N,_,_,_,_,_,_,_,_,_,_,_,_,_,_,_,_,_,_,_,_,_,_,_,_,_,_,_,_,_,_,rfl,rfl,{ h' with F16:=(fun _=>rfl),HM:=h'.HM.pass (by decide) }⟩
  ·
   have hbi:B 17=false:=by simpa using (AF hi).2.1
   have d14:B 14=true:=AJ hi 14 rfl (by kernel_rfl);have d16:B 16=true:=AJ hi 16 rfl (by kernel_rfl);have hsz:=h'.HS;have hy:=y1;have lv:CJ [3,7,13,14,18,22,28] (Lo b) B (14,0):=⟨by decide,d14,by show 0<1;omega⟩;have er:=(h'.F14 d14).2 hbi;have ow:BM w3 w1.heap.size x17 []:=by have:=h'.HM.Ai.own (14,0) lv;rw[er] at this;exact this
   have hge:=ow.ge;obtain⟨⟨g0,eg⟩,-⟩:=h'.F14 d14;have Ex:=Lib.hid (h'.F16 d16);rw[Ex.out];refine AH rfl rfl (fun K hK=>?_);simp only[List.getElem_toArray,List.getElem_cons_succ,List.getElem_cons_zero];refine Cu _ _ rfl w1.heap.size x17 [] rfl ow _ rfl b.AL (h.X.keep h'.HK) (by simp) (by omega) hsz ?_;intro vz wz oz gz bz;simp only[Act.put,List.setIfInBounds_toArray,List.set_cons_zero,List.set_cons_succ];refine hK.out _ _ ?_;have ex:=Ex.out;subst ex;rw[List.nil_append] at oz;obtain⟨az,cz,ez,-⟩:=oz.rd;exact⟨AZ B 17,_,wv,nv,rv,bs,N,_,_,_,_,_,_,_,_,_,_,_,_,_,_,_,_,_,_,_,_,_,_,_,_,_,_,_,_,_,_,rfl,rfl,{ h' with F29:=(fun q=>absurd (h'.F29 q).1.2.2.2.2.1 (by rw[hbi];simp)),F30:=(fun q=>absurd (h'.F29 (h'.F30 q).1).1.2.2.2.2.1 (by rw[hbi];simp)),HM:=h'.HM.grow (by decide) rfl lv (r:=Bn b.AL vz) (by rw[er];exact gz) (by rw[er];exact bz) oz,HK:=h'.HK.grown gz (fun q hq=>by have:=hge q hq;omega),HS:=Nat.le_trans h'.HS gz.size,HB:=(gz.block w.heap.size (by omega) (fun e=>by have:=hge _ e.symm;omega)).trans h'.HB,HZ:=(fun q=>(gz.block (w.heap.size+1) (by omega) (fun e=>by have:=hge _ e.symm;omega)).trans (h'.HZ q)),F14:=(fun _=>⟨⟨g0,eg⟩,fun q=>by cases q⟩),F17:=(fun _=>⟨d14,⟨az,cz,ez⟩,rfl⟩) }⟩
  ·
   have hbi:B 18=false:=by simpa using (AF hi).2.1
   have hsz:=h'.HS;have hy:=y1;refine AH rfl rfl (fun K hK=>?_);simp only[List.getElem_toArray,List.getElem_cons_succ,List.getElem_cons_zero];go_simp;refine hK.out _ _ ?_;exact⟨AZ B 18,_,wv,nv,rv,bs,N,_,_,_,_,_,_,_,_,_,_,_,_,_,_,_,_,_,_,_,_,_,_,_,_,_,_,_,_,_,_,rfl,rfl,{ h' with HM:=h'.HM.one hbi rfl (r:=Bn [] (.slice (some ⟨w3.heap.size,0,none⟩) 0 0)) ((AC.refl w3).alloc _) (World.ownsRow_lit w3 #[] 0 hsz (by decide) rfl) (fun q hq=>Nat.le_of_eq (Option.some.inj hq)),F18:=(fun _=>⟨⟨_,rfl⟩,fun _=>rfl⟩),F21:=(fun q=>absurd (h'.F21 q).1 (by rw[hbi];simp)),HK:=h'.HK.trans ((AC.refl w3).alloc _),HS:=Nat.le_trans h'.HS ((AC.refl w3).alloc _).size,HB:=(Below.block ((AC.refl w3).alloc _) w.heap.size (by omega)).trans h'.HB,HZ:=(fun q=>(Below.block ((AC.refl w3).alloc _) (w.heap.size+1) (by omega)).trans (h'.HZ q)),F29:=(fun q=>absurd (h'.F21 ((h'.F29 q).1.2.2.2.2.2.1)).1 (by rw[hbi];simp)),F30:=(fun q=>absurd (h'.F21 ((h'.F29 (h'.F30 q).1).1.2.2.2.2.2.1)).1 (by rw[hbi];simp)) }⟩
  ·
   have hbi:B 19=false:=by simpa using (AF hi).2.1
   refine AH rfl rfl (fun K hK=>?_);simp only[List.getElem_toArray,List.getElem_cons_succ,List.getElem_cons_zero];go_simp;refine hK.out _ _ ?_;exact⟨AZ B 19,R,wv,nv,rv,bs,N,_,_,_,_,_,_,_,_,_,_,_,_,_,_,_,_,_,_,_,_,_,_,_,_,_,_,_,_,_,_,rfl,rfl,{ h' with F19:=(fun _=>rfl),HM:=h'.HM.pass (by decide) }⟩
  ·
   have hbi:B 20=false:=by simpa using (AF hi).2.1
   have d19:B 19=true:=AJ hi 19 rfl (by kernel_rfl);have dc:w3.cell? ⟨w.heap.size,5,none⟩=some (.slice aT b.sn.length cT):=by rw[cell_of_row w3 _ 5 _ _ _ h'.HB];rfl
   have Ex:=Lib.hid (h'.F19 d19);rw[Ex.out];refine AH rfl rfl (fun K hK=>?_);simp only[List.getElem_toArray,List.getElem_cons_succ,List.getElem_cons_zero];go_simp;refine hK.out _ _ ?_;have ex:=Ex.out;subst ex;exact⟨AZ B 20,R,wv,nv,rv,bs,N,_,_,_,_,_,_,_,_,_,_,_,_,_,_,_,_,_,_,_,_,_,_,_,_,_,_,_,_,_,_,rfl,rfl,{ h' with F20:=(fun _=>rfl),HM:=h'.HM.pass (by decide) }⟩
  ·
   have hbi:B 21=false:=by simpa using (AF hi).2.1
   have d18:B 18=true:=AJ hi 18 rfl (by kernel_rfl);have d20:B 20=true:=AJ hi 20 rfl (by kernel_rfl);have hsz:=h'.HS;have hy:=y1;have lv:CJ [3,7,13,14,18,22,28] (Lo b) B (18,0):=⟨by decide,d18,by show 0<1;omega⟩;have er:=(h'.F18 d18).2 hbi;have ow:BM w3 w1.heap.size x21 []:=by have:=h'.HM.Ai.own (18,0) lv;rw[er] at this;exact this
   have hge:=ow.ge;obtain⟨⟨g0,eg⟩,-⟩:=h'.F18 d18;have Ex:=Lib.hid (h'.F20 d20);rw[Ex.out];refine AH rfl rfl (fun K hK=>?_);simp only[List.getElem_toArray,List.getElem_cons_succ,List.getElem_cons_zero];refine Cu _ _ rfl w1.heap.size x21 [] rfl ow _ rfl b.sn (h.S.keep h'.HK) (by simp) (by omega) hsz ?_;intro vz wz oz gz bz;simp only[Act.put,List.setIfInBounds_toArray,List.set_cons_zero,List.set_cons_succ];refine hK.out _ _ ?_;have ex:=Ex.out;subst ex;rw[List.nil_append] at oz;obtain⟨az,cz,ez,-⟩:=oz.rd;exact⟨AZ B 21,_,wv,nv,rv,bs,N,_,_,_,_,_,_,_,_,_,_,_,_,_,_,_,_,_,_,_,_,_,_,_,_,_,_,_,_,_,_,rfl,rfl,{ h' with F29:=(fun q=>absurd (h'.F29 q).1.2.2.2.2.2.1 (by rw[hbi];simp)),F30:=(fun q=>absurd (h'.F29 (h'.F30 q).1).1.2.2.2.2.2.1 (by rw[hbi];simp)),HM:=h'.HM.grow (by decide) rfl lv (r:=Bn b.sn vz) (by rw[er];exact gz) (by rw[er];exact bz) oz,HK:=h'.HK.grown gz (fun q hq=>by have:=hge q hq;omega),HS:=Nat.le_trans h'.HS gz.size,HB:=(gz.block w.heap.size (by omega) (fun e=>by have:=hge _ e.symm;omega)).trans h'.HB,HZ:=(fun q=>(gz.block (w.heap.size+1) (by omega) (fun e=>by have:=hge _ e.symm;omega)).trans (h'.HZ q)),F18:=(fun _=>⟨⟨g0,eg⟩,fun q=>by cases q⟩),F21:=(fun _=>⟨d18,⟨az,cz,ez⟩,rfl⟩) }⟩
  ·
   have hbi:B 22=false:=by simpa using (AF hi).2.1
   have hsz:=h'.HS;have hy:=y1;refine AH rfl rfl (fun K hK=>?_);simp only[List.getElem_toArray,List.getElem_cons_succ,List.getElem_cons_zero];go_simp;refine hK.out _ _ ?_;exact⟨AZ B 22,_,wv,nv,rv,bs,N,_,_,_,_,_,_,_,_,_,_,_,_,_,_,_,_,_,_,_,_,_,_,_,_,_,_,_,_,_,_,rfl,rfl,{ h' with HM:=h'.HM.one hbi rfl (r:=Bn [] (.slice (some ⟨w3.heap.size,0,none⟩) 0 0)) ((AC.refl w3).alloc _) (World.ownsRow_lit w3 #[] 0 hsz (by decide) rfl) (fun q hq=>Nat.le_of_eq (Option.some.inj hq)),F22:=(fun _=>⟨⟨_,rfl⟩,fun _=>rfl⟩),F25:=(fun q=>absurd (h'.F25 q).1 (by rw[hbi];simp)),HK:=h'.HK.trans ((AC.refl w3).alloc _),HS:=Nat.le_trans h'.HS ((AC.refl w3).alloc _).size,HB:=(Below.block ((AC.refl w3).alloc _) w.heap.size (by omega)).trans h'.HB,HZ:=(fun q=>(Below.block ((AC.refl w3).alloc _) (w.heap.size+1) (by omega)).trans (h'.HZ q)),F29:=(fun q=>absurd (h'.F25 ((h'.F29 q).1.2.2.2.2.2.2.1)).1 (by rw[hbi];simp)),F30:=(fun q=>absurd (h'.F25 ((h'.F29 (h'.F30 q).1).1.2.2.2.2.2.2.1)).1 (by rw[hbi];simp)) }⟩
  ·
   have hbi:B 23=false:=by simpa using (AF hi).2.1
   refine AH rfl rfl (fun K hK=>?_);simp only[List.getElem_toArray,List.getElem_cons_succ,List.getElem_cons_zero];go_simp;refine hK.out _ _ ?_;exact⟨AZ B 23,R,wv,nv,rv,bs,N,_,_,_,_,_,_,_,_,_,_,_,_,_,_,_,_,_,_,_,_,_,_,_,_,_,_,_,_,_,_,rfl,rfl,{ h' with F23:=(fun _=>rfl),HM:=h'.HM.pass (by decide) }⟩
  ·
   have hbi:B 24=false:=by simpa using (AF hi).2.1
   have d23:B 23=true:=AJ hi 23 rfl (by kernel_rfl);have dc:w3.cell? ⟨w.heap.size,6,none⟩=some (.slice aF b.fr.length cF):=by rw[cell_of_row w3 _ 6 _ _ _ h'.HB];rfl
   have Ex:=Lib.hid (h'.F23 d23);rw[Ex.out];refine AH rfl rfl (fun K hK=>?_);simp only[List.getElem_toArray,List.getElem_cons_succ,List.getElem_cons_zero];go_simp;refine hK.out _ _ ?_;have ex:=Ex.out;subst ex;exact⟨AZ B 24,R,wv,nv,rv,bs,N,_,_,_,_,_,_,_,_,_,_,_,_,_,_,_,_,_,_,_,_,_,_,_,_,_,_,_,_,_,_,rfl,rfl,{ h' with F24:=(fun _=>rfl),HM:=h'.HM.pass (by decide) }⟩
  ·
   have hbi:B 25=false:=by simpa using (AF hi).2.1
   have d22:B 22=true:=AJ hi 22 rfl (by kernel_rfl);have d24:B 24=true:=AJ hi 24 rfl (by kernel_rfl);have hsz:=h'.HS;have hy:=y1;have lv:CJ [3,7,13,14,18,22,28] (Lo b) B (22,0):=⟨by decide,d22,by show 0<1;omega⟩;have er:=(h'.F22 d22).2 hbi;have ow:BM w3 w1.heap.size x25 []:=by have:=h'.HM.Ai.own (22,0) lv;rw[er] at this;exact this
   have hge:=ow.ge;obtain⟨⟨g0,eg⟩,-⟩:=h'.F22 d22;have Ex:=Lib.hid (h'.F24 d24);rw[Ex.out];refine AH rfl rfl (fun K hK=>?_);simp only[List.getElem_toArray,List.getElem_cons_succ,List.getElem_cons_zero];refine Cu _ _ rfl w1.heap.size x25 [] rfl ow _ rfl b.fr (h.F.keep h'.HK) (by simp) (by omega) hsz ?_;intro vz wz oz gz bz;simp only[Act.put,List.setIfInBounds_toArray,List.set_cons_zero,List.set_cons_succ];refine hK.out _ _ ?_;have ex:=Ex.out;subst ex;rw[List.nil_append] at oz;obtain⟨az,cz,ez,-⟩:=oz.rd;exact⟨AZ B 25,_,wv,nv,rv,bs,N,_,_,_,_,_,_,_,_,_,_,_,_,_,_,_,_,_,_,_,_,_,_,_,_,_,_,_,_,_,_,rfl,rfl,{ h' with F29:=(fun q=>absurd (h'.F29 q).1.2.2.2.2.2.2.1 (by rw[hbi];simp)),F30:=(fun q=>absurd (h'.F29 (h'.F30 q).1).1.2.2.2.2.2.2.1 (by rw[hbi];simp)),HM:=h'.HM.grow (by decide) rfl lv (r:=Bn b.fr vz) (by rw[er];exact gz) (by rw[er];exact bz) oz,HK:=h'.HK.grown gz (fun q hq=>by have:=hge q hq;omega),HS:=Nat.le_trans h'.HS gz.size,HB:=(gz.block w.heap.size (by omega) (fun e=>by have:=hge _ e.symm;omega)).trans h'.HB,HZ:=(fun q=>(gz.block (w.heap.size+1) (by omega) (fun e=>by have:=hge _ e.symm;omega)).trans (h'.HZ q)),F22:=(fun _=>⟨⟨g0,eg⟩,fun q=>by cases q⟩),F25:=(fun _=>⟨d22,⟨az,cz,ez⟩,rfl⟩) }⟩
  ·
   have hbi:B 26=false:=by simpa using (AF hi).2.1
   refine AH rfl rfl (fun K hK=>?_);simp only[List.getElem_toArray,List.getElem_cons_succ,List.getElem_cons_zero];go_simp;refine hK.out _ _ ?_;exact⟨AZ B 26,R,wv,nv,rv,bs,N,_,_,_,_,_,_,_,_,_,_,_,_,_,_,_,_,_,_,_,_,_,_,_,_,_,_,_,_,_,_,rfl,rfl,{ h' with F26:=(fun _=>rfl),HM:=h'.HM.pass (by decide) }⟩
  ·
   have hbi:B 27=false:=by simpa using (AF hi).2.1
   have d26:B 26=true:=AJ hi 26 rfl (by kernel_rfl);have dc:w3.cell? ⟨w.heap.size,7,none⟩=some (.slice aR b.rws.length cR):=by rw[cell_of_row w3 _ 7 _ _ _ h'.HB];rfl
   have Ex:=Lib.hid (h'.F26 d26);rw[Ex.out];refine AH rfl rfl (fun K hK=>?_);simp only[List.getElem_toArray,List.getElem_cons_succ,List.getElem_cons_zero];go_simp;refine hK.out _ _ ?_;have ex:=Ex.out;subst ex;exact⟨AZ B 27,R,wv,nv,rv,bs,N,_,_,_,_,_,_,_,_,_,_,_,_,_,_,_,_,_,_,_,_,_,_,_,_,_,_,_,_,_,_,rfl,rfl,{ h' with F27:=(fun _=>rfl),HM:=h'.HM.pass (by decide) }⟩
  ·
   have hbi:B 28=false:=by simpa using (AF hi).2.1
   have d27:B 27=true:=AJ hi 27 rfl (by kernel_rfl);have hsz:=h'.HS;have hy:=y1;have Ex:=Lib.hid (h'.F27 d27);rw[Ex.out];refine AH rfl rfl (fun K hK=>?_);simp only[List.getElem_toArray,List.getElem_cons_succ,List.getElem_cons_zero];go_simp;refine (Rk _ _ _ (h.R.keep h'.HK) (by omega) hlr).mono ?_;rintro e wz ⟨vz,hs,rfl,oz,kk⟩;go_wp2_with fail
   refine hK.out _ _ ?_;have ex:=Ex.out;subst ex;obtain⟨az,cz,ez,-⟩:=Bt (oz.Ai.own none trivial);rw[oz.len] at ez;exact⟨AZ B 28,_,wv,nv,hs,bs,N,_,_,_,_,_,_,_,_,_,_,_,_,_,_,_,_,_,_,_,_,_,_,_,_,_,_,_,_,_,_,rfl,rfl,{ h' with F29:=(fun q=>absurd (h'.F29 q).1.2.2.2.2.2.2.2 (by rw[hbi];simp)),F30:=(fun q=>absurd (h'.F29 (h'.F30 q).1).1.2.2.2.2.2.2.2 (by rw[hbi];simp)),HM:=h'.HM.jM hbi rfl kk hsz oz,F28:=(fun _=>⟨⟨az,cz,ez⟩,oz.len,rfl,fun _=>rfl⟩),HK:=h'.HK.trans kk,HS:=Nat.le_trans h'.HS kk.size,HB:=(Below.block kk w.heap.size (by omega)).trans h'.HB,HZ:=(fun q=>(Below.block kk (w.heap.size+1) (by omega)).trans (h'.HZ q)) }⟩
  ·
   have hbi:B 29=false:=by simpa using (AF hi).2.1
   have d2:B 2=true:=AJ hi 2 rfl (by kernel_rfl);have d6:B 6=true:=AJ hi 6 rfl (by kernel_rfl);have d10:B 10=true:=AJ hi 10 rfl (by kernel_rfl);have d13:B 13=true:=AJ hi 13 rfl (by kernel_rfl);have d17:B 17=true:=AJ hi 17 rfl (by kernel_rfl);have d21:B 21=true:=AJ hi 21 rfl (by kernel_rfl);have d25:B 25=true:=AJ hi 25 rfl (by kernel_rfl);have d28:B 28=true:=AJ hi 28 rfl (by kernel_rfl);obtain⟨a2,c2,e2⟩:=h'.F2 d2;obtain⟨-,⟨a6,c6,e6⟩,-⟩:=h'.F6 d6;obtain⟨-,⟨a10,c10,e10⟩,-⟩:=h'.F10 d10;obtain⟨⟨a13,c13,e13⟩,-⟩:=h'.F13 d13;obtain⟨-,⟨a17,c17,e17⟩,-⟩:=h'.F17 d17;obtain⟨-,⟨a21,c21,e21⟩,-⟩:=h'.F21 d21;obtain⟨-,⟨a25,c25,e25⟩,-⟩:=h'.F25 d25;obtain⟨⟨a28,c28,e28⟩,-⟩:=h'.F28 d28;have zy:=Lib.hid (e2);rw[zy.out];have Ep6:=Lib.hid (e6);rw[Ep6.out];have pI:=Lib.hid (e10);rw[pI.out];have pK:=Lib.hid (e13);rw[pK.out];have Xu:=Lib.hid (e17);rw[Xu.out];have pO:=Lib.hid (e21);rw[pO.out];have pQ:=Lib.hid (e25);rw[pQ.out];have pR:=Lib.hid (e28);rw[pR.out];refine AH rfl rfl (fun K hK=>?_);simp only[List.getElem_toArray,List.getElem_cons_succ,List.getElem_cons_zero];clear e2 e6 e10 e13 e17 e21 e25 e28;go_simp;refine hK.out _ _ ?_;have ep2:=zy.out;subst ep2;have ep6:=Ep6.out;subst ep6;have ep10:=pI.out;subst ep10;have ep13:=pK.out;subst ep13;have ep17:=Xu.out;subst ep17;have ep21:=pO.out;subst ep21;have ep25:=pQ.out;subst ep25;have ep28:=pR.out;subst ep28;exact⟨AZ B 29,R,wv,nv,rv,bs,N,_,_,_,_,_,_,_,_,_,_,_,_,_,_,_,_,_,_,_,_,_,_,_,_,_,_,_,_,_,_,rfl,rfl,{ h' with F29:=(fun _=>⟨⟨d2,d6,d10,d13,d17,d21,d25,d28⟩,rfl⟩),F30:=(fun q=>absurd (h'.F30 q).1 (by rw[hbi];simp)),HM:=h'.HM.pass (by decide) }⟩
  ·
   have hbi:B 30=false:=by simpa using (AF hi).2.1
   have d29:B 29=true:=AJ hi 29 rfl (by kernel_rfl);have hsz:=h'.HS;have hy:=y1;obtain⟨dd,e32⟩:=h'.F29 d29;have hz0:=h'.HZ hbi;obtain⟨a2,c2,e2⟩:=h'.F2 dd.1;obtain⟨-,⟨a6,c6,e6⟩,-⟩:=h'.F6 dd.2.1;obtain⟨-,⟨a10,c10,e10⟩,-⟩:=h'.F10 dd.2.2.1;obtain⟨⟨a13,c13,e13⟩,-⟩:=h'.F13 dd.2.2.2.1;obtain⟨-,⟨a17,c17,e17⟩,-⟩:=h'.F17 dd.2.2.2.2.1;obtain⟨-,⟨a21,c21,e21⟩,-⟩:=h'.F21 dd.2.2.2.2.2.1;obtain⟨-,⟨a25,c25,e25⟩,-⟩:=h'.F25 dd.2.2.2.2.2.2.1;obtain⟨⟨a28,c28,e28⟩,-⟩:=h'.F28 dd.2.2.2.2.2.2.2;have hone:(#[x5,x9,x13,x16,x20,x24,x28,x31]:Array Value).all (·.oneCell')=true:=by rw[e2,e6,e10,e13,e17,e21,e25,e28];simp[Value.oneCell']
   clear e2 e6 e10 e13 e17 e21 e25 e28;have gg:=Af w3 (w.heap.size+1) #[x5,x9,x13,x16,x20,x24,x28,x31];have hh:=setRow_heap w3 (w.heap.size+1) _ #[x5,x9,x13,x16,x20,x24,x28,x31] _ _ hz0;have Ep:=Lib.hid (e32);rw[Ep.out];refine AH rfl rfl (fun K hK=>?_);simp only[List.getElem_toArray,List.getElem_cons_succ,List.getElem_cons_zero];clear e32;refine wp_store_row 36 _ _ rfl (w.heap.size+1) _ rfl rfl 36 _ hz0 AK rfl hone ?_;refine hK.out _ _ ?_;have ep:=Ep.out;subst ep;exact⟨AZ B 30,R,wv,nv,rv,bs,N,_,_,_,_,_,_,_,_,_,_,_,_,_,_,_,_,_,_,_,_,_,_,_,_,_,_,_,_,_,_,rfl,rfl,{ h' with HM:=h'.HM.far (by decide) gg (by omega),HK:=h'.HK.grown gg (fun q hq=>by have:=Option.some.inj hq;omega),HS:=Nat.le_trans h'.HS gg.size,HB:=(gg.block w.heap.size (by omega) (fun e=>by have:=Option.some.inj e;omega)).trans h'.HB,HZ:=(fun q=>by cases q),F30:=(fun _=>⟨d29,hh⟩) }⟩
 ·
  rintro listed a w3 ⟨B,R,wv,nv,rv,bs,N,x3,x4,x5,x6,x7,x8,x9,x10,x11,x12,x13,x14,x15,x16,x17,x18,x19,x20,x21,x22,x23,x24,x25,x26,x27,x28,x29,x30,x31,x32,rfl,rfl,h'⟩ hr;have hall:=DZ hr rfl (by kernel_rfl);have b2:B 2=true:=hall 2 (by simp);have b3:B 3=true:=hall 3 (by simp);have b6:B 6=true:=hall 6 (by simp);have b7:B 7=true:=hall 7 (by simp);have b10:B 10=true:=hall 10 (by simp);have b13:B 13=true:=hall 13 (by simp);have b14:B 14=true:=hall 14 (by simp);have b17:B 17=true:=hall 17 (by simp);have b18:B 18=true:=hall 18 (by simp);have b21:B 21=true:=hall 21 (by simp);have b22:B 22=true:=hall 22 (by simp);have b25:B 25=true:=hall 25 (by simp);have b28:B 28=true:=hall 28 (by simp);have b30:B 30=true:=hall 30 (by simp);clear hall;obtain⟨HM,HK,HS,HB,HZ,F3,F4,F5,F6,F7,F8,F9,F10,F14,F15,F16,F17,F18,F19,F20,F21,F22,F23,F24,F25,F0,F1,F2,F11,F12,F13,F26,F27,F28,F29,F30⟩:=h';clear hr;have HV:=fT (by rw[b2] at HM;exact HM) b3 b7 b13 b14 b18 b22 b28 (F6 b6).2.2 (F10 b10).2.2 (F13 b13).2.1 (F13 b13).2.2.1 (F13 b13).2.2.2 (F17 b17).2.2 (F21 b21).2.2 (F25 b25).2.2 (F28 b28).2.1 (F28 b28).2.2.1 (F28 b28).2.2.2;have HW:=((by rw[b2] at HM;exact HM):Jn w3 w1.heap.size _ R true x5 wv bs N AA).work rfl;have HR:=(F30 b30).2;clear HM HZ HB F3 F4 F5 F6 F7 F8 F9 F10 F14 F15 F16 F17 F18 F19 F20 F21 F22 F23 F24 F25 F0 F1 F2 F11 F12 F13 F26 F27 F28 F29 F30;go_wp2;refine bodyPost_ret (BU (by rfl) _ _ (w.heap.size+1) _ _ (0,0) _ rfl HR Tryz.underlying36 rfl AK) rfl ?_;exact⟨⟨x5,x9,x13,x16,x20,x24,x28,x31⟩,nv,rv,wv,bs,N,rfl,HV.Az (by omega),HW.2.1,Nat.le_trans (by omega) HW.2.2.2,HK⟩
end Go.Proofs.YtnmelakgmgenjaaGreat
