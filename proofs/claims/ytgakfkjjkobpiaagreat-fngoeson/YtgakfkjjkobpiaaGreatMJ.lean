/- Gathered texts. -/
import Derived.Test.YtgakfkjjkobpiaaGreatMI
import Derived.Deep.Cut
import Derived.Test.YtgakfkjjkobpiaaGreatME
import Derived.Outline
import Derived.Laws.AppendOwnNone
set_option maxRecDepth 100000
set_option maxHeartbeats 8000000
namespace Go.Proofs.YtgakfkjjkobpiaaGreat
open Go.ChangeShapes Go.WideShapes Go.ChangeAt Go.RowKit
open Go.RowKit
theorem Tryz.WP:(Tryz.prog.info? 51).map (fun i=>(i.zero,i.size,i.bytes))=some (some (.agg #[.int .i64 0,.int .i64 0,.int .i64 0,.int .i64 0]),4,32):=by kernel_rfl
theorem Tryz.WQ:(Tryz.prog.info? 52).map (fun i=>(i.zero,i.size,i.bytes))=some (some (.slice none 0 0),1,24):=by kernel_rfl
theorem OT (ds:List Dd):(ds.flatMap cD).length=ds.length*4:=by
 induction ds with
 |nil=>rfl
 |cons d r ih=>rw[List.flatMap_cons,List.length_append,ih,List.length_cons];simp[cD];omega
theorem Sz (ds:List Dd):∀u∈ds.flatMap cD,u.oneCell'=true:=fun u hu=>by
 obtain⟨x,_,hx⟩:=List.mem_flatMap.1 hu;simp only[cD,List.mem_cons,List.not_mem_nil,or_false] at hx;rcases hx with rfl|rfl|rfl|rfl<;>rfl
theorem NM {w:World}{b off:Nat}{ds:List Dd}(h:∀i,i<ds.length->Tj w b (off+i*4) (ds.getD i zD)):∀j u,(ds.flatMap cD)[j]? = some u->w.cell? ((⟨b,off,none⟩:Addr).add j)=some u:=fun j u hj=>by
 have hl:j<ds.length*4:=by rw[<-OT];exact (List.getElem?_eq_some_iff.1 hj).1
 have hi:j / 4<ds.length:=by omega
 have hm:j % 4<4:=Nat.mod_lt _ (by omega);have e:j=j / 4*4+j % 4:=by omega
 have h1:=Vk ds (j / 4) (j % 4) hi hm;rw[<-e] at h1;rw[h1] at hj;have ea:(⟨b,off,none⟩:Addr).add j=⟨b,off+j / 4*4+j % 4,none⟩:=by rw[show off+j / 4*4+j % 4=off+j by omega];simp[Addr.add]
 rw[ea];obtain⟨a0,a1,a2,a3⟩:=h (j / 4) hi;have:j % 4=0\/j % 4=1\/j % 4=2\/j % 4=3:=by omega
 rcases this with q|q|q|q<;>rw[q] at hj ⊢<;>simp[cD] at hj<;>subst hj
 . exact a0
 . exact a1
 . exact a2
 . exact a3
theorem MB (w:World)(v:Value)(AA:List (List Dd))(h:Ic w v AA)(hx:AA.length<=1048576)(hm:∀i,i<AA.length->(AA.getD i []).length<=1048576):
  Calls Tryz.prog 83 #[v] w fun e w'=>∃v',e = .returned v'/\OM w' w.heap.size v' AA/\AC w w':=by
 obtain⟨aD,kM,rfl,h⟩:=h;obtain⟨i0,hi,hz0,hz1,hz2⟩:=info_parts Tryz.WP;obtain⟨j0,hj,hy0,hy1,hy2⟩:=info_parts Tryz.WQ
 have hown0:Bz (w.alloc (.cells #[] 52)) w.heap.size (w.alloc (.cells #[] 52)).heap.size (.slice (some ⟨w.heap.size,0,none⟩) 0 0) (fun _=>vZ) (AA.take 0):=by
  rw[List.take_zero];exact⟨World.ownsRow_lit w #[] 0 (Nat.le_refl _) (by decide) rfl,fun k hk=>by simp[Value.ownBlock] at hk;subst hk;simp,fun i hi=>by simp at hi,fun i hi=>by simp at hi,fun i hi=>by simp at hi,fun i j _ hj=>by simp at hj⟩
 go_enter Tryz.func83,Tryz.ntmps83
 go_wp2;go_loopw [3,4] (fun v0 i wr=>∃(k:Nat) (v:Value) (V:Nat->Value),v=v0/\k<=AA.length/\i = .int .i64 k/\Bz wr w.heap.size wr.heap.size v V (AA.take k)/\AC w wr) (fun _ i _=>AA.length-(intOf i).toNat)
 case atStart=>exact⟨0,_,_,rfl,Nat.zero_le _,rfl,hown0,(AC.refl _).alloc _⟩
 case round=>
  obtain⟨k,v,V,rfl,hk,rfl,ho,hK⟩:=hrel;clear hown0;by_cases hlt:k<AA.length
  ·
   rcases h with h0|⟨b,off,rfl,hb,hc⟩
   . exfalso;rw[h0] at hlt;simp at hlt
   obtain⟨vi,d1,r1⟩:=hc k hlt;have d2:=(hK.cell hb).trans d1;have r2:=r1.keep hK;have hml:=hm k hlt
   have HT:Hid (AA.take (k+1)=AA.take k++[AA.getD k []]):=Lib.hid (by
    rw[List.take_add_one,List.getD_eq_getElem?_getD,List.getElem?_eq_getElem hlt];rfl)
   have hlen:(AA.take k).length=k:=by rw[List.length_take];omega
   generalize AA.getD k []=ds at *;obtain⟨ai,ci,rfl,r2⟩:=r2;have i1:(0:Int)<=(k:Int):=Int.natCast_nonneg _;have i2:(k:Int)<(AA.length:Int):=by omega
   have hsz:=hK.size;clear hc d1 r1;have OE:(wr.alloc (.cells #[] 51)).ownsRow wr.heap.size 51 4 (.slice (some ⟨wr.heap.size,0,none⟩) 0 0) 0 []:=World.ownsRow_lit wr #[] 0 (Nat.le_refl _) (by decide) rfl;have d3:(wr.alloc (.cells #[] 51)).cell? ⟨b,off+k,none⟩=some (.slice ai ds.length (ds.length+ci)):=(((AC.refl wr).alloc _).cell (Nat.lt_of_lt_of_le hb hsz)).trans d2;rcases r2 with h0|⟨bd,od,rfl,hbd,hcd⟩
   ·
    subst h0
    cases ai with
    |none=>
     have OD:BZ (wr.alloc (.cells #[] 51)) wr.heap.size (.slice (some ⟨wr.heap.size,0,none⟩) 0 0) []:=OE;have k5:AC wr (wr.alloc (.cells #[] 51)):=(AC.refl wr).alloc _;have HX5:=(ho.keep k5).keep ((AC.refl (wr.alloc (.cells #[] 51))).alloc (.cells #[.slice (some ⟨wr.heap.size,0,none⟩) 0 0] 52));have HR:=HX5.row;rw[hlen] at HR;have PY:=OD.keep ((AC.refl (wr.alloc (.cells #[] 51))).alloc (.cells #[.slice (some ⟨wr.heap.size,0,none⟩) 0 0] 52));have s5:=k5.size;go_wp2_with (at_builtin;refine wpList_append_own_at _ rfl _ _ 24 rfl w.heap.size 52 j0 (.slice none 0 0) 1 24 Tryz.underlying24 hj hy0 hy1 hy2 rfl (by decide) _ _ _ rfl HR ⟨_,0,none⟩ 1 1 [.slice (some ⟨wr.heap.size,0,none⟩) 0 0] rfl rfl ?e1 ?e2 ?e3 ?e4 ?e5 ?_)
     case e1=>
      intro j u hj
      match j,hj with
      | 0,hj=>simp at hj;subst hj;simp[Addr.add]
     case e2=>intro u hu;simp at hu;subst hu;rfl
     case e3=>unfold maxLen;omega
     case e4=>omega
     case e5=>simp;omega
     intro v' w7 hown7 hgrow7 _ hblk7;have HP:=HX5.push PY hsz (by rw[hlen];exact hown7) hgrow7 (by rw[AD,AD];exact hblk7) (by simp;omega);have K7:AC w w7:=((hK.trans k5).alloc _).grown hgrow7 (fun k hk=>(World.ownsRow.lt HR k hk).1);clear hown7 hgrow7 hblk7 HR HX5 PY;go_wp2;go_roundw;case rel=>exact⟨k+1,_,_,rfl,by omega,by go_num,by rw[HT.out];exact HP,K7⟩
     case measure=>simp[intOf];omega
    |some x=>
     go_wp2_with (at_builtin;refine wpList_append_own _ rfl _ _ 52 rfl wr.heap.size 51 i0 (.agg #[.int .i64 0,.int .i64 0,.int .i64 0,.int .i64 0]) 4 32 Tryz.underlying52 hi hz0 hz1 hz2 rfl (by decide) _ _ _ rfl OE x 0 ci [] rfl rfl ?c1 ?c2 ?c3 ?c4 ?c5 ?_)
     case c1=>intro j u hj;simp at hj
     case c2=>intro u hu;simp at hu
     case c3=>simp
     case c4=>simp
     case c5=>simp
     intro u w5 hown5 hgrow5 _;have OD:BZ w5 wr.heap.size u []:=by unfold BZ;simpa using hown5
     have k5:AC wr w5:=((AC.refl wr).alloc (.cells #[] 51)).grown hgrow5 (fun k hk=>(World.ownsRow.lt OE k hk).1);clear hown5 hgrow5;obtain⟨au,cu,hu⟩:∃a c,u = .slice a 0 c:=OD.shape;subst hu;have HX5:=(ho.keep k5).keep ((AC.refl w5).alloc (.cells #[.slice au 0 cu] 52));have HR:=HX5.row;rw[hlen] at HR;have PY:=OD.keep ((AC.refl w5).alloc (.cells #[.slice au 0 cu] 52));have s5:=k5.size;go_wp2_with (at_builtin;refine wpList_append_own_at _ rfl _ _ 24 rfl w.heap.size 52 j0 (.slice none 0 0) 1 24 Tryz.underlying24 hj hy0 hy1 hy2 rfl (by decide) _ _ _ rfl HR ⟨_,0,none⟩ 1 1 [.slice au 0 cu] rfl rfl ?e1 ?e2 ?e3 ?e4 ?e5 ?_)
     case e1=>
      intro j u hj
      match j,hj with
      | 0,hj=>simp at hj;subst hj;simp[Addr.add]
     case e2=>intro u hu;simp at hu;subst hu;rfl
     case e3=>unfold maxLen;omega
     case e4=>omega
     case e5=>simp;omega
     intro v' w7 hown7 hgrow7 _ hblk7;have HP:=HX5.push PY hsz (by rw[hlen];exact hown7) hgrow7 (by rw[AD];exact hblk7) (by simp;omega);have K7:AC w w7:=((hK.trans k5).alloc _).grown hgrow7 (fun k hk=>(World.ownsRow.lt HR k hk).1);clear hown7 hgrow7 hblk7 HR HX5 PY;go_wp2;go_roundw;case rel=>exact⟨k+1,_,_,rfl,by omega,by go_num,by rw[HT.out];exact HP,K7⟩
     case measure=>simp[intOf];omega
   ·
    have NC:=NM (w:=wr.alloc (.cells #[] 51)) (b:=bd) (off:=od) (ds:=ds) (fun i hi=>(hcd i hi).keep hbd ((AC.refl wr).alloc _));go_wp2_with (at_builtin;refine wpList_append_own _ rfl _ _ 52 rfl wr.heap.size 51 i0 (.agg #[.int .i64 0,.int .i64 0,.int .i64 0,.int .i64 0]) 4 32 Tryz.underlying52 hi hz0 hz1 hz2 rfl (by decide) _ _ _ rfl OE ⟨bd,od,none⟩ ds.length (ds.length+ci) (ds.flatMap cD) rfl (OT ds) ?c1 ?c2 ?c3 ?c4 ?c5 ?_)
    case c1=>exact NC
    case c2=>exact Sz ds
    case c3=>unfold maxLen;omega
    case c4=>omega
    case c5=>simp
    intro u w5 hown5 hgrow5 _;have OD:BZ w5 wr.heap.size u ds:=by unfold BZ;simpa using hown5
    have k5:AC wr w5:=((AC.refl wr).alloc (.cells #[] 51)).grown hgrow5 (fun k hk=>(World.ownsRow.lt OE k hk).1);clear hown5 hgrow5;obtain⟨au,cu,hu⟩:=OD.shape;subst hu;have HX5:=(ho.keep k5).keep ((AC.refl w5).alloc (.cells #[.slice au ds.length cu] 52));have HR:=HX5.row;rw[hlen] at HR;have PY:=OD.keep ((AC.refl w5).alloc (.cells #[.slice au ds.length cu] 52));have s5:=k5.size;go_wp2_with (at_builtin;refine wpList_append_own_at _ rfl _ _ 24 rfl w.heap.size 52 j0 (.slice none 0 0) 1 24 Tryz.underlying24 hj hy0 hy1 hy2 rfl (by decide) _ _ _ rfl HR ⟨_,0,none⟩ 1 1 [.slice au ds.length cu] rfl rfl ?e1 ?e2 ?e3 ?e4 ?e5 ?_)
    case e1=>
     intro j u hj
     match j,hj with
     | 0,hj=>simp at hj;subst hj;simp[Addr.add]
    case e2=>intro u hu;simp at hu;subst hu;rfl
    case e3=>unfold maxLen;omega
    case e4=>omega
    case e5=>simp;omega
    intro v' w7 hown7 hgrow7 _ hblk7;have HP:=HX5.push PY hsz (by rw[hlen];exact hown7) hgrow7 (by rw[AD];exact hblk7) (by simp;omega);have K7:AC w w7:=((hK.trans k5).alloc _).grown hgrow7 (fun k hk=>(World.ownsRow.lt HR k hk).1);clear hown7 hgrow7 hblk7 HR HX5 PY;go_wp2;go_roundw;case rel=>exact⟨k+1,_,_,rfl,by omega,by go_num,by rw[HT.out];exact HP,K7⟩
    case measure=>simp[intOf];omega
  ·
   obtain rfl:k=AA.length:=by omega
   rw[List.take_length] at ho;go_wp2;go_ret;exact⟨_,rfl,ho.qc,hK⟩
theorem fP {es:List Ev}{j:Nat}(h12:es.length<=12)(hj:j<es.length)(hr:Aj (es.getD j zE)=true):∃i,i<(AX Aj es).length/\(AX Aj es).getD i 0=(j:Int)/\∀q,q<i->(AX Aj es).getD q 0≠(j:Int):=by
 obtain⟨t,ht⟩:=Lx Aj es (j+1) es.length hj
 have e1:Be Aj es (j+1)=Be Aj es j++[(j:Int)]:=by
  show (if Aj (es.getD j zE)=true then Be Aj es j++[(j:Int)] else Be Aj es j)=_;rw[if_pos hr]
 have e2:AX Aj es=Be Aj es j++([(j:Int)]++t):=by
  unfold AX;rw[if_pos h12];rw[ht,e1,List.append_assoc]
 refine⟨(Be Aj es j).length,?_,?_,fun q hq=>?_⟩
 . rw[e2];simp
 . rw[e2,List.getD_eq_getElem?_getD,List.getElem?_append_right (Nat.le_refl _)];simp
 ·
  rw[e2,List.getD_eq_getElem?_getD,List.getElem?_append_left hq,List.getElem?_eq_getElem hq];have:=EI Aj es j _ (List.getElem_mem hq);show (Be Aj es j)[q]≠_;omega
theorem Yi {AA:List (List Dd)}{b:Bd}{n:Nat}(h:EF AA b n)(c k:Nat)(pl:Bool)(j:Nat)(e:Ev):EF AA (PQ (AX Aj (AB AA)) c k pl b j e) (n+1):=by
 unfold PQ;split
 ·
  split
  . exact (h.see _ _ _).mono (by omega)
  ·
   split
   . exact h.note c _
   . exact h.UK _ _ _
 . exact h.mono (by omega)
theorem S6 {AA:List (List Dd)}{b:Bd}{n:Nat}(h:EF AA b n)(c k:Nat)(pl:Bool):∀j:Nat,EF AA (Cu (AB AA) (AX Aj (AB AA)) c k pl b j) (n+j)
 | 0=>h
 |j+1=>Yi (S6 h c k pl j) c k pl j _
theorem OY (es:List Ev)(rs:List Int)(c k:Nat)(pl:Bool)(b:Bd):∀j:Nat,(Cu es rs c k pl b j).AL=b.AL
 | 0=>rfl
 |j+1=>by
  show (PQ rs c k pl (Cu es rs c k pl b j) j (es.getD j zE)).AL=b.AL;rw[<-OY es rs c k pl b j];unfold PQ;split
  ·
   split
   . rfl
   . split<;>rfl
  . rfl
theorem EF.sz {AA:List (List Dd)}{b:Bd}{n:Nat}(h:EF AA b n)(hn:n<=2000):Cg AA b:=by
 have u:=(As h.work).1;have l5:=fun i hi=>EE h.work (c:=i) hi
 have r12:=Hh Aj (AB AA);have e12:=Di AA;exact⟨by omega,fun i hi=>by have:=l5 i hi;omega,by have:=h.AM;omega,by have:=h.AQ;omega,by have:=h.AH;omega,fun i _=>by have:=h.nl i;omega,by have:=h.AL;omega,by have:=h.sn;omega,by have:=h.fr;omega,by have:=h.rws;omega,fun i _=>by have:=h.rl i;omega⟩
theorem dx {AA:List (List Dd)}(hb:AW AA=true){c:Nat}(hc:c<AA.length)(b:Bd)(hk:Av b c<(AA.getD c []).length)(h0:0<=b.AL.getD c 0)(h3:(An AA c (Av b c)).1=3->b.AH.getD c []=[]):
  { Cu (AB AA) (AX Aj (AB AA)) c (Av b c) (Dq (An AA c (Av b c))) b (AB AA).length with AL:=(Cu (AB AA) (AX Aj (AB AA)) c (Av b c) (Dq (An AA c (Av b c))) b (AB AA).length).AL.set c ((Av b c:Int)+1) }=Ar AA (AB AA) b c:=by
 rw[OY,Yj hb hc hk b h3];unfold Ar;have:(Av b c:Int)=b.AL.getD c 0:=by unfold Av;omega
 rw[this]
theorem Yl {AA:List (List Dd)}(hb:AW AA=true){c k j:Nat}(hc:c<AA.length)(hk:k<(AA.getD c []).length)(hj:j<(AB AA).length)(h:((AB AA).getD j zE).1=(c:Int)/\((AB AA).getD j zE).2.1=(k:Int)):∃p:Nat,p<3/\((AB AA).getD j zE).2.2.2.1=(p:Int):=by
 obtain⟨i,E⟩:=V4 hb hj h;obtain⟨⟨p,hp,e⟩,-⟩:=OW hb hc hk;exact⟨p,hp,by rw[E.at hb];exact e⟩
section
def BV.Sl (v:BV):Prop:=∃(aW aP aL aN aX aS aF aR:Option Addr) (nW nP nL nN nX nS nF nR cW cP cL cQ cX cS cF cR:Nat),v=⟨.slice aW nW cW,.slice aP nP cP,.slice aL nL cL,.slice aN nN cQ,.slice aX nX cX,.slice aS nS cS,.slice aF nF cF,.slice aR nR cR⟩
theorem CJ.sl {w:World}{v:BV}{AA:List (List Dd)}{b:Bd}(h:CJ w v AA b):v.Sl:=by
 obtain⟨aW,aP,aL,aN,aX,aS,aF,aR,cW,cP,cL,cN,cX,cS,cF,cR,rfl⟩:=h.shapes;exact⟨_,_,_,_,_,_,_,_,_,_,_,_,_,_,_,_,_,_,_,_,_,_,_,_,rfl⟩
def Dk (rv:List Value):BI->Prop
 | .AM=>True
 | .AQ=>True
 | .rws=>True
 | .rw p=>p<rv.length
 |_=>False
structure DQ (w:World)(m:Nat)(v:BV)(rv:List Value)(b:Bd):Prop where
 Al:Fj w m (Dk rv) (Ax 0 v [] rv b)
 lr:rv.length=b.rws.length
def E4 (v:BV)(rv:List Value)(g:Nat):Prop:=∃i,Dk rv i/\(vB 0 v [] rv i).ownBlock=some g
section
variable {w w':World} {m:Nat} {v:BV} {rv:List Value} {b:Bd}
theorem DQ.keep (h:DQ w m v rv b)(k:AC w w'):DQ w' m v rv b:=⟨h.Al.keep k,h.lr⟩
theorem DQ.blk (h:DQ w m v rv b):∀g,E4 v rv g->m<=g/\g<w.heap.size:=fun g ⟨i,hi,e⟩=>by
 rw[<-It 0 v [] rv b i] at e;exact h.Al.lt hi g e
theorem DQ.oP (h:DQ w m v rv b):A8 w m v.P b.AM:=h.Al.own .AM trivial
theorem DQ.oL (h:DQ w m v rv b):A8 w m v.L b.AQ:=h.Al.own .AQ trivial
theorem DQ.oR (h:DQ w m v rv b){p:Nat}(hp:p<b.rws.length):A8 w m (rv.getD p AE) (b.rws.getD p []):=h.Al.own (.rw p) (by show p<rv.length;rw[h.lr];exact hp)
theorem DQ.hR (h:DQ w m v rv b):∃a cap,v.R = .slice a b.rws.length cap/\(b.rws=[]\/∃g,a=some ⟨g,0,none⟩/\g<w.heap.size/\∀i,i<b.rws.length->w.cell? ⟨g,i,none⟩=some (rv.getD i AE)):=by
 obtain⟨a,cap,e,h1⟩:=Bn (h.Al.own .rws trivial);rw[h.lr] at e;refine⟨a,cap,e,?_⟩;rcases h1 with h1|⟨g,e1,e2,e3⟩
 ·
  left;have:=h.lr;rw[h1] at this;exact List.eq_nil_of_length_eq_zero this.symm
 . exact .inr ⟨g,e1,e2,fun i hi=>e3 i (by rw[h.lr];exact hi)⟩
theorem DQ.Ox (h:DQ w m v rv b){g cap k:Nat}{x:Int}(hv:v.P = .slice (some ⟨g,0,none⟩) b.AM.length cap):DQ (w.setCell ⟨g,k,none⟩ (.int .i64 x)) m v rv { b with AM:=b.AM.set k x }:=by
 obtain⟨h1,h2,_⟩:=DR (k:=k) (x:=x) (h.Al.own .AM trivial) hv;refine⟨(h.Al.set (i:= .AM) trivial (r:=Bp (b.AM.set k x) v.P) h2 (.inl rfl) h1).congr (fun _ hi=>hi) (fun j _=>by cases j<;>rfl),h.lr⟩
theorem DQ.ZM (h:DQ w m v rv b){g cap k:Nat}{x:Int}(hv:v.L = .slice (some ⟨g,0,none⟩) b.AQ.length cap):DQ (w.setCell ⟨g,k,none⟩ (.int .i64 x)) m v rv { b with AQ:=b.AQ.set k x }:=by
 obtain⟨h1,h2,_⟩:=DR (k:=k) (x:=x) (h.Al.own .AQ trivial) hv;refine⟨(h.Al.set (i:= .AQ) trivial (r:=Bp (b.AQ.set k x) v.L) h2 (.inl rfl) h1).congr (fun _ hi=>hi) (fun j _=>by cases j<;>rfl),h.lr⟩
theorem DQ.Nd (h:DQ w m v rv b){p:Nat}(hp:p<b.rws.length){u:Value}{zs:List Int}(hg:w.grownBy w' (rv.getD p AE).ownBlock)
  (hb:u.ownBlock=(rv.getD p AE).ownBlock\/u.ownBlock=some w.heap.size\/u.ownBlock=none) (ho:A8 w' m u zs) {g cap:Nat} (hv:v.R = .slice (some ⟨g,0,none⟩) b.rws.length cap):
  DQ (w'.setCell ⟨g,p,none⟩ u) m v (rv.set p u) { b with rws:=b.rws.set p zs }/\w'.cell? ⟨g,p,none⟩=some (rv.getD p AE)/\w'.frozen? ⟨g,p,none⟩=false:=by
 have hp':p<rv.length:=by rw[h.lr];exact hp
 have hv':v.R = .slice (some ⟨g,0,none⟩) rv.length cap:=by rw[h.lr];exact hv
 have F1:=h.Al.set (i:= .rw p) hp' (r:=Bp zs u) hg hb ho;have o1:(EH 26 rv v.R).own w' m:=by have:=F1.own .rws trivial;rw[AU _ _ (by simp)] at this;exact this
 obtain⟨q1,q2,q3⟩:=Rw.put o1 (g:=g) (cap:=cap) (k:=p) hv' u;have F2:=F1.set (i:= .rws) trivial (r:={ EH 26 rv v.R with xs:=rv.set p u }) (by rw[AU _ _ (by simp)];exact q2) (.inl (by rw[AU _ _ (by simp)];rfl)) q1;refine⟨⟨F2.congr (fun j=>by cases j<;>simp[Dk]) (fun j _=>?_),by simpa using h.lr⟩,?_,q3⟩
 ·
  cases j with
  |rws=>
   rw[Am];simp[Ax,EH]
  |rw q=>
   rw[AU _ _ (by simp)];show Bp ((b.rws.set p zs).getD q []) ((rv.set p u).getD q AE)=_;rw[Ah _ _ _ _ hp,Ah _ _ _ _ hp'];by_cases e:q=p
   . subst e;rw[Am];simp
   . rw[AU _ _ (by simpa using e),if_neg e,if_neg e];rfl
  |_=>rw[AU _ _ (by simp),AU _ _ (by simp)];rfl
 ·
  have:=Rw.cell o1 (g:=g) (cap:=cap) (k:=p) hv' (by show p<rv.length*1;omega);rw[this,List.getD_eq_getElem?_getD];show rv[p]? = _;rw[List.getElem?_eq_getElem hp'];rfl
theorem Tt {p:Nat}{u:Value}{g:Nat}(hp:p<rv.length)(hg:E4 v (rv.set p u) g):E4 v rv g\/u.ownBlock=some g:=by
 obtain⟨i,hi,e⟩:=hg
 cases i with
 |rw q=>
  have hq:q<rv.length:=by simpa [Dk] using hi
  have e:((rv.set p u).getD q AE).ownBlock=some g:=e;by_cases eq:q=p
  ·
   subst eq;rw[Ah _ _ _ _ hq,if_pos rfl] at e;exact .inr e
  ·
   rw[Ah _ _ _ _ hp,if_neg eq] at e;exact .inl ⟨.rw q,hq,e⟩
 |AM=>exact .inl ⟨.AM,trivial,e⟩
 |AQ=>exact .inl ⟨.AQ,trivial,e⟩
 |rws=>exact .inl ⟨.rws,trivial,e⟩
 |_=>exact absurd hi (by simp[Dk])
end
end
section
theorem Hp {w w':World}{m:Nat}{r:Rw}(h:r.own w m)(hb:∀g,r.v.ownBlock=some g->w'.heap[g]? = w.heap[g]?):r.own w' m:=by
 unfold Rw.own at h ⊢;refine⟨h.1,?_⟩;rcases h.2 with q|⟨g,cap,cur,e,hm,hg,rest⟩
 . exact .inl q
 . exact .inr ⟨g,cap,cur,e,hm,(hb g (by rw[e];rfl)).trans hg,rest⟩
theorem G3.same {w w':World}{base N:Nat}{v:Value}{AA:List (List Dd)}(h:G3 w base N v AA)(hs:w.heap.size<=w'.heap.size)(hh:∀g,base<=g->g<N->w'.heap[g]? = w.heap[g]?):G3 w' base N v AA:=by
 obtain⟨a,cap,hv,h⟩:=h;refine⟨a,cap,hv,?_⟩;rcases h with h|⟨b,off,ha,h1,h2,h3,h4⟩
 . exact .inl h
 ·
  refine .inr ⟨b,off,ha,h1,h2,Nat.lt_of_lt_of_le h3 hs,fun i hi=>?_⟩;obtain⟨vi,e1,e2,e3⟩:=h4 i hi;refine⟨vi,(World.cell?_of_block (a:=⟨b,off+i,none⟩) (hh b h1 h2)).trans e1,?_,e3⟩;exact Hp (r:=RE (AA.getD i []) vi) e2 (fun g hg=>hh g (World.ownsRow.lt e2 g hg).1 (e3 g hg))
theorem Db.same {w w':World}{bs N:Nat}{v:Value}{wv:List Value}{AA:List (List Dd)}(h:Db w bs N v wv AA)(hh:∀g,bs<=g->g<N->w'.heap[g]? = w.heap[g]?):Db w' bs N v wv AA:=
 ⟨⟨⟨fun o ho=>Hp (h.ll.Al.own o ho) (fun g hg=>hh g (h.ll.Al.lt ho g hg).1 (h.lt o ho g hg)),h.ll.Al.apart⟩,h.ll.len⟩,h.lt⟩
theorem Fj.part {ι:Type}{w w':World}{m:Nat}{live live':ι->Prop}{R R':ι->Rw}(S:ι->Prop)(h:Fj w m live R)(hS:Fj w' m (fun i=>live' i/\S i) R')(hl:∀i,¬S i->live' i->live i)(hR:∀i,¬S i->live' i->R' i=R i){F F':Nat->Prop}(t:Ak w w' F F')
  (hF:∀i,live i->¬S i->∀g,(R i).v.ownBlock=some g->¬F g) (hF':∀i,live' i->S i->∀g,(R' i).v.ownBlock=some g->F' g):Fj w' m live' R':=by
 have far:∀i j,live' i->¬S i->live' j->S j->(R' i).v.ownBlock=none\/(R' i).v.ownBlock≠(R' j).v.ownBlock:=fun i j hi hni hj hsj=>by
  cases e:(R' i).v.ownBlock with
  |none=>exact .inl rfl
  |some g=>
   refine .inr (fun q=>?_);rw[hR i hni hi] at e;have h1:=hF i (hl i hni hi) hni g e;have h2:=(h.lt (hl i hni hi) g e).2;rcases t.news g (hF' j hj hsj g q.symm) with h3|h3
   . exact h1 h3
   . omega
 refine⟨fun i hi=>?_,fun i j hi hj hij=>?_⟩
 ·
  by_cases s:S i
  . exact hS.own i ⟨hi,s⟩
  ·
   rw[hR i s hi];exact Hp (h.own i (hl i s hi)) (fun g hg=>t.block g (h.lt (hl i s hi) g hg).2 (hF i (hl i s hi) s g hg))
 ·
  by_cases s:S i
  ·
   by_cases r:S j
   . exact hS.apart i j ⟨hi,s⟩ ⟨hj,r⟩ hij
   ·
    rcases far j i hj r hi s with q|q
    ·
     rw[q]
     cases (R' i).v.ownBlock with
     |none=>exact .inl rfl
     |some g=>exact .inr (by simp)
    . exact .inr (fun e=>q e.symm)
  ·
   by_cases r:S j
   . exact far i j hi s hj r
   . rw[hR i s hi,hR j r hj];exact h.apart i j (hl i s hi) (hl j r hj) hij
def RF:BI->Prop
 | .AM=>True
 | .AQ=>True
 | .rws=>True
 | .rw _=>True
 |_=>False
def DY (v:BV)(nv rv:List Value)(g:Nat):Prop:=∃i,BN nv rv i/\i≠.bd/\(vB 0 v nv rv i).ownBlock=some g
theorem Sp {D:Nat}{v:BV}{nv rv:List Value}{g:Nat}(h:BG D v nv rv g):DY v nv rv g\/g=D:=by
 obtain⟨i,hi,e⟩:=h
 cases i with
 |bd=>exact .inr (Option.some.inj e).symm
 |AM=>exact .inl ⟨.AM,trivial,by simp,e⟩
 |AQ=>exact .inl ⟨.AQ,trivial,by simp,e⟩
 |AH=>exact .inl ⟨.AH,trivial,by simp,e⟩
 |AL=>exact .inl ⟨.AL,trivial,by simp,e⟩
 |sn=>exact .inl ⟨.sn,trivial,by simp,e⟩
 |fr=>exact .inl ⟨.fr,trivial,by simp,e⟩
 |rws=>exact .inl ⟨.rws,trivial,by simp,e⟩
 |nt c=>exact .inl ⟨.nt c,hi,by simp,e⟩
 |rw p=>exact .inl ⟨.rw p,hi,by simp,e⟩
theorem Vc {D:Nat}{v:BV}{nv rv:List Value}{g:Nat}(h:DY v nv rv g):BG D v nv rv g:=by
 obtain⟨i,hi,hb,e⟩:=h;refine⟨i,hi,?_⟩;cases i<;>first|exact e|exact absurd rfl hb
theorem OP {D:Nat}{v:BV}{nv rv:List Value}{g:Nat}(h:E4 v rv g):BG D v nv rv g:=by
 obtain⟨i,hi,e⟩:=h
 cases i with
 |AM=>exact⟨.AM,trivial,e⟩
 |AQ=>exact⟨.AQ,trivial,e⟩
 |rws=>exact⟨.rws,trivial,e⟩
 |rw p=>exact⟨.rw p,hi,e⟩
 |_=>exact absurd hi (by simp[Dk])
section
variable {w w':World} {m D:Nat} {v:BV} {nv rv rv' wv:List Value} {bs N:Nat} {AA:List (List Dd)} {b b':Bd}
theorem BA.blk (h:BA w m v nv rv bs N AA b):∀g,DY v nv rv g->m<=g/\g<w.heap.size/\(g<bs\/N<=g):=fun g ⟨i,hi,hb,e⟩=>by
 rw[<-It 0 v nv rv b i] at e;exact⟨(h.Al.lt ⟨hi,hb⟩ g e).1,(h.Al.lt ⟨hi,hb⟩ g e).2,h.out i hi hb g e⟩
theorem Db.turn (h:Db w bs N v.W wv AA)(o:BA w m v nv rv bs N AA b){F':Nat->Prop}(t:Ak w w' (DY v nv rv) F'):Db w' bs N v.W wv AA:=
 h.same (fun g h1 h2=>t.block g (Nat.lt_of_lt_of_le h2 o.top) (fun q=>by have:=(o.blk g q).2.2;omega))
theorem Yn (v:BV)(nv rv:List Value)(b:Bd){i:BI}(h:RF i):Ax 0 v [] rv b i=Ax D v nv rv b i:=by
 cases i<;>first|rfl|exact absurd h (by simp[RF])
theorem AR.UK (h:AR w m D v nv rv bs N AA b):DQ w m v rv b:=by
 refine⟨h.Al.congr (fun i hi=>?_) (fun i hi=>?_),h.lr⟩
 . cases i<;>first|trivial|exact hi|exact absurd hi (by simp[Dk])
 . cases i<;>first|rfl|exact absurd hi (by simp[Dk])
theorem AR.turn (h:AR w m D v nv rv bs N AA b)(o:DQ w' m v rv' b')(t:Ak w w' (E4 v rv) (E4 v rv'))(e1:b'.AH=b.AH)(e2:b'.AL=b.AL)(e3:b'.sn=b.sn)(e4:b'.fr=b.fr):
  AR w' m D v nv rv' bs N AA b'/\Ak w w' (BG D v nv rv) (BG D v nv rv'):=by
 have lI:∀i,BN nv rv' i/\RF i->Dk rv' i:=fun i ⟨h1,h2⟩=>by cases i<;>first|trivial|exact h1|exact absurd h2 (by simp[RF])
 have nI:∀i,BN nv rv i->¬RF i->∀g,(Ax D v nv rv b i).v.ownBlock=some g->¬E4 v rv g:=fun i hi hs g hg hB=>by
  obtain⟨j,hj,e⟩:=hB;have hij:i≠j:=fun q=>hs (by subst q;cases i<;>first|trivial|exact absurd hj (by simp[Dk]))
  have lj:BN nv rv j:=by cases j<;>first|trivial|exact hj|exact absurd hj (by simp[Dk])
  have ej:(Ax D v nv rv b j).v.ownBlock=some g:=by
   rw[It];cases j<;>first|exact e|exact absurd hj (by simp[Dk])
  rcases h.Al.apart i j hi lj hij with q|q
  . rw[hg] at q;cases q
  . exact q (hg.trans ej.symm)
 have F:=h.Al.part (w':=w') (live':=BN nv rv') (R':=Ax D v nv rv' b') RF (o.Al.congr lI (fun i hi=>(Yn (D:=D) v nv rv' b' hi.2).symm)) (fun i hs hi=>by cases i<;>first|trivial|exact hi|exact absurd trivial hs)
  (fun i hs _=>by cases i<;>first|exact absurd trivial hs|(simp only[Ax,e1,e2,e3,e4])) t nI (fun i hi hs g hg=>⟨i,lI i ⟨hi,hs⟩,by
   rw[It] at hg
   cases i<;>first|exact hg|exact absurd hs (by simp[RF])⟩)
 have nB:∀g,BG D v nv rv' g->BG D v nv rv g\/w.heap.size<=g:=fun g ⟨i,hi,e⟩=>by
  by_cases s:RF i
  ·
   rcases t.news g ⟨i,lI i ⟨hi,s⟩,by cases i<;>first|exact e|exact absurd s (by simp[RF])⟩ with q|q
   . exact .inl (OP q)
   . exact .inr q
  . exact .inl ⟨i,by cases i<;>first|trivial|exact hi|exact absurd trivial s,by cases i<;>first|exact e|exact absurd trivial s⟩
 refine⟨⟨F,by rw[e1];exact h.ln,o.lr,h.work.same t.size (fun g h1 h2=>t.block g (Nat.lt_of_lt_of_le h2 h.top) (fun q=>by have:=(h.blk g (OP q)).2.2;omega)),Nat.le_trans h.top t.size,fun i hi k hk=>?_⟩,⟨t.os,t.tape,t.output,t.size,fun g hg hn=>t.block g hg (fun q=>hn (OP q)),nB⟩⟩;rw[It] at hk;rcases nB k ⟨i,hi,hk⟩ with q|q
 . exact (h.blk k q).2.2
 . right;exact Nat.le_trans h.top q
end
end
theorem Ov {AA:List (List Dd)}{es:List Ev}{b:Bd}{c:Nat}(hc:c<b.AL.length)(h0:0<=b.AL.getD c 0):(Ar AA es b c).AL.getD c 0=b.AL.getD c 0+1/\Av (Ar AA es b c) c=Av b c+1:=by
 have e:(Ar AA es b c).AL.getD c 0=b.AL.getD c 0+1:=by
  show (b.AL.set c (b.AL.getD c 0+1)).getD c 0=_;rw[List.getD_eq_getElem?_getD,List.getElem?_set];simp[hc]
 refine⟨e,?_⟩;unfold Av;rw[e];omega
structure WK (AA:List (List Dd))(c:Nat)(g:Int)(T:Bd)(b:Bd)(n:Nat):Prop where
 Xx:EF AA b n
 le:Av b c<=(AA.getD c []).length
 z:0<=b.AL.getD c 0
 nt:n+((AA.getD c []).length-Av b c)<=1000
 go:∃m,(AA.getD c []).length<=Av b c+m/\T=if Av b c<(AA.getD c []).length/\GQ (AA.getD c []) (Av b c)=true then GC AA (AB AA) g c m b else b
 gg:Av b c<(AA.getD c []).length->GQ (AA.getD c []) (Av b c)=true->Bi AA c (Av b c)=g/\g≠0
theorem WK.step {AA:List (List Dd)}{c:Nat}{g:Int}{T b:Bd}{n:Nat}(h:WK AA c g T b n)(hc:c<AA.length)(hl:Av b c<(AA.getD c []).length)(hg:GQ (AA.getD c []) (Av b c)=true):WK AA c g T (Ar AA (AB AA) b c) (n+1):=by
 obtain⟨g1,g2⟩:=h.gg hl hg;obtain⟨e1,e2⟩:=Ov (AA:=AA) (es:=AB AA) (by rw[h.Xx.AL];exact hc) h.z;obtain⟨m,m1,m2⟩:=h.go;rw[if_pos ⟨hl,hg⟩] at m2;have hz:=h.z;have hnt:=h.nt;refine⟨h.Xx.one c,by rw[e2];omega,by rw[e1];omega,by rw[e2];omega,?_,fun q1 q2=>?_⟩
 ·
  obtain⟨m',rfl⟩:∃m',m=m'+1:=⟨m-1,by omega⟩;refine⟨m',by rw[e2];omega,?_⟩;rw[m2,P7 (by rw[e2];omega) e2 g1]
 ·
  have q3:=q2;unfold GQ at q3;rw[e2] at q3;simp only[Bool.and_eq_true,bne_iff_ne,ne_eq,beq_iff_eq,decide_eq_true_eq] at q3;refine⟨?_,g2⟩;rw[e2,<-g1];exact q3.2
theorem WK.start {AA:List (List Dd)}{c:Nat}{b:Bd}{n:Nat}(S:EF AA b n)(hn:n<=900)(hc:c<AA.length)(h0:0<=b.AL.getD c 0)(hl:Av b c<(AA.getD c []).length)(c10:c<10):WK AA c (Bi AA c (Av b c)) (Aq AA (AB AA) b (c:Int)) (Ar AA (AB AA) b c) (n+1):=by
 obtain⟨e1,e2⟩:=Ov (AA:=AA) (es:=AB AA) (by rw[S.AL];exact hc) h0;have h5:=EE S.work hc;obtain⟨m',hm'⟩:∃m',(AA.getD c []).length=m'+1:=⟨(AA.getD c []).length-1,by omega⟩;refine⟨S.one c,by rw[e2];omega,by rw[e1];omega,by rw[e2];omega,⟨m',by rw[e2];omega,?_⟩,fun q1 q2=>?_⟩
 ·
  unfold Aq;rw[if_neg (by omega)];simp only[Int.toNat_natCast];rw[show GC AA (AB AA) (Bi AA c (Av b c)) c (AA.getD c []).length b=GC AA (AB AA) (Bi AA c (Av b c)) c (m'+1) b by rw[hm'],P7 (by rw[e2];omega) e2 rfl]
 ·
  unfold GQ at q2;rw[e2] at q2;simp only[Bool.and_eq_true,bne_iff_ne,ne_eq,beq_iff_eq,decide_eq_true_eq] at q2;have a1:Bi AA c (Av b c+1)=Bi AA c (Av b c):=q2.2;have a2:Bi AA c (Av b c+1)≠0:=q2.1.2;exact⟨by rw[e2];exact a1,fun q=>a2 (a1.trans q)⟩
section
def Jr (v:BV)(nv hv rv wv:List Value)(AA:List (List Dd))(b:Bd):BJ->Rw
 | .b .AH=>EH 42 hv v.N
 |j=>IV v nv rv wv AA b j
theorem Rp (v:BV)(nv hv rv wv:List Value)(AA:List (List Dd))(b:Bd){j:BJ}(h:j≠.b .AH):Jr v nv hv rv wv AA b j=IV v nv rv wv AA b j:=by
 cases j with
 |b i=>cases i<;>first|rfl|exact absurd rfl h
 |wk=>rfl
 |wd c=>rfl
theorem Js (v:BV)(nv hv rv wv:List Value)(AA:List (List Dd))(b:Bd)(j:BJ):(Jr v nv hv rv wv AA b j).v=(IV v nv rv wv AA b j).v:=by
 cases j with
 |b i=>cases i<;>rfl
 |wk=>rfl
 |wd c=>rfl
structure LB (w:World)(m:Nat)(v:BV)(nv hv rv wv:List Value)(AA:List (List Dd))(b:Bd):Prop where
 Al:Fj w m (Eg nv rv wv) (Jr v nv hv rv wv AA b)
 ln:nv.length=b.AH.length
 lh:hv.length=nv.length
 lr:rv.length=b.rws.length
 lw:wv.length=AA.length
def UL:BJ->Prop
 | .b i=>RF i
 |_=>False
section
variable {w w':World} {m:Nat} {v:BV} {nv hv rv rv' wv:List Value} {AA:List (List Dd)} {b b':Bd}
theorem Ek.cut (h:Ek w m v nv rv wv AA b){g cap c:Nat}(hv':v.N = .slice (some ⟨g,0,none⟩) nv.length cap)(u:Value):LB (w.setCell ⟨g,c,none⟩ u) m v nv (nv.set c u) rv wv AA b:=by
 have o:=h.Al.own (.b .AH) ⟨trivial,by simp⟩;obtain⟨q1,q2,q3⟩:=Rw.put (r:=EH 42 nv v.N) o (g:=g) (cap:=cap) (k:=c) hv' u;have F:=h.Al.set (i:= .b .AH) ⟨trivial,by simp⟩ (r:={ EH 42 nv v.N with xs:=nv.set c u }) q2 (.inl rfl) q1;refine⟨F.congr (fun _ hi=>hi) (fun j _=>?_),h.ln,by simp,h.lr,h.lw⟩;by_cases e:j = .b .AH
 ·
  subst e;rw[Am];show EH _ (nv.set c u) v.N=_;simp[EH]
 . rw[AU _ _ e,Rp _ _ _ _ _ _ _ e]
theorem LB.keep (h:LB w m v nv hv rv wv AA b)(k:AC w w'):LB w' m v nv hv rv wv AA b:=⟨h.Al.keep k,h.ln,h.lh,h.lr,h.lw⟩
theorem Kq {i:BI}(hi:Dk rv i):Eg nv rv wv (.b i):=by
 cases i with
 |AM=>exact⟨trivial,by simp⟩
 |AQ=>exact⟨trivial,by simp⟩
 |rws=>exact⟨trivial,by simp⟩
 |rw p=>exact⟨hi,by simp⟩
 |bd=>exact hi.elim
 |AH=>exact hi.elim
 |AL=>exact hi.elim
 |sn=>exact hi.elim
 |fr=>exact hi.elim
 |nt c=>exact hi.elim
theorem LB.UK (h:LB w m v nv hv rv wv AA b):DQ w m v rv b:=by
 refine⟨⟨fun i hi=>?_,fun i j hi hj hij=>?_⟩,h.lr⟩
 ·
  have:=h.Al.own (.b i) (Kq hi);cases i<;>first|exact this|exact absurd hi (by simp[Dk])
 ·
  have:=h.Al.apart (.b i) (.b j) (Kq hi) (Kq hj) (fun e=>hij (by injection e));rw[Js,Js] at this;have ei:(Ax 0 v [] rv b i).v=(IV v nv rv wv AA b (.b i)).v:=by cases i<;>first|rfl|exact absurd hi (by simp[Dk])
  have ej:(Ax 0 v [] rv b j).v=(IV v nv rv wv AA b (.b j)).v:=by cases j<;>first|rfl|exact absurd hj (by simp[Dk])
  rw[ei,ej];exact this
theorem LB.turn (h:LB w m v nv hv rv wv AA b)(o:DQ w' m v rv' b')(t:Ak w w' (E4 v rv) (E4 v rv'))(e1:b'.AH=b.AH)(e2:b'.AL=b.AL)(e3:b'.sn=b.sn)(e4:b'.fr=b.fr):LB w' m v nv hv rv' wv AA b':=by
 have lI:∀i,BN nv rv' i->RF i->Dk rv' i:=fun i h1 h2=>by cases i<;>first|trivial|exact h1|exact absurd h2 (by simp[RF])
 refine⟨h.Al.part (w':=w') (live':=Eg nv rv' wv) (R':=Jr v nv hv rv' wv AA b') UL ⟨fun j hj=>?_,fun j l hj hl hjl=>?_⟩ (fun j hs hj=>?_) (fun j hs _=>?_) t (fun j hj hs g hg hB=>?_) (fun j hj hs g hg=>?_),by rw[e1];exact h.ln,h.lh,o.lr,h.lw⟩
 ·
  obtain⟨hj,hs⟩:=hj
  cases j with
  |b i=>
   have:=o.Al.own i (lI i hj.1 hs);cases i<;>first|exact this|exact absurd hs (by simp[UL,RF])
  |wk=>exact absurd hs (by simp[UL])
  |wd c=>exact absurd hs (by simp[UL])
 ·
  obtain⟨hj,hs⟩:=hj;obtain⟨hl,hr⟩:=hl
  cases j with
  |b i=>
   cases l with
   |b k=>
    have:=o.Al.apart i k (lI i hj.1 hs) (lI k hl.1 hr) (fun e=>hjl (by rw[e]));rw[Js,Js];have ei:(Ax 0 v [] rv' b' i).v=(IV v nv rv' wv AA b' (.b i)).v:=by cases i<;>first|rfl|exact absurd hs (by simp[UL,RF])
    have ej:(Ax 0 v [] rv' b' k).v=(IV v nv rv' wv AA b' (.b k)).v:=by cases k<;>first|rfl|exact absurd hr (by simp[UL,RF])
    rw[<-ei,<-ej];exact this
   |wk=>exact absurd hr (by simp[UL])
   |wd c=>exact absurd hr (by simp[UL])
  |wk=>exact absurd hs (by simp[UL])
  |wd c=>exact absurd hs (by simp[UL])
 ·
  cases j with
  |b i=>cases i<;>first|exact (hs trivial).elim|exact hj
  |wk=>trivial
  |wd c=>exact hj
 ·
  cases j with
  |b i=>cases i<;>first|exact (hs trivial).elim|rfl|(simp only[Jr,IV,Ax,e1,e2,e3,e4])
  |wk=>rfl
  |wd c=>rfl
 ·
  obtain⟨i,hi,e⟩:=hB;have li:Eg nv rv wv (.b i):=Kq hi
  have ei:(Jr v nv hv rv wv AA b (.b i)).v.ownBlock=some g:=by
   rw[Js];cases i<;>first|exact e|exact absurd hi (by simp[Dk])
  have hne:j≠.b i:=fun q=>hs (by subst q;cases i<;>first|trivial|exact absurd hi (by simp[Dk]))
  rcases h.Al.apart j (.b i) hj li hne with q|q
  . rw[hg] at q;cases q
  . exact q (hg.trans ei.symm)
 ·
  cases j with
  |b i=>
   refine⟨i,lI i hj.1 hs,?_⟩;rw[Js] at hg;cases i<;>first|exact hg|exact absurd hs (by simp[UL,RF])
  |wk=>exact absurd hs (by simp[UL])
  |wd c=>exact absurd hs (by simp[UL])
theorem LB.free {c gq cq:Nat}{u:Value}{x:Nt}{r:List Nt}(h:LB w m v nv (nv.set c u) rv wv AA b)(hc:c<nv.length)(hz:b.AH.getD c []=x::r)(hq:nv.getD c AE = .slice (some ⟨gq,0,none⟩) (r.length+1) cq)
  (hu:(cq=1/\u = .slice (some ⟨gq,0,none⟩) r.length 0)\/u = .slice (some ⟨gq,3,none⟩) r.length (cq-1)):Ct w m w.heap.size v AA { b with AH:=b.AH.set c r }:=by
 have hcb:c<b.AH.length:=by rw[<-h.ln];exact hc
 have oq:=h.Al.own (.b (.nt c)) ⟨hc,by simp⟩
 have uT:BW cN 44 3 w m (.slice (some ⟨gq,0,none⟩) (x::r).length cq) (x::r):=by
  have q:BW cN 44 3 w m (nv.getD c AE) (b.AH.getD c []):=oq;rw[hz,hq] at q;exact q
 have hcq:r.length+1<=cq:=by
  rcases uT.2 with ⟨q,_⟩|⟨g,cap,cur,e,_,_,hcap,_⟩
  . simp at q
  ·
   simp only[Value.slice.injEq,true_and] at e;rw[e.2];simpa using hcap
 have lq:gq<w.heap.size:=(World.ownsRow.lt uT gq rfl).2;have tH:(nv.set c u).getD c AE=u:=by rw[Ah _ _ _ _ hc,if_pos rfl]
 have tJ:∀i,i≠c->(nv.set c u).getD i AE=nv.getD i AE:=fun i hi=>by rw[Ah _ _ _ _ hc,if_neg hi]
 have hNc:(b.AH.set c r).getD c []=r:=by rw[Ah _ _ _ _ hcb,if_pos rfl]
 have tC:∀i,i≠c->(b.AH.set c r).getD i []=b.AH.getD i []:=fun i hi=>by rw[Ah _ _ _ _ hcb,if_neg hi]
 have qZ:(b.AH.set c r).length=b.AH.length:=by simp
 have su:VK u r.length:=by
  rcases hu with ⟨_,e⟩|e
  . exact⟨_,_,e,.inr ⟨gq,0,rfl⟩⟩
  . exact⟨_,_,e,.inr ⟨gq,3,rfl⟩⟩
 have ru:Zk w u r:=by
  rcases hu with ⟨e1,e⟩|e
  ·
   have h0:r=[]:=List.eq_nil_of_length_eq_zero (by omega);exact⟨_,0,by rw[e,h0];rfl,.inl h0⟩
  ·
   refine⟨some ⟨gq,3,none⟩,cq-1-r.length,by rw[e];congr 1;omega,.inr ⟨gq,3,rfl,lq,fun i y hy=>?_⟩⟩;have hr:=BW.rd Dg uT;obtain⟨a2,c2,e2,hx⟩:=hr;rcases hx with q|⟨b2,o2,q1,q2,q3⟩
   . cases q
   ·
    rw[q1] at e2;simp only[Value.slice.injEq,Option.some.injEq,Addr.mk.injEq,and_true] at e2;obtain⟨⟨rfl,rfl⟩,-⟩:=e2;have:=q3 (i+1) y (by simpa using hy);rw[show 0+(i+1)*3=3+i*3 by omega] at this;exact this
 have row:∀j,j∈LS AA.length (b.AH.set c r).length b.rws.length->Eg nv rv wv j/\∀y,Gw (PC v (fun i=>wv.getD i AE) (fun i=>(nv.set c u).getD i AE) (fun i=>rv.getD i AE) AA { b with AH:=b.AH.set c r } j).1 (PC v (fun i=>wv.getD i AE) (fun i=>(nv.set c u).getD i AE) (fun i=>rv.getD i AE) AA { b with AH:=b.AH.set c r } j).2 y ->
   Wb w y/\m<=y.block/\(Jr v nv (nv.set c u) rv wv AA b j).v.ownBlock=some y.block:=by
  intro j hj;have plain:∀(j:BJ) (n:Nat),Eg nv rv wv j->n<=(Jr v nv (nv.set c u) rv wv AA b j).n*(Jr v nv (nv.set c u) rv wv AA b j).size->∀y,Gw (Jr v nv (nv.set c u) rv wv AA b j).v n y->Wb w y/\m<=y.block/\(Jr v nv (nv.set c u) rv wv AA b j).v.ownBlock=some y.block:=fun j n l1 l2 y hy=>Rw.wb (h.Al.own j l1) l2 hy
  rcases Fd hj with ⟨d,hd,rfl⟩|rfl|rfl|⟨d,hd,rfl⟩|rfl|rfl|rfl|⟨d,hd,rfl⟩
  ·
   have l1:Eg nv rv wv (.wd d):=by show d<wv.length;rw[h.lw];exact hd
   exact⟨l1,plain (.wd d) _ l1 (by show 4*(AA.getD d []).length<=(AA.getD d []).length*4;omega)⟩
  . exact⟨⟨trivial,by simp⟩,plain (.b .AM) _ ⟨trivial,by simp⟩ (by show b.AM.length<=b.AM.length*1;omega)⟩
  . exact⟨⟨trivial,by simp⟩,plain (.b .AQ) _ ⟨trivial,by simp⟩ (by show b.AQ.length<=b.AQ.length*1;omega)⟩
  ·
   have l1:Eg nv rv wv (.b (.nt d)):=⟨by show d<nv.length;rw[h.ln,<-qZ];exact hd,by simp⟩;refine⟨l1,fun y hy=>?_⟩;by_cases e:d=c
   ·
    subst e;have hy:Gw ((nv.set d u).getD d AE) (3*((b.AH.set d r).getD d []).length) y:=hy;rw[tH,hNc] at hy;refine plain (.b (.nt d)) (3*(r.length+1)) l1 (by show 3*(r.length+1)<=(b.AH.getD d []).length*3;rw[hz,List.length_cons];omega) y ?_;show Gw (nv.getD d AE) _ y;rw[hq];obtain⟨b2,o2,l2,c2,i2,e2,hi2,ea⟩:=hy;rcases hu with ⟨_,e3⟩|e3
    ·
     rw[e3] at e2;simp only[Value.slice.injEq,Option.some.injEq,Addr.mk.injEq,and_true] at e2;obtain⟨⟨rfl,rfl⟩,-,-⟩:=e2;exact⟨gq,0,_,_,i2,rfl,by omega,ea⟩
    ·
     rw[e3] at e2;simp only[Value.slice.injEq,Option.some.injEq,Addr.mk.injEq,and_true] at e2;obtain⟨⟨rfl,rfl⟩,-,-⟩:=e2;exact⟨gq,0,_,_,3+i2,rfl,by omega,by rw[ea,Nat.zero_add]⟩
   ·
    have hy:Gw ((nv.set c u).getD d AE) (3*((b.AH.set c r).getD d []).length) y:=hy;rw[tJ d e,tC d e] at hy;exact plain (.b (.nt d)) _ l1 (by show 3*(b.AH.getD d []).length<=(b.AH.getD d []).length*3;omega) y hy
  . exact⟨⟨trivial,by simp⟩,plain (.b .AL) _ ⟨trivial,by simp⟩ (by show b.AL.length<=b.AL.length*1;omega)⟩
  . exact⟨⟨trivial,by simp⟩,plain (.b .sn) _ ⟨trivial,by simp⟩ (by show b.sn.length<=b.sn.length*1;omega)⟩
  . exact⟨⟨trivial,by simp⟩,plain (.b .fr) _ ⟨trivial,by simp⟩ (by show b.fr.length<=b.fr.length*1;omega)⟩
  ·
   have l1:Eg nv rv wv (.b (.rw d)):=⟨by show d<rv.length;rw[h.lr];exact hd,by simp⟩;exact⟨l1,plain (.b (.rw d)) _ l1 (by show 1*(b.rws.getD d []).length<=(b.rws.getD d []).length*1;omega)⟩
 have heads:∀(j:BJ) (t:TypeId) (vs:List Value) (z:Value),Eg nv rv wv j->Jr v nv (nv.set c u) rv wv AA b j=EH t vs z->j∉LS AA.length (b.AH.set c r).length b.rws.length ->
   PP w z (fun i=>vs.getD i AE) vs.length (Hv (LU v (fun i=>wv.getD i AE) (fun i=>(nv.set c u).getD i AE) (fun i=>rv.getD i AE) AA { b with AH:=b.AH.set c r })):=by
  intro j t vs z hl e hj;have ho:=h.Al.own j hl;rw[e] at ho;obtain⟨a,cc,ea,h1⟩:=Bn ho;refine⟨a,cc,ea,?_⟩;rcases h1 with h1|⟨g,e1,e2,e3⟩
  . exact .inl (by rw[h1];rfl)
  ·
   refine .inr ⟨g,0,e1,e2,fun i hi=>⟨by rw[Nat.zero_add];exact e3 i hi,?_⟩⟩;rintro⟨r',hr,hx⟩;rw[Df,List.mem_map] at hr;obtain⟨q,hq',rfl⟩:=hr;obtain⟨l1,l2⟩:=row q hq';have hb:=(l2 _ hx).2.2;have ap:=h.Al.apart q j l1 hl (fun e=>hj (e ▸ hq'));rw[hb,e] at ap;rcases ap with ap|ap
   . cases ap
   ·
    apply ap;show _=z.ownBlock;rw[ea,e1];rfl
 have hge:∀(j:BJ) (n:Nat),Eg nv rv wv j->Zg (Jr v nv (nv.set c u) rv wv AA b j).v n m:=fun j n hl q o l c' e _=>(h.Al.lt hl q (by rw[e];rfl)).1
 have o1:A8 w m v.P b.AM:=h.Al.own (.b .AM) ⟨trivial,by simp⟩;have o2:A8 w m v.L b.AQ:=h.Al.own (.b .AQ) ⟨trivial,by simp⟩;have o3:A8 w m v.X b.AL:=h.Al.own (.b .AL) ⟨trivial,by simp⟩;have o4:A8 w m v.S b.sn:=h.Al.own (.b .sn) ⟨trivial,by simp⟩;have o5:A8 w m v.F b.fr:=h.Al.own (.b .fr) ⟨trivial,by simp⟩;have hw:=heads .wk 52 wv v.W trivial rfl (fun hq=>by have:=Fd hq;simp at this);have hn:=heads (.b .AH) 42 (nv.set c u) v.N ⟨trivial,by simp⟩ rfl (fun hq=>by have:=Fd hq;simp at this);have hr:=heads (.b .rws) 26 rv v.R ⟨trivial,by simp⟩ rfl (fun hq=>by have:=Fd hq;simp at this);rw[h.lw] at hw;rw[h.lh,h.ln,<-qZ] at hn;rw[h.lr] at hr;refine⟨⟨?_,o1.rd,o2.rd,?_,o3.rd,o4.rd,o5.rd,?_⟩,⟨fun i=>wv.getD i AE,fun i=>(nv.set c u).getD i AE,fun i=>rv.getD i AE,?_,⟨?_,?_⟩,?_⟩,hge .wk _ trivial,hge (.b .AH) _ ⟨trivial,by simp⟩,hge (.b .rws) _ ⟨trivial,by simp⟩⟩
 ·
  obtain⟨a,cap,e,h1⟩:=hw;refine⟨a,cap,e,?_⟩;rcases h1 with h1|⟨g,o,e1,e2,e3⟩
  . exact .inl (List.eq_nil_of_length_eq_zero h1)
  . exact .inr ⟨g,o,e1,e2,fun i hi=>⟨_,(e3 i hi).1,(show BZ w m (wv.getD i AE) (AA.getD i []) from h.Al.own (.wd i) (by show i<wv.length;rw[h.lw];exact hi)).QZ.rd⟩⟩
 ·
  obtain⟨a,cap,e,h1⟩:=hn;refine⟨a,cap,e,?_⟩;rcases h1 with h1|⟨g,o,e1,e2,e3⟩
  . exact .inl (List.eq_nil_of_length_eq_zero h1)
  ·
   refine .inr ⟨g,o,e1,e2,fun i hi=>⟨_,(e3 i hi).1,?_⟩⟩;show Zk w ((nv.set c u).getD i AE) ((b.AH.set c r).getD i []);by_cases ei:i=c
   . subst ei;rw[tH,hNc];exact ru
   ·
    rw[tJ i ei,tC i ei];have hi2:i<nv.length:=by rw[h.ln,<-qZ];exact hi
    exact BW.rd Dg (show BW cN 44 3 w m (nv.getD i AE) (b.AH.getD i []) from h.Al.own (.b (.nt i)) ⟨hi2,by simp⟩)
 ·
  obtain⟨a,cap,e,h1⟩:=hr;refine⟨a,cap,e,?_⟩;rcases h1 with h1|⟨g,o,e1,e2,e3⟩
  . exact .inl (List.eq_nil_of_length_eq_zero h1)
  . exact .inr ⟨g,o,e1,e2,fun i hi=>⟨_,(e3 i hi).1,(show A8 w m (rv.getD i AE) (b.rws.getD i []) from h.Al.own (.b (.rw i)) ⟨by show i<rv.length;rw[h.lr];exact hi,by simp⟩).rd⟩⟩
 ·
  refine⟨hw,fun i hi=>Rw.RI (h.Al.own (.wd i) (by show i<wv.length;rw[h.lw];exact hi)),Rw.RI (h.Al.own (.b .AM) ⟨trivial,by simp⟩),Rw.RI (h.Al.own (.b .AQ) ⟨trivial,by simp⟩),hn,
   fun i hi=>?_,Rw.RI (h.Al.own (.b .AL) ⟨trivial,by simp⟩),Rw.RI (h.Al.own (.b .sn) ⟨trivial,by simp⟩),Rw.RI (h.Al.own (.b .fr) ⟨trivial,by simp⟩),hr,
   fun i hi=>Rw.RI (h.Al.own (.b (.rw i)) ⟨by show i<rv.length;rw[h.lr];exact hi,by simp⟩)⟩
  show VK ((nv.set c u).getD i AE) ((b.AH.set c r).getD i []).length;by_cases ei:i=c
  . subst ei;rw[tH,hNc];exact su
  ·
   rw[tJ i ei,tC i ei];have hi2:i<nv.length:=by rw[h.ln,<-qZ];exact hi
   exact Rw.RI (h.Al.own (.b (.nt i)) ⟨hi2,by simp⟩)
 ·
  rintro y ⟨r',hr',hx⟩;rw[Df,List.mem_map] at hr';obtain⟨q,hq',rfl⟩:=hr';exact ((row q hq').2 y hx).1
 ·
  rw[Df,List.pairwise_map];refine List.Pairwise.imp_of_mem (R:=fun a b=>a≠b) (fun {p q} hp hq' hne y hx hy=>?_) (NG _ _ _);have a1:=((row p hp).2 y hx).2.2;have a2:=((row q hq').2 y hy).2.2;rcases h.Al.apart p q (row p hp).1 (row q hq').1 hne with ap|ap
  . rw[a1] at ap;cases ap
  . rw[a1,a2] at ap;exact ap rfl
 ·
  rintro y ⟨r',hr',hx⟩;rw[Df,List.mem_map] at hr';obtain⟨q,hq',rfl⟩:=hr';have:=(row q hq').2 y hx;exact⟨this.2.1,this.1.lt⟩
end
end
theorem TH {l:List Int}{m:Nat}(h:m<l.length):Dx l (l.getD m 0)=true:=by
 unfold Dx;rw[List.any_eq_true];refine⟨l.getD m 0,?_,by simp⟩;rw[List.getD_eq_getElem?_getD,List.getElem?_eq_getElem h];exact List.getElem_mem h
theorem EU {AA:List (List Dd)}{b:Bd}(hb:Af AA b=true):Cg AA b:=by
 obtain⟨h1,h2,h3,h4,h5,h6,h7,h8,h9,h10⟩:=En hb;obtain⟨w1,w2⟩:=FV h1;exact⟨by omega,w2,by omega,by omega,by omega,fun i hi=>by have:=h10 i (by omega);omega,by omega,by omega,by omega,by omega,fun i hi=>by have:=h9 i (by omega);omega⟩
structure jI (AA:List (List Dd))(XM:List Int)(b:Bd)(k:Nat):Prop where
 run:JA AA b
 eq:Bw AA (AB AA) (Bq AA) XM=b
 len:XM.length=k
 mV:Kb AA b+k<=24
 ln:LN AA b
 nx:∀c,0<=b.AL.getD c 0
theorem jI.new {AA:List (List Dd)}(hb:AW AA=true):jI AA [] (Bq AA) 0:=
 ⟨JA.new hb,rfl,rfl,(IC hb).1,(IC hb).2.1,(IC hb).2.2⟩
theorem jI.step {AA:List (List Dd)}(hb:AW AA=true){XM:List Int}{b:Bd}{k:Nat}(h:jI AA XM b k){s:Int}(hs:Dx (Ae AA b) s=true):jI AA (XM++[s]) (Aq AA (AB AA) b s) (k+1):=by
 have hm:=QT hb (es:=AB AA) h.ln h.nx hs;refine⟨h.run.step hb hs,?_,by simp[h.len],by have:=h.mV;have:=hm.1;omega,hm.2.1,hm.2.2⟩;rw[Kx,h.eq];show Bw AA (AB AA) (if Dx (Ae AA b) s=true then Aq AA (AB AA) b s else b) []=_;rw[if_pos hs];rfl
theorem RB.flush {AA:List (List Dd)}{b:Bd}{N:Nat->Nat}{m:Nat}(h:RB AA b N m){c:Nat}(hc:c<AA.length){x:Nt}{r:List Nt}(e:b.AH.getD c []=x::r):RB AA (Bs b c) N (m+1):=by
 have hx:=(h.nl c).2 x (by rw[e];simp);have hl:=(h.nl c).1;rw[e] at hl;have h1:=h.note (N':=N) c r (fun y hy=>(h.nl c).2 y (by rw[e];exact List.mem_cons_of_mem _ hy)) (by simp at hl;omega) (fun _ _=>Nat.le_refl _) hc;rw[Bs,e];exact h1.UK _ _ _ hx.2.1 hx.2.2
theorem Lm {AA:List (List Dd)}{es:List Ev}{b:Bd}(c:Nat):Aq AA es b (10+(c:Int))=Bs b c:=by
 unfold Aq;rw[if_pos (by omega)];have:(10+(c:Int)-10).toNat=c:=by omega
 rw[this]
theorem RB.sz {AA:List (List Dd)}{b:Bd}{n m:Nat}(h:RB AA b (fun _=>n) m)(hn:n<=1000)(hm:m<=1000):Cg AA b/\Pf AA b:=by
 obtain⟨w1,w2⟩:=FV h.work;have h9:=Km AA
 have hr:(AX Aj (AB AA)).length<=12:=by
  unfold AX;split
  . have:=Cw Aj (AB AA) (AB AA).length;omega
  . simp
 have hl:Cy AA<=12:=by
  have h1:=h.work;simp only[AW,Bool.and_eq_true,decide_eq_true_eq] at h1;exact h1.1.1.2
 have key:∀ {α:Type} (l:List (List α)) (m:Nat),(∀i,i<l.length->(l.getD i []).length<=m)->∀k,k<=l.length->IW (l.take k)<=k*m:=by
  intro α l m h k
  induction k with
  |zero=>intro _;simp[IW]
  |succ k ih=>
   intro hk;have:=ih (by omega);have:=h k hk;rw[UO l k hk,Nat.add_mul];omega
 have n1:=key b.AH n (fun i _=>(h.nl i).1) b.AH.length (Nat.le_refl _);have n2:=key b.rws m (fun i _=>(h.rl i).1) b.rws.length (Nat.le_refl _);rw[List.take_length,h.AH] at n1;rw[List.take_length,h.rws] at n2;have m1:AA.length*n<=3*1000:=Nat.mul_le_mul w1 hn;refine⟨⟨by omega,w2,by rw[h.AM];omega,by rw[h.AQ];omega,by rw[h.AH];omega,fun i _=>by have:=(h.nl i).1;omega,by rw[h.AL];omega,by rw[h.sn];omega,by rw[h.fr];omega,by rw[h.rws];omega,fun i _=>by have:=(h.rl i).1;omega⟩,by omega,by omega,by omega⟩
theorem RB.any {AA:List (List Dd)}{b:Bd}(hb:Af AA b=true):RB AA b (fun _=>20) 20:=RB.of hb (EF.of hb).nl (EF.of hb).rl
theorem RB.So {AA:List (List Dd)}{b:Bd}{n m:Nat}(h:RB AA b (fun _=>n) m){s:Int}(hs:Dx (Ae AA b) s=true):RB AA (Aq AA (AB AA) b s) (fun _=>n+1) (m+5):=by
 have h3:AA.length<=3:=(As h.work).1;rcases MR h3 hs with ⟨c,rfl,hc,x,r,e⟩|⟨c,rfl,hc,c10,hcan⟩
 ·
  rw[Lm];exact (h.flush hc e).more (fun _=>Nat.le_succ _) (by omega)
 . exact h.stepped hc hcan c10
theorem Nw {AA:List (List Dd)}(hb:AW AA=true):∀(l:List Int) (b:Bd),JA AA b->Af AA (Bw AA (AB AA) b l)=true
 | [],b,h=>by rw[Bw];exact h.board hb
 |s::r,b,h=>by
  rw[Bw];refine Nw hb r _ ?_;split
  ·
   rename_i hs;exact h.step hb hs
  . exact h
abbrev Ts:BV:=⟨AE,AE,AE,AE,AE,AE,AE,AE⟩
abbrev PR:Bd:=⟨[],[],[],[],[],[],[]⟩
theorem Tf:Cg [] PR:=⟨by simp,by simp,by simp,by simp,by simp,by simp,by simp,by simp,by simp,by simp,by simp⟩
theorem Kw (w:World):CJ w Ts [] PR:=
 ⟨⟨none,0,rfl,.inl rfl⟩,⟨none,0,rfl,.inl rfl⟩,⟨none,0,rfl,.inl rfl⟩,⟨none,0,rfl,.inl rfl⟩,⟨none,0,rfl,.inl rfl⟩,⟨none,0,rfl,.inl rfl⟩,⟨none,0,rfl,.inl rfl⟩,⟨none,0,rfl,.inl rfl⟩⟩
def MG (AA:List (List Dd)):List (List Dd):=if AW AA=true then AA else []
def Dn (AA:List (List Dd)):Bd:=if AW AA=true then Bq AA else PR
theorem Eo (w:World)(v:Value)(zs:List Int)(h:Rd w v zs)(hn:zs.length<=1048576):
  Calls Tryz.prog 84 #[v] w fun e w'=>∃v',e = .returned v'/\A8 w' w.heap.size v' zs/\AC w w':=by
 have ho:A8 (w.alloc (.cells #[] 2)) w.heap.size (.slice (some ⟨w.heap.size,0,none⟩) 0 0) []:=World.ownsRow_lit w #[] 0 (Nat.le_refl _) (by decide) rfl;have hK:AC w (w.alloc (.cells #[] 2)):=(AC.refl w).alloc _;obtain⟨i0,hi,hz0,hz1,hz2⟩:=info_parts Tryz.FL;obtain⟨a,cap,rfl,h⟩:=h;rcases h with rfl|⟨g,off,rfl,hg,hc⟩
 ·
  cases a with
  |none=>
   go_enter Tryz.func84,Tryz.ntmps84
   go_wp2;go_ret;exact⟨_,rfl,ho,hK⟩
  |some x=>
   go_enter Tryz.func84,Tryz.ntmps84
   go_wp2_with (at_builtin;refine wpList_append_own _ rfl _ _ 26 rfl w.heap.size 2 i0 (.int .i64 0) 1 8 Tryz.underlying26 hi hz0 hz1 hz2 rfl (by decide) _ _ _ rfl ho x 0 cap [] rfl rfl ?c1 ?c2 ?c3 ?c4 ?c5 ?_)
   case c1=>intro j u hj;simp at hj
   case c2=>intro u hu;simp at hu
   case c3=>simp
   case c4=>simp
   case c5=>simp
   intro v' w1 hown' hgrow _;have k1:AC w w1:=hK.grown hgrow ho.ge;have o1:A8 w1 w.heap.size v' []:=by unfold A8;simpa using hown'
   clear hgrow hown';go_wp2;go_ret;exact⟨_,rfl,o1,k1⟩
 ·
  have C:=W5 (w:=w.alloc (.cells #[] 2)) (b:=g) (off:=off) (zs:=zs) (fun i hi=>(hK.cell hg).trans (hc i hi));go_enter Tryz.func84,Tryz.ntmps84
  go_wp2_with (at_builtin;refine wpList_append_own _ rfl _ _ 26 rfl w.heap.size 2 i0 (.int .i64 0) 1 8 Tryz.underlying26 hi hz0 hz1 hz2 rfl (by decide) _ _ _ rfl ho ⟨g,off,none⟩ zs.length cap (zs.map (Value.int .i64)) rfl (by simp) ?c1 ?c2 ?c3 ?c4 ?c5 ?_)
  case c1=>exact C
  case c2=>exact WS zs
  case c3=>simp;unfold maxLen;omega
  case c4=>simp;omega
  case c5=>simp
  intro v' w1 hown' hgrow _;have k1:AC w w1:=hK.grown hgrow ho.ge;have o1:A8 w1 w.heap.size v' zs:=by unfold A8;simpa using hown'
  clear hgrow hown';go_wp2;go_ret;exact⟨_,rfl,o1,k1⟩
end Go.Proofs.YtgakfkjjkobpiaaGreat
