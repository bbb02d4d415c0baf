/- Gathered texts. -/
import Derived.BigRegion
import Derived.Lib.Hide
import Derived.Test.YtgikcfdckddgpaaGreatMF
import Derived.Maps.AppendAt
import Derived.Laws.OwnMore
import Derived.Outline
import Derived.RegionTactic
import Derived.Deep.QuietTactic
import Derived.BigQuiet
import Derived.Test.YtgikcfdckddgpaaGreatMJ
import Derived.Deep.Cut
set_option maxRecDepth 100000
set_option maxHeartbeats 8000000
namespace Go.Proofs.YtgikcfdckddgpaaGreat
open Go.ChangeShapes Go.WideShapes Go.ChangeAt Go.RowKit
def clsK (l:List Ev):Nat→List Int
 | 0=>[]
 |k+1=>clsK l k++[csE (l.getD k zE)]
theorem clsK_len (l:List Ev):∀k:Nat,(clsK l k).length=k
 | 0=>rfl
 |k+1=>by rw[clsK,List.length_append,clsK_len l k];rfl
theorem clsK_take (l:List Ev):∀k:Nat,k≤l.length→clsK l k=(l.take k).map csE
 | 0,_=>rfl
 |k+1,h=>by rw[clsK,clsK_take l k (by omega),List.take_add_one,evs_get (by omega:k<l.length)];simp
theorem clsK_all (l:List Ev):clsK l l.length=l.map csE:=by rw[clsK_take l _ (Nat.le_refl _),List.take_length]
theorem specClassesOf_any (w:World)(v:Value)(es:List Ev)(h:RdE w v es)(hx:es.length≤1048576):
  Calls Tryz.prog 26 #[v] w fun e w'=>∃v',e = .returned v'∧Own w' w.heap.size v' (clsB es)∧Keep w w':=by
 have hown0:Own (w.alloc (.cells #[] 2)) w.heap.size (.slice (some ⟨w.heap.size,0,none⟩) 0 0) []:=World.ownsRow_lit w #[] 0 (Nat.le_refl _) (by decide) rfl;obtain⟨a,cap,rfl,h⟩:=h;by_cases hl:12<es.length
 ·
  have HE:Hid (clsB es=[]):=Lib.hid (by unfold clsB;rw[if_neg (by omega)]);have l1:(12:Int)<(es.length:Int):=by omega
  go_enter Tryz.func26,Tryz.ntmps26
  go_wp2;refine wp_loop_rounds 1 ?_;rw[rounds_succ];go_wp2;go_ret;exact⟨_,rfl,by rw[HE.out];exact hown0,(Keep.refl _).alloc _⟩
 have l1:es.length≤12:=by omega
 clear hl;have HE:Hid (clsB es=clsK es es.length):=Lib.hid (by unfold clsB;rw[if_pos l1];exact (clsK_all es).symm);obtain⟨i0,hi,hz0,hz1,hz2⟩:=info_parts Tryz.infoI;go_enter Tryz.func26,Tryz.ntmps26
 go_wp2;go_loopw [3,4] (fun v i wr=>∃k:Nat,k≤es.length∧i = .int .i64 k∧Own wr w.heap.size v (clsK es k)∧Keep w wr) (fun _ i _=>es.length-(intOf i).toNat)
 case atStart=>exact⟨0,Nat.zero_le _,rfl,hown0,(Keep.refl _).alloc _⟩
 case round=>
  obtain⟨k,hk,rfl,ho,hK⟩:=hrel;clear hown0;by_cases hlt:k<es.length
  ·
   rcases h with h|⟨b,off,rfl,hb,hc⟩
   · exfalso;rw[h] at hlt;simp at hlt
   have AT:=(hc k _ (evs_get hlt)).keep hb hK;have hbw:b<wr.heap.size:=Nat.lt_of_lt_of_le hb hK.size;clear hc;have hml:(clsK es k).length≤k:=by rw[clsK_len];omega
   have hsz:=hK.size;have i1:(0:Int)≤(k:Int):=Int.natCast_nonneg _;have i2:(k:Int)<(es.length:Int):=by omega
   have l2:(es.length:Int)≤12:=by omega
   have HP:Hid (clsK es (k+1)=clsK es k++[csE (es.getD k zE)]):=Lib.hid rfl;obtain⟨e,he⟩:∃e,e=es.getD k zE:=⟨_,rfl⟩;rw[←he] at AT HP;clear he;obtain⟨x0,x1,x2,x3,x4,x5⟩:=e;obtain⟨-,-,-,-,-,A5⟩:=atE AT;clear AT;have HM:Hid (clsK es (k+1)=clsK es k++[x5]):=Lib.hid (by rw[HP.out];rfl);clear HP;go_wp2_with (at_builtin;refine wpList_append_own _ rfl _ _ 25 rfl w.heap.size 2 i0 (.int .i64 0) 1 8 Tryz.underlying25 hi hz0 hz1 hz2 rfl (by decide) _ _ _ rfl (World.ownsRow.alloc ho _) ⟨_,0,none⟩ 1 1 [.int .i64 x5] rfl rfl ?c1 ?c2 ?c3 ?c4 ?c5 ?_)
   case c1=>
    intro j u hj
    match j,hj with
    | 0,hj=>simp at hj;subst hj;simp[Addr.add]
   case c2=>intro u hu;simp at hu;subst hu;rfl
   case c3=>unfold maxLen;omega
   case c4=>omega
   case c5=>simp;omega
   intro v' w1 hown' hgrow _;have hK1:Keep w w1:=(hK.alloc _).grown hgrow ho.ge;clear hgrow;go_wp2;go_roundw;case rel=>exact⟨k+1,by omega,by go_num,by rw[HM.out];exact own_hit hown',hK1⟩
   case measure=>simp[intOf];omega
  ·
   obtain rfl:k=es.length:=by omega
   go_wp2;go_ret;exact⟨_,rfl,by rw[HE.out];exact ho,hK⟩
def cD (d:Dd):List Value:=[.int .i64 d.1,.int .i64 d.2.1,.int .i64 d.2.2.1,.int .i64 d.2.2.2]
def AppD (w:World)(base:Nat)(v:Value)(ds:List Dd):Prop:=w.ownsRow base 50 4 v ds.length (ds.flatMap cD)
theorem AppD.keep {w w':World}{base:Nat}{v:Value}{ds:List Dd}(h:AppD w base v ds)(k:Keep w w'):AppD w' base v ds:=
 World.ownsRow.kept h k.grownBy (by cases v.ownBlock<;>simp)
theorem AppD.ge {w:World}{base:Nat}{v:Value}{ds:List Dd}(h:AppD w base v ds):∀k,v.ownBlock=some k→base≤k:=fun k hk=>(World.ownsRow.lt h k hk).1
theorem appD_hit {w:World}{base:Nat}{v:Value}{ds:List Dd}{d:Dd}(h:w.ownsRow base 50 4 v (ds.length+1) (ds.flatMap cD++cD d)):AppD w base v (ds++[d]):=by
 unfold AppD;simpa using h
theorem cD_at:∀(ds:List Dd) (i m:Nat),i<ds.length→m<4→(ds.flatMap cD)[i*4+m]? = (cD (ds.getD i zD))[m]?
 | [],i,m,h,_=>by simp at h
 |d::r,0,m,_,hm=>by
  rw[List.flatMap_cons,List.getElem?_append_left (by simp[cD];omega)];simp
 |d::r,i+1,m,h,hm=>by
  have ih:=cD_at r i m (by simpa using h) hm;rw[List.flatMap_cons,List.getElem?_append_right (by simp[cD];omega),show (i+1)*4+m-(cD d).length=i*4+m by simp[cD];omega,ih];simp
theorem AppD.ownD {w:World}{base:Nat}{v:Value}{ds:List Dd}(h:AppD w base v ds):OwnD w base v ds:=by
 have h2:=h;rcases h.2 with ⟨rfl,hn⟩|⟨g,cap,cur,rfl,hb,hg,hcap,_,hs,_⟩
 ·
  have:ds=[]:=List.eq_nil_of_length_eq_zero hn;subst this;exact⟨none,0,rfl,.inl rfl⟩
 ·
  obtain⟨x,rfl⟩:∃x,cap=ds.length+x:=⟨cap-ds.length,by omega⟩;by_cases h0:ds=[]
  · exact⟨_,x,rfl,.inl h0⟩
  ·
   have len:(ds.flatMap cD).length=ds.length*4:=h.1
   have big:ds.length*4≤cur.size:=by
    have h5:=World.ownsRow.cellAt h2 (ds.length*4-1) (by
     have:ds.length≠0:=fun e=>h0 (List.eq_nil_of_length_eq_zero e)
     omega)
    rw[cell_of_row w g _ cur _ (0,0) hg] at h5;have hpos:ds.length≠0:=fun e=>h0 (List.eq_nil_of_length_eq_zero e)
    rw[List.getElem?_eq_getElem (by omega)] at h5;have:=(Array.getElem?_eq_some_iff.1 h5).1;omega
   refine⟨_,x,rfl,.inr ⟨g,rfl,hb,⟨cur,_,hg,big⟩,fun i hi=>?_⟩⟩
   have key:∀m,m<4→w.cell? ⟨g,i*4+m,none⟩=(cD (ds.getD i zD))[m]?:=fun m hm=>by
    rw[World.ownsRow.cellAt h2 (i*4+m) (by omega),cD_at ds i m hi hm]
   exact⟨key 0 (by omega),key 1 (by omega),key 2 (by omega),key 3 (by omega)⟩
theorem AppD.shape {w:World}{base:Nat}{v:Value}{ds:List Dd}(h:AppD w base v ds):∃a c,v = .slice a ds.length c:=by
 obtain⟨a,c,hv,_⟩:=h.ownD;exact⟨a,_,hv⟩
def vZ:Value:= .slice none 0 0
def AppW (w:World)(base:Nat)(v:Value)(dss:List (List Dd)):Prop:=
 ∃vs:List Value,vs.length=dss.length∧w.ownsRow base 45 1 v dss.length vs∧(∀i,i<dss.length→OwnD w base (vs.getD i vZ) (dss.getD i [])) ∧
  (∀i,i<dss.length→dss.getD i []≠[]→(vs.getD i vZ).ownBlock≠v.ownBlock) ∧
  ∀i j,i<j→j<dss.length→dss.getD i []≠[]→dss.getD j []≠[]→(vs.getD i vZ).ownBlock≠(vs.getD j vZ).ownBlock
theorem AppW.keep {w w':World}{base:Nat}{v:Value}{dss:List (List Dd)}(h:AppW w base v dss)(k:Keep w w'):AppW w' base v dss:=by
 obtain⟨vs,h1,h2,h3,h4⟩:=h;exact⟨vs,h1,World.ownsRow.kept h2 k.grownBy (by cases v.ownBlock<;>simp),fun i hi=>(h3 i hi).keep k,h4⟩
theorem OwnD.blockIn {w:World}{base:Nat}{v:Value}{ds:List Dd}(h:OwnD w base v ds)(h0:ds≠[]):∃g,v.ownBlock=some g∧base≤g∧g<w.heap.size:=by
 obtain⟨a,cap,rfl,h⟩:=h;rcases h with h|⟨g,rfl,hb,hB,_⟩
 · exact absurd h h0
 · exact⟨g,rfl,hb,hB.lt⟩
theorem OwnD.base_le {w:World}{base base':Nat}{v:Value}{ds:List Dd}(h:OwnD w base v ds)(hb:base'≤base):OwnD w base' v ds:=by
 obtain⟨a,cap,rfl,h⟩:=h;refine⟨a,cap,rfl,?_⟩;rcases h with h|⟨g,rfl,hg,r⟩
 · exact .inl h
 · exact .inr ⟨g,rfl,Nat.le_trans hb hg,r⟩
theorem getD_left {α:Type}(l m:List α)(i:Nat)(z:α)(h:i<l.length):(l++m).getD i z=l.getD i z:=by
 rw[List.getD_eq_getElem?_getD,List.getElem?_append_left h,List.getD_eq_getElem?_getD]
theorem getD_last {α:Type}(l:List α)(x z:α):(l++[x]).getD l.length z=x:=by
 rw[List.getD_eq_getElem?_getD];simp
theorem AppW.push {w0 w w1:World}{base B:Nat}{v v' u:Value}{dss:List (List Dd)}{ds:List Dd}{vs:List Value}
  (hvs:vs.length=dss.length) (ho:w0.ownsRow base 45 1 v dss.length vs)
  (h3:∀i,i<dss.length→OwnD w0 base (vs.getD i vZ) (dss.getD i []))
  (h4:∀i,i<dss.length→dss.getD i []≠[]→(vs.getD i vZ).ownBlock≠v.ownBlock)
  (h5:∀i j,i<j→j<dss.length→dss.getD i []≠[]→dss.getD j []≠[]→(vs.getD i vZ).ownBlock≠(vs.getD j vZ).ownBlock)
  (k:Keep w0 w) (hB:w0.heap.size≤B) (hb:base≤B) (hu:OwnD w B u ds)
  (hown:w1.ownsRow base 45 1 v' (dss.length+1) (vs++[u])) (hgrow:w.grownBy w1 v.ownBlock) (hblk:v'.ownBlock=v.ownBlock∨v'.ownBlock=some w.heap.size):
  AppW w1 base v' (dss++[ds]):=by
 have old:∀i,i<dss.length→dss.getD i []≠[]→∃g,(vs.getD i vZ).ownBlock=some g∧g<w0.heap.size:=fun i hi hd=>by
  obtain⟨g,e,_,hl⟩:=(h3 i hi).blockIn hd;exact⟨g,e,hl⟩
 have vlt:∀g,v.ownBlock=some g→g<w0.heap.size:=fun g hg=>(World.ownsRow.lt ho g hg).2
 have new:ds≠[]→∃g,u.ownBlock=some g∧w0.heap.size≤g∧g<w.heap.size:=fun hd=>by
  obtain⟨g,e,hbg,hl⟩:=hu.blockIn hd;exact⟨g,e,Nat.le_trans hB hbg,hl⟩
 have ksz:=k.size;refine⟨vs++[u],by simp[hvs],by simpa using hown,?_,?_,?_⟩
 ·
  intro i hi;by_cases e:i<dss.length
  ·
   rw[getD_left vs [u] i vZ (by omega),getD_left dss [ds] i [] e];refine ((h3 i e).keep k).kept hgrow ?_;by_cases hd:dss.getD i []=[]
   · exact .inl hd
   · exact .inr (h4 i e hd)
  ·
   have:i=dss.length:=by simp at hi;omega
   subst this;rw[getD_last dss ds [],←hvs,getD_last vs u vZ];refine (hu.base_le hb).kept hgrow ?_;by_cases hd:ds=[]
   · exact .inl hd
   ·
    right;obtain⟨g,e,hl,_⟩:=new hd;rw[e];intro e';have:=vlt g e'.symm;omega
 ·
  intro i hi;by_cases e:i<dss.length
  ·
   rw[getD_left vs [u] i vZ (by omega),getD_left dss [ds] i [] e];intro hd;rcases hblk with hv|hv
   · rw[hv];exact h4 i e hd
   ·
    obtain⟨g,e1,hl⟩:=old i e hd;rw[hv,e1];simp only[ne_eq,Option.some.injEq];omega
  ·
   have:i=dss.length:=by simp at hi;omega
   subst this;rw[getD_last dss ds [],←hvs,getD_last vs u vZ];intro hd;obtain⟨g,e1,hl,hl2⟩:=new hd;rw[e1];rcases hblk with hv|hv
   ·
    rw[hv];intro e';have:=vlt g e'.symm;omega
   ·
    rw[hv];simp only[ne_eq,Option.some.injEq];omega
 ·
  intro i j hij hj;have hi:i<dss.length:=by simp at hj;omega
  rw[getD_left vs [u] i vZ (by omega),getD_left dss [ds] i [] hi];by_cases e:j<dss.length
  ·
   rw[getD_left vs [u] j vZ (by omega),getD_left dss [ds] j [] e];exact h5 i j hij e
  ·
   have:j=dss.length:=by simp at hj;omega
   subst this;rw[getD_last dss ds [],←hvs,getD_last vs u vZ];intro hd hd2;obtain⟨g,e1,hl⟩:=old i hi hd;obtain⟨g2,e2,hl2,_⟩:=new hd2;rw[e1,e2];simp only[ne_eq,Option.some.injEq];omega
theorem AppW.ownW {w:World}{base:Nat}{v:Value}{dss:List (List Dd)}(h:AppW w base v dss):OwnW w base v dss:=by
 obtain⟨vs,h1,h2,h3,h4,h5⟩:=h;have h6:=h2;rcases h2.2 with ⟨rfl,hn⟩|⟨g,cap,cur,rfl,hb,hg,_,_,hs,_⟩
 ·
  have:dss=[]:=List.eq_nil_of_length_eq_zero hn;subst this;exact⟨none,0,rfl,.inl rfl⟩
 ·
  by_cases h0:dss=[]
  · exact⟨_,_,rfl,.inl h0⟩
  ·
   have hpos:dss.length≠0:=fun e=>h0 (List.eq_nil_of_length_eq_zero e)
   have cells:∀i,i<dss.length→w.cell? ⟨g,i,none⟩=some (vs.getD i vZ):=fun i hi=>by
    rw[World.ownsRow.cellAt h6 i (by omega),List.getElem?_eq_getElem (by omega),List.getD_eq_getElem?_getD,List.getElem?_eq_getElem (by omega)];rfl
   have big:dss.length≤cur.size:=by
    have h5:=cells (dss.length-1) (by omega);rw[cell_of_row w g _ cur _ (0,0) hg] at h5;have:=(Array.getElem?_eq_some_iff.1 h5).1;omega
   refine⟨_,_,rfl,.inr ⟨g,fun i=>vs.getD i vZ,rfl,hb,⟨cur,_,hg,big⟩,fun i hi=>⟨cells i hi,h3 i hi⟩,⟨fun i hi hd=>?_,h5⟩⟩⟩;exact h4 i hi hd
def RdX (w:World)(base:Nat)(v:Value)(dss:List (List Dd)):Prop:=
 ∃(a:Option Addr) (cap:Nat),v = .slice a dss.length cap ∧
  (dss=[]∨∃b off,a=some ⟨b,off,none⟩∧base≤b∧b<w.heap.size∧∀i,i<dss.length→∃vi,w.cell? ⟨b,off+i,none⟩=some vi∧AppD w base vi (dss.getD i []))
theorem RdX.rd {w:World}{base:Nat}{v:Value}{dss:List (List Dd)}(h:RdX w base v dss):RdW w v dss:=by
 obtain⟨a,cap,hv,h⟩:=h;refine⟨a,cap,hv,?_⟩;rcases h with h|⟨b,off,ha,_,hb,hc⟩
 · exact .inl h
 ·
  refine .inr ⟨b,off,ha,hb,fun i hi=>?_⟩;obtain⟨vi,h1,h2⟩:=hc i hi;exact⟨vi,h1,h2.ownD.rd⟩
theorem RdX.keep {w w':World}{base:Nat}{v:Value}{dss:List (List Dd)}(h:RdX w base v dss)(k:Keep w w'):RdX w' base v dss:=by
 obtain⟨a,cap,hv,h⟩:=h;refine⟨a,cap,hv,?_⟩;rcases h with h|⟨b,off,ha,hbb,hb,hl⟩
 · exact .inl h
 ·
  refine .inr ⟨b,off,ha,hbb,Nat.lt_of_lt_of_le hb k.size,fun i hi=>?_⟩;obtain⟨vi,h1,h2⟩:=hl i hi;exact⟨vi,(k.cell hb).trans h1,h2.keep k⟩
def RdXN (w:World)(base N:Nat)(v:Value)(dss:List (List Dd)):Prop:=
 ∃(a:Option Addr) (cap:Nat),v = .slice a dss.length cap ∧
  (dss=[]∨∃b off,a=some ⟨b,off,none⟩∧base≤b∧b<N∧b<w.heap.size∧∀i,i<dss.length→∃vi,w.cell? ⟨b,off+i,none⟩=some vi∧AppD w base vi (dss.getD i [])∧∀k,vi.ownBlock=some k→k<N)
theorem RdX.upto {w:World}{base:Nat}{v:Value}{dss:List (List Dd)}(h:RdX w base v dss):RdXN w base w.heap.size v dss:=by
 obtain⟨a,cap,hv,h⟩:=h;refine⟨a,cap,hv,?_⟩;rcases h with h|⟨b,off,ha,hbb,hb,hl⟩
 · exact .inl h
 ·
  refine .inr ⟨b,off,ha,hbb,hb,hb,fun i hi=>?_⟩;obtain⟨vi,h1,h2⟩:=hl i hi;exact⟨vi,h1,h2,fun k hk=>(h2.lt k hk).2⟩
theorem RdXN.rd {w:World}{base N:Nat}{v:Value}{dss:List (List Dd)}(h:RdXN w base N v dss):RdW w v dss:=by
 obtain⟨a,cap,hv,h⟩:=h;refine⟨a,cap,hv,?_⟩;rcases h with h|⟨b,off,ha,_,_,hb,hc⟩
 · exact .inl h
 ·
  refine .inr ⟨b,off,ha,hb,fun i hi=>?_⟩;obtain⟨vi,h1,h2,_⟩:=hc i hi;exact⟨vi,h1,h2.ownD.rd⟩
theorem RdXN.kept {w w':World}{base N:Nat}{row:Option Nat}{v:Value}{dss:List (List Dd)}(h:RdXN w base N v dss)(hg:w.grownBy w' row)(hr:∀g,row=some g→g<base∨N≤g):RdXN w' base N v dss:=by
 obtain⟨a,cap,hv,h⟩:=h;refine⟨a,cap,hv,?_⟩;rcases h with h|⟨b,off,ha,hbb,hbN,hb,hl⟩
 · exact .inl h
 ·
  refine .inr ⟨b,off,ha,hbb,hbN,Nat.lt_of_lt_of_le hb hg.size,fun i hi=>?_⟩;obtain⟨vi,h1,h2,h3⟩:=hl i hi;have hblk:w'.heap[b]? = w.heap[b]?:=hg.block b hb (fun e=>by have:=hr b e.symm;omega);refine⟨vi,?_,h2.kept hg ?_,h3⟩
  ·
   simp only[World.cell?,hblk] at h1 ⊢;exact h1
  ·
   cases hu:vi.ownBlock with
   |none=>exact .inl rfl
   |some k=>exact .inr (fun e=>by have:=h2.ge k hu;have:=h3 k hu;have:=hr k e.symm;omega)
theorem AppD.kept {w w':World}{base:Nat}{v:Value}{ds:List Dd}{row:Option Nat}(h:AppD w base v ds)(hg:w.grownBy w' row)(hne:v.ownBlock=none∨v.ownBlock≠row):AppD w' base v ds:=
 World.ownsRow.kept h hg hne
theorem AppD.lt {w:World}{base:Nat}{v:Value}{ds:List Dd}(h:AppD w base v ds):∀k,v.ownBlock=some k→base≤k∧k<w.heap.size:=World.ownsRow.lt h
theorem AppD.base_le {w:World}{base base':Nat}{v:Value}{ds:List Dd}(h:AppD w base v ds)(hb:base'≤base):AppD w base' v ds:=by
 refine⟨h.1,?_⟩;rcases h.2 with q|⟨g,cap,cur,e,hg,r⟩
 · exact .inl q
 · exact .inr ⟨g,cap,cur,e,Nat.le_trans hb hg,r⟩
theorem ne_of_ge {v:Value}{base c:Nat}(h:∀k,v.ownBlock=some k→base≤k)(hc:c<base):v.ownBlock=none∨v.ownBlock≠some c:=by
 cases hv:v.ownBlock with
 |none=>exact .inl rfl
 |some k=>exact .inr (fun e=>by have:=h k hv;simp at e;omega)
theorem flat_set (ds:List Dd)(k:Nat)(x:Int):k<ds.length→(ds.flatMap cD).set (k*4+3) (.int .i64 x)=(ds.set k ((ds.getD k zD).1,(ds.getD k zD).2.1,(ds.getD k zD).2.2.1,x)).flatMap cD:=by
 induction ds generalizing k with
 |nil=>intro hk;simp at hk
 |cons d r ih=>
  intro hk
  cases k with
  |zero=>simp[cD]
  |succ k=>
   have h1:=ih k (by simpa using hk);rw[List.flatMap_cons,List.set_append_right _ _ (by simp[cD];omega),show (k+1)*4+3-(cD d).length=k*4+3 by simp[cD];omega,h1];simp
theorem AppD.put {w:World}{base g n c:Nat}{ds:List Dd}(h:AppD w base (.slice (some ⟨g,0,none⟩) n c) ds){k:Nat}(hk:k<ds.length)(x:Int):
  AppD (w.setCell ⟨g,k*4+3,none⟩ (.int .i64 x)) base (.slice (some ⟨g,0,none⟩) n c) (ds.set k ((ds.getD k zD).1,(ds.getD k zD).2.1,(ds.getD k zD).2.2.1,x)):=by
 have hlen:(ds.flatMap cD).length=ds.length*4:=h.1;have e:=flat_set ds k x hk;rcases h.2 with ⟨q,_⟩|⟨g',cap,cur,e1,hb,hg,hc1,hc2,hs,ht⟩
 · cases q
 ·
  simp only[Value.slice.injEq,Option.some.injEq,Addr.mk.injEq,and_true] at e1;obtain⟨rfl,rfl,rfl⟩:=e1;refine⟨by rw[←e,List.length_set,List.length_set];exact hlen,.inr ⟨g,_,cur.setIfInBounds (k*4+3) (.int .i64 x),by rw[List.length_set],hb,?_,by rw[List.length_set];exact hc1,hc2,by simpa using hs,?_⟩⟩
  · rw[heap_setCell_same w g (k*4+3) _ _ _ hg]
  · rw[Array.toList_setIfInBounds,List.length_set,List.take_set,ht,e]
structure AppX (w:World)(base N:Nat)(v:Value)(V:Nat→Value)(dss:List (List Dd)):Prop where
 row:w.ownsRow base 45 1 v dss.length ((List.range dss.length).map V)
 lt:∀k,v.ownBlock=some k→k<N
 each:∀i,i<dss.length→AppD w base (V i) (dss.getD i [])
 lts:∀i,i<dss.length→∀k,(V i).ownBlock=some k→k<N
 out:∀i,i<dss.length→∀k,(V i).ownBlock=some k→v.ownBlock≠some k
 apart:∀i j,i<j→j<dss.length→∀k,(V i).ownBlock=some k→(V j).ownBlock≠some k
theorem AppX.kept {w w':World}{base N c:Nat}{v:Value}{V:Nat→Value}{dss:List (List Dd)}(h:AppX w base N v V dss)(hg:w.grownBy w' (some c))(hc:c<base):AppX w' base N v V dss:=
 ⟨World.ownsRow.kept h.row hg (ne_of_ge (fun k hk=>(World.ownsRow.lt h.row k hk).1) hc),h.lt,fun i hi=>(h.each i hi).kept hg (ne_of_ge (h.each i hi).ge hc),h.lts,h.out,h.apart⟩
theorem AppX.keep {w w':World}{base N:Nat}{v:Value}{V:Nat→Value}{dss:List (List Dd)}(h:AppX w base N v V dss)(k:Keep w w'):AppX w' base N v V dss:=
 ⟨World.ownsRow.kept h.row k.grownBy (by cases v.ownBlock<;>simp),h.lt,fun i hi=>(h.each i hi).keep k,h.lts,h.out,h.apart⟩
theorem AppX.up {w:World}{base N N':Nat}{v:Value}{V:Nat→Value}{dss:List (List Dd)}(h:AppX w base N v V dss)(hN:N≤N'):AppX w base N' v V dss:=
 ⟨h.row,fun k hk=>Nat.lt_of_lt_of_le (h.lt k hk) hN,h.each,fun i hi k hk=>Nat.lt_of_lt_of_le (h.lts i hi k hk) hN,h.out,h.apart⟩
theorem range_getV (V:Nat→Value)(n i:Nat)(h:i<n):((List.range n).map V)[i]? = some (V i):=by
 rw[List.getElem?_map,List.getElem?_range h];rfl
theorem AppX.at {w:World}{base N:Nat}{v:Value}{V:Nat→Value}{dss:List (List Dd)}(h:AppX w base N v V dss)(hn:0<dss.length):
  ∃g c,v = .slice (some ⟨g,0,none⟩) dss.length c∧base≤g∧g<N∧g<w.heap.size∧dss.length≤c∧(∀i,i<dss.length→w.cell? ⟨g,i,none⟩=some (V i))∧∀i,w.frozen? ⟨g,i,none⟩=false:=by
 have h2:=h.row;have hlt:=World.ownsRow.lt h2;have hN:=h.lt;rcases h2.2 with ⟨_,hz⟩|⟨g,cap,cur,rfl,hb,hg,hc,_⟩
 · omega
 ·
  refine⟨g,cap,rfl,hb,hN g rfl,(hlt g rfl).2,hc,fun i hi=>?_,fun i=>frozen_of_row w g i _ _ hg⟩;rw[World.ownsRow.cellAt h2 i (by simpa using hi),range_getV V _ i hi]
theorem RdX.kept {w w':World}{base c:Nat}{v:Value}{dss:List (List Dd)}(h:RdX w base v dss)(hg:w.grownBy w' (some c))(hc:c<base):RdX w' base v dss:=by
 obtain⟨a,cap,hv,h⟩:=h;refine⟨a,cap,hv,?_⟩;rcases h with h|⟨b,off,ha,hbb,hb,hl⟩
 · exact .inl h
 ·
  refine .inr ⟨b,off,ha,hbb,Nat.lt_of_lt_of_le hb hg.size,fun i hi=>?_⟩;obtain⟨vi,h1,h2⟩:=hl i hi;have hblk:w'.heap[b]? = w.heap[b]?:=hg.block b hb (by simp;omega);refine⟨vi,?_,h2.kept hg (ne_of_ge h2.ge hc)⟩;simp only[World.cell?,hblk] at h1 ⊢;exact h1
theorem AppX.rdX {w:World}{base N:Nat}{v:Value}{V:Nat→Value}{dss:List (List Dd)}(h:AppX w base N v V dss):RdX w base v dss:=by
 by_cases hn:0<dss.length
 ·
  obtain⟨g,c,rfl,hb,_,hg,_,hc,_⟩:=h.at hn;exact⟨_,_,rfl,.inr ⟨g,0,rfl,hb,hg,fun i hi=>⟨V i,by rw[Nat.zero_add];exact hc i hi,h.each i hi⟩⟩⟩
 ·
  have h0:dss=[]:=List.eq_nil_of_length_eq_zero (by omega);subst h0;rcases h.row.2 with ⟨rfl,_⟩|⟨g,cap,cur,rfl,_⟩
  · exact⟨none,0,rfl,.inl rfl⟩
  · exact⟨_,_,rfl,.inl rfl⟩
theorem AppX.push {w w1:World}{base N:Nat}{v v' u:Value}{V:Nat→Value}{dss:List (List Dd)}{ds:List Dd}(h:AppX w base N v V dss)(hu:AppD w N u ds)(hb:base≤N)
  (hown:w1.ownsRow base 45 1 v' (dss.length+1) ((List.range dss.length).map V++[u])) (hgrow:w.grownBy w1 v.ownBlock) (hblk:v'.ownBlock=v.ownBlock∨v'.ownBlock=some w.heap.size) (hN:N≤w.heap.size):
  AppX w1 base w1.heap.size v' (fun i=>if i=dss.length then u else V i) (dss++[ds]):=by
 have hl:(dss++[ds]).length=dss.length+1:=by simp
 have hs:=hgrow.size;have vne:∀k,u.ownBlock=some k→v.ownBlock≠some k:=fun k hk e=>by have:=(hu.lt k hk).1;have:=h.lt k e;omega
 have older:∀i,i<dss.length+1→i≠dss.length→i<dss.length:=fun i h1 h2=>by omega
 refine⟨?_,fun k hk=>(World.ownsRow.lt hown k hk).2,fun i hi=>?_,fun i hi k hk=>?_,fun i hi k hk=>?_,fun i j hij hj k hk=>?_⟩
 ·
  rw[hl,List.range_succ,List.map_append]
  have e:(List.range dss.length).map (fun i=>if i=dss.length then u else V i)=(List.range dss.length).map V:=by
   apply List.map_congr_left;intro i hi;rw[List.mem_range] at hi;rw[if_neg (by omega)]
  rw[e]
  simpa using hown
 ·
  rw[hl] at hi;by_cases e:i=dss.length
  ·
   subst e;rw[if_pos rfl,getD_last dss ds []];refine (hu.base_le hb).kept hgrow ?_
   cases hv:u.ownBlock with
   |none=>exact .inl rfl
   |some k=>exact .inr (fun e=>vne k hv e.symm)
  ·
   rw[if_neg e,getD_left dss [ds] i [] (older i hi e)];refine (h.each i (older i hi e)).kept hgrow ?_
   cases hv:(V i).ownBlock with
   |none=>exact .inl rfl
   |some k=>exact .inr (fun e2=>h.out i (older i hi e) k hv e2.symm)
 ·
  rw[hl] at hi;by_cases e:i=dss.length
  ·
   rw[if_pos e] at hk;have:=(hu.lt k hk).2;omega
  ·
   rw[if_neg e] at hk;have:=h.lts i (older i hi e) k hk;omega
 ·
  rw[hl] at hi;by_cases e:i=dss.length
  ·
   rw[if_pos e] at hk;rcases hblk with e2|e2
   · rw[e2];exact vne k hk
   ·
    rw[e2];have:=(hu.lt k hk).2;simp only[ne_eq,Option.some.injEq];omega
  ·
   rw[if_neg e] at hk;rcases hblk with e2|e2
   · rw[e2];exact h.out i (older i hi e) k hk
   ·
    rw[e2];have:=h.lts i (older i hi e) k hk;simp only[ne_eq,Option.some.injEq];omega
 ·
  rw[hl] at hj;rw[if_neg (show i≠dss.length by omega)] at hk;by_cases e:j=dss.length
  ·
   rw[if_pos e];intro e2;have:=(hu.lt k e2).1;have:=h.lts i (by omega) k hk;omega
  ·
   rw[if_neg e];exact h.apart i j hij (by omega) k hk
theorem getD_setW {α:Type}(l:List α)(i j:Nat)(x z:α)(hi:i<l.length):(l.set i x).getD j z=if i=j then x else l.getD j z:=by
 rw[List.getD_eq_getElem?_getD,List.getElem?_set];by_cases e:i=j
 · subst e;rw[if_pos rfl,if_pos hi,if_pos rfl];rfl
 · rw[if_neg e,if_neg e,List.getD_eq_getElem?_getD]
theorem AppX.put {w:World}{base N:Nat}{v:Value}{V:Nat→Value}{dss:List (List Dd)}(h:AppX w base N v V dss){i k g n c:Nat}(hi:i<dss.length)(hV:V i = .slice (some ⟨g,0,none⟩) n c)(hk:k<(dss.getD i []).length)(x:Int):
  ∃ds,ds.length=(dss.getD i []).length∧AppX (w.setCell ⟨g,k*4+3,none⟩ (.int .i64 x)) base N v V (dss.set i ds):=by
 have ob:(V i).ownBlock=some g:=by rw[hV];rfl
 have hg:=grown_put w g (k*4+3) (.int .i64 x);have hap:=h.each i hi;rw[hV] at hap;refine⟨(dss.getD i []).set k (((dss.getD i []).getD k zD).1,((dss.getD i []).getD k zD).2.1,((dss.getD i []).getD k zD).2.2.1,x),by rw[List.length_set],⟨?_,h.lt,fun j hj=>?_,fun j hj=>h.lts j (by simpa using hj),fun j hj=>h.out j (by simpa using hj),fun a b hab hb=>h.apart a b hab (by simpa using hb)⟩⟩
 ·
  rw[List.length_set];refine World.ownsRow.kept h.row hg ?_;exact .inr (h.out i hi g ob)
 ·
  rw[List.length_set] at hj;rw[getD_setW dss i j _ [] hi];by_cases e:i=j
  ·
   subst e;rw[if_pos rfl,hV];exact hap.put hk x
  ·
   rw[if_neg e];refine (h.each j hj).kept hg ?_
   cases hv:(V j).ownBlock with
   |none=>exact .inl rfl
   |some q=>
    refine .inr (fun e2=>?_);simp only[Option.some.injEq] at e2;subst e2;rcases Nat.lt_or_gt_of_ne e with hl|hl
    · exact h.apart i j hl hj q ob hv
    · exact h.apart j i hl hi q hv ob
theorem and255 (a:Int):0≤bits .and .i64 a 255∧bits .and .i64 a 255≤255:=by
 have e:bits .and .i64 a 255=IntKind.i64.wrap (((BitVec.ofInt 64 a &&& BitVec.ofInt 64 255).toNat:Nat):Int):=rfl
 have h:(BitVec.ofInt 64 a &&& BitVec.ofInt 64 255).toNat≤255:=by
  rw[BitVec.toNat_and];exact Nat.and_le_right
 rw[e,IntKind.wrap_i64];omega
def RdB (w:World)(B:Nat)(a:Option Addr)(zs:List Int):Prop:=
 zs.length≤4096∧(zs=[]∨∃b off,a=some ⟨b,off,none⟩∧b<B∧b<w.heap.size∧∀i,i<zs.length→w.cell? ⟨b,off+i,none⟩=some (.int .u8 (zs.getD i 0))∧0≤zs.getD i 0∧zs.getD i 0≤255)
def Cur (w:World)(B g:Nat):Prop:=
 B≤g∧∃(a:Option Addr) (cap:Nat) (zs:List Int) (i:Nat) (h:Int),w.heap[g]? = some (.cells #[.slice a zs.length cap,.int .i64 i,.int .i64 h] 148 (0,0))∧i≤zs.length∧RdB w B a zs
theorem RdB.kept {w w':World}{B:Nat}{a:Option Addr}{zs:List Int}{row:Option Nat}(h:RdB w B a zs)(hg:w.grownBy w' row)(hr:∀k,row=some k→B≤k):RdB w' B a zs:=by
 refine⟨h.1,?_⟩;rcases h.2 with h|⟨b,off,ha,hb,hbs,hc⟩
 · exact .inl h
 ·
  refine .inr ⟨b,off,ha,hb,Nat.lt_of_lt_of_le hbs hg.size,fun i hi=>⟨?_,(hc i hi).2⟩⟩;rw[World.cell?_of_block (w:=w) (hg.block b hbs (fun e=>by have:=hr b e.symm;omega))];exact (hc i hi).1
theorem RdB.up {w w':World}{a:Option Addr}{zs:List Int}(h:RdB w w.heap.size a zs)(k:Keep w w'):RdB w' w'.heap.size a zs:=by
 have h':=h.kept k.grownBy (by simp);refine⟨h'.1,?_⟩;rcases h'.2 with e|⟨b,off,ha,hb,hbs,hc⟩
 · exact .inl e
 · exact .inr ⟨b,off,ha,hbs,hbs,hc⟩
theorem Cur.lt {w:World}{B g:Nat}(h:Cur w B g):g<w.heap.size:=by
 obtain⟨_,a,cap,zs,i,x,hh,_⟩:=h;exact (Array.getElem?_eq_some_iff.1 hh).1
theorem Cur.kept {w w':World}{B g:Nat}{row:Option Nat}(h:Cur w B g)(hg:w.grownBy w' row)(hne:row≠some g)(hr:∀k,row=some k→B≤k):Cur w' B g:=by
 have hlt:=h.lt;obtain⟨hB,a,cap,zs,i,x,hh,hi,hb⟩:=h;exact⟨hB,a,cap,zs,i,x,by rw[hg.block g hlt (fun e=>hne e.symm)];exact hh,hi,hb.kept hg hr⟩
theorem Cur.keep {w w':World}{B g:Nat}(h:Cur w B g)(k:Keep w w'):Cur w' B g:=h.kept k.grownBy (by simp) (by simp)
def CurI (w:World)(B g:Nat)(a:Option Addr)(cap:Nat)(zs:List Int)(i h:Int):Prop:=
 B≤g∧w.heap[g]? = some (.cells #[.slice a zs.length cap,.int .i64 i,.int .i64 h] 148 (0,0))∧RdB w B a zs
theorem CurI.cur {w:World}{B g:Nat}{a:Option Addr}{cap:Nat}{zs:List Int}{i h:Int}(c:CurI w B g a cap zs i h)(h0:0≤i)(hi:i≤zs.length):Cur w B g:=by
 obtain⟨n,rfl⟩:=Int.eq_ofNat_of_zero_le h0;exact⟨c.1,a,cap,zs,n,h,c.2.1,by omega,c.2.2⟩
theorem grown_setCell (w:World)(g j:Nat)(v:Value):w.grownBy (w.setCell ⟨g,j,none⟩ v) (some g):=
 ⟨rfl,rfl,rfl,by simp,fun k _ hk=>heap_setCell_other w ⟨g,j,none⟩ k v (fun e=>hk (by simp[e]))⟩
theorem CurI.seth {w:World}{B g:Nat}{a:Option Addr}{cap:Nat}{zs:List Int}{i h:Int}(c:CurI w B g a cap zs i h)(y:Int):CurI (w.setCell ⟨g,2,none⟩ (.int .i64 y)) B g a cap zs i y:=
 ⟨c.1,by rw[heap_setCell_same w g 2 _ _ _ c.2.1];rfl,c.2.2.kept (grown_setCell w g 2 _) (by intro k hk;simp at hk;subst hk;exact c.1)⟩
theorem CurI.seti {w:World}{B g:Nat}{a:Option Addr}{cap:Nat}{zs:List Int}{i h:Int}(c:CurI w B g a cap zs i h)(y:Int):CurI (w.setCell ⟨g,1,none⟩ (.int .i64 y)) B g a cap zs y h:=
 ⟨c.1,by rw[heap_setCell_same w g 1 _ _ _ c.2.1];rfl,c.2.2.kept (grown_setCell w g 1 _) (by intro k hk;simp at hk;subst hk;exact c.1)⟩
theorem grown_drewN (w:World)(n:Nat)(row:Option Nat):w.grownBy (w.drewN n) row:=⟨rfl,rfl,rfl,Nat.le_refl _,fun _ _ _=>rfl⟩
theorem CurI.drewN {w:World}{B g:Nat}{a:Option Addr}{cap:Nat}{zs:List Int}{i h:Int}(c:CurI w B g a cap zs i h)(n:Nat):CurI (w.drewN n) B g a cap zs i h:=
 ⟨c.1,c.2.1,c.2.2.kept (row:=none) (grown_drewN w n none) (by simp)⟩
theorem byte_any (w:World)(B g:Nat)(hc:Cur w B g):
  Calls Tryz.prog 187 #[.pointer (some ⟨g,0,none⟩)] w fun e w'=>∃x,e = .returned (.int .i64 x)∧0≤x∧x≤255∧Cur w' B g∧w.grownBy w' (some g):=by
 obtain⟨hB,a,cap,zs,i,x,hh,hi,hb⟩:=hc;have C:CurI w B g a cap zs i x:=⟨hB,hh,hb⟩;have c0:w.cell? ⟨g,0,none⟩=some (.slice a zs.length cap):=by rw[cell_of_row w g 0 _ _ (0,0) hh];rfl
 have c1:w.cell? ⟨g,1,none⟩=some (.int .i64 i):=by rw[cell_of_row w g 1 _ _ (0,0) hh];rfl
 have c2:w.cell? ⟨g,2,none⟩=some (.int .i64 x):=by rw[cell_of_row w g 2 _ _ (0,0) hh];rfl
 have f1:w.frozen? ⟨g,1,none⟩=false:=frozen_of_row w g 1 _ _ hh;have f2:w.frozen? ⟨g,2,none⟩=false:=frozen_of_row w g 2 _ _ hh;clear hh;have hzl:=hb.1;by_cases hlt:i<zs.length
 ·
  rcases hb.2 with h|⟨b,off,rfl,hbB,hbs,hcc⟩
  · exfalso;rw[h] at hlt;simp at hlt
  obtain⟨d1,d2,d3⟩:=hcc i hlt;have hbg:b≠g:=by omega
  obtain⟨q,hq⟩:∃q,q=zs.getD i 0:=⟨_,rfl⟩;rw[←hq] at d1 d2 d3;clear hcc hq hb;go_enter Tryz.func187,Tryz.ntmps187
  go_wp2;go_quiet (fail)
  go_wp2;go_quiet (fail)
  go_wp2;go_quiet (fail)
  go_wp2;go_ret;exact⟨_,rfl,(and255 _).1,(and255 _).2,(((C.seth _).drewN _).seti _).cur (by omega) (by omega),grown_trans (grown_trans (grown_setCell w g 2 _) (grown_drewN _ _ _)) (grown_setCell _ g 1 _)⟩
 ·
  clear hb;go_enter Tryz.func187,Tryz.ntmps187
  go_wp2;go_quiet (fail)
  go_wp2;go_quiet (fail)
  go_wp2;go_ret;exact⟨_,rfl,(and255 _).1,(and255 _).2,(((C.seth _).drewN _).drewN _).cur (by omega) (by omega),grown_trans (grown_trans (grown_setCell w g 2 _) (grown_drewN _ _ _)) (grown_drewN _ _ _)⟩
theorem new_any (w:World)(a:Option Addr)(cap:Nat)(zs:List Int)(hb:RdB w w.heap.size a zs):
  Calls Tryz.prog 91 #[.slice a zs.length cap] w fun e w'=>e = .returned (.pointer (some ⟨w.heap.size,0,none⟩))∧Cur w' w.heap.size w.heap.size∧Keep w w':=by
 have hzl:=hb.1;go_enter Tryz.func91,Tryz.ntmps91
 go_wp2;go_loop [3,4] (fun x i=>∃(k:Nat) (h:Int),k≤zs.length∧i = .int .i64 k∧x = .int .i64 h) (fun _ i=>zs.length-(intOf i).toNat)
 case atStart=>exact⟨0,_,Nat.zero_le _,rfl,rfl⟩
 case round=>
  obtain⟨k,h,hk,rfl,rfl⟩:=hrel;by_cases hlt:k<zs.length
  ·
   rcases hb.2 with h|⟨b,off,rfl,hbB,hbs,hcc⟩
   · exfalso;rw[h] at hlt;simp at hlt
   obtain⟨d1,d2,d3⟩:=hcc k hlt;obtain⟨q,hq⟩:∃q,q=zs.getD k 0:=⟨_,rfl⟩;rw[←hq] at d1 d2 d3;clear hcc hq;go_wp2;go_round
   case rel=>exact⟨k+1,_,by omega,by go_num,rfl⟩
   case measure=>simp[intOf];omega
  ·
   go_wp2;go_ret;refine⟨rfl,⟨Nat.le_refl _,a,cap,zs,0,h,heap_alloc_new w _,Nat.zero_le _,?_⟩,(Keep.refl w).alloc _⟩;exact hb.kept (World.grownBy_alloc w _ none) (by simp)
theorem emod_lt' {x n:Int}(h1:1≤n):0≤x % n∧x % n<n:=⟨Int.emod_nonneg x (by omega),Int.emod_lt_of_pos x (by omega)⟩
theorem below_any (w:World)(B g:Nat)(n:Int)(hc:Cur w B g)(h1:1≤n):
  Calls Tryz.prog 145 #[.pointer (some ⟨g,0,none⟩),.int .i64 n] w fun e w'=>∃x,e = .returned (.int .i64 x)∧0≤x∧x<n∧Cur w' B g∧w.grownBy w' (some g):=by
 by_cases h2:n≤256
 ·
  go_enter Tryz.func145,Tryz.ntmps145
  go_wp2_with fail
  refine (byte_any _ B g hc).mono ?_;rintro e w1 ⟨x,rfl,x0,x1,c1,g1⟩;go_wp2;go_ret;exact⟨_,rfl,(emod_lt' h1).1,(emod_lt' h1).2,c1,g1⟩
 ·
  go_enter Tryz.func145,Tryz.ntmps145
  go_wp2_with fail
  refine (byte_any _ B g hc).mono ?_;rintro e w1 ⟨x,rfl,x0,x1,c1,g1⟩;go_wp2_with fail
  refine (byte_any _ B g c1).mono ?_;rintro e w2 ⟨y,rfl,y0,y1,c2,g2⟩;go_wp2_with fail
  refine (byte_any _ B g c2).mono ?_;rintro e w3 ⟨z,rfl,z0,z1,c3,g3⟩;go_wp2_with fail
  refine (byte_any _ B g c3).mono ?_;rintro e w4 ⟨u,rfl,u0,u1,c4,g4⟩;go_wp2;go_ret;exact⟨_,rfl,(emod_lt' h1).1,(emod_lt' h1).2,c4,grown_trans (grown_trans (grown_trans g1 g2) g3) g4⟩
theorem once_any (w:World)(B g:Nat)(n:Int)(hc:Cur w B g)(h1:1≤n):
  Calls Tryz.prog 144 #[.pointer (some ⟨g,0,none⟩),.int .i64 n] w fun e w'=>∃b:Bool,e = .returned (.bool b)∧Cur w' B g∧w.grownBy w' (some g):=by
 go_enter Tryz.func144,Tryz.ntmps144
 go_wp2_with fail
 refine (below_any _ B g _ hc h1).mono ?_;rintro e w1 ⟨x,rfl,x0,x1,c1,g1⟩;go_wp2;go_ret;exact⟨_,rfl,c1,g1⟩
theorem lit_int {w1 w2:World}{e:TypeId}{row:Option Nat}(l:List Int)(hg:(w1.alloc (.cells (l.map (Value.int .i64)).toArray e)).grownBy w2 row)(hne:row≠some w1.heap.size)(j:Nat)(hj:j<l.length):
  ∃y,w2.cell? ⟨w1.heap.size,j,none⟩=some (.int .i64 y):=by
 refine⟨l[j],?_⟩;have h1:=heap_alloc_new w1 (.cells (l.map (Value.int .i64)).toArray e);rw[World.cell?_of_block (w:=w1.alloc (.cells (l.map (Value.int .i64)).toArray e)) (hg.block w1.heap.size (by simp) (fun e=>hne e.symm)),cell_of_row _ _ j _ _ _ h1];simp[hj]
theorem rdb_of_row {w:World}{a:Option Addr}{len cap:Nat}{ys:List Int}(hlen:len≤4096)
  (h:(a=none∧len=0∧cap=0∧ys=[])∨∃x,a=some x∧len≤cap∧cap≤maxLen∧ys.length=cap∧(∀i,i<ys.length→w.cell? (x.add i)=some (.int .u8 (ys.getD i 0)))∧∀n∈ys,(Lit.int .u8 n).wf=true):
  ∃zs:List Int,zs.length=len∧RdB w w.heap.size a zs:=by
 rcases h with ⟨rfl,rfl,rfl,rfl⟩|⟨x,rfl,hl,hm,hy,hc,hw⟩
 · exact⟨[],rfl,by simp,.inl rfl⟩
 ·
  have hzl:(ys.take len).length=len:=by rw[List.length_take];omega
  refine⟨ys.take len,hzl,by omega,?_⟩;by_cases h0:len=0
  · left;subst h0;simp
  ·
   right;obtain⟨b,off,spot⟩:=x;have hc0:=hc 0 (by omega);have hspot:spot=none:=by simpa [Addr.add] using World.cell?_spot hc0
   subst hspot
   have hcc:∀i,i<(ys.take len).length→w.cell? ⟨b,off+i,none⟩=some (.int .u8 ((ys.take len).getD i 0))∧0≤(ys.take len).getD i 0∧(ys.take len).getD i 0≤255:=by
    intro i hi;have hi':i<ys.length:=by omega
    have h1:=hc i hi';have e1:(⟨b,off,none⟩:Addr).add i=⟨b,off+i,none⟩:=by unfold Addr.add;split<;>simp_all
    rw[e1] at h1
    have e2:(ys.take len).getD i 0=ys.getD i 0:=by
     rw[List.getD_eq_getElem?_getD,List.getD_eq_getElem?_getD,List.getElem?_take,if_pos (by omega)]
    rw[e2];refine⟨h1,?_⟩;have hm:ys.getD i 0∈ys:=by rw[List.getD_eq_getElem?_getD,List.getElem?_eq_getElem hi'];exact List.getElem_mem hi'
    have:=bounds_u8 (hw _ hm);omega
   refine⟨b,off,rfl,?_,?_,hcc⟩
   all_goals
    have h2:=(hcc 0 (by omega)).1;apply Classical.byContradiction;intro hnb;have h3:w.heap[b]? = none:=by simp;omega
    simp[World.cell?,h3] at h2
theorem from_any (w:World)(B g:Nat)(lo hi:Int)(hc:Cur w B g)(h0:-1099511627776≤lo)(h1:lo≤hi)(h2:hi≤1099511627776):
  Calls Tryz.prog 162 #[.pointer (some ⟨g,0,none⟩),.int .i64 lo,.int .i64 hi] w fun e w'=>∃x,e = .returned (.int .i64 x)∧lo≤x∧x≤hi∧Cur w' B g∧w.grownBy w' (some g):=by
 go_enter Tryz.func162,Tryz.ntmps162
 go_wp2_with fail
 refine (below_any _ B g _ hc (by omega)).mono ?_;rintro e w1 ⟨x,rfl,x0,x1,c1,g1⟩;go_wp2;go_ret;exact⟨_,rfl,by omega,by omega,c1,g1⟩
abbrev deedC (k p v g:Int):Obj:= .cells #[.int .i64 k,.int .i64 p,.int .i64 v,.int .i64 g] 50
def St (w1 wr:World)(D:Nat)(k p v g:Int):Prop:=wr.heap[D]? = some (deedC k p v g)∧w1.grownBy wr (some D)
theorem St.start {w1:World}(k p v g:Int):St w1 (w1.alloc (deedC k p v g)) w1.heap.size k p v g:=
 ⟨heap_alloc_new w1 _,World.grownBy_alloc w1 _ (some w1.heap.size)⟩
theorem St.size {w1 wr:World}{D:Nat}{k p v g:Int}(h:St w1 wr D k p v g):D<wr.heap.size:=(Array.getElem?_eq_some_iff.1 h.1).1
theorem St.keep {w1 wr wr':World}{D:Nat}{k p v g:Int}(h:St w1 wr D k p v g)(hk:Keep wr wr'):St w1 wr' D k p v g:=
 ⟨(Below.block hk D h.size).trans h.1,grown_trans h.2 ⟨Below.os hk,Below.tape hk,Below.output hk,Below.size hk,fun i hi _=>Below.block hk i hi⟩⟩
theorem St.cells {w1 wr:World}{D:Nat}{k p v g:Int}(h:St w1 wr D k p v g):
  wr.cell? ⟨D,0,none⟩=some (.int .i64 k)∧wr.cell? ⟨D,1,none⟩=some (.int .i64 p)∧wr.cell? ⟨D,2,none⟩=some (.int .i64 v)∧wr.cell? ⟨D,3,none⟩=some (.int .i64 g):=
 ⟨cell_of_row wr D 0 _ _ (0,0) h.1,cell_of_row wr D 1 _ _ (0,0) h.1,cell_of_row wr D 2 _ _ (0,0) h.1,cell_of_row wr D 3 _ _ (0,0) h.1⟩
theorem St.free {w1 wr:World}{D:Nat}{k p v g:Int}(h:St w1 wr D k p v g)(i:Nat):wr.frozen? ⟨D,i,none⟩=false:=frozen_of_row wr D i _ _ h.1
theorem St.set0 {w1 wr:World}{D:Nat}{k p v g:Int}(h:St w1 wr D k p v g)(x:Int):St w1 (wr.setCell ⟨D,0,none⟩ (.int .i64 x)) D x p v g:=
 ⟨by rw[heap_setCell_same wr D 0 _ _ _ h.1];rfl,grown_trans h.2 ⟨rfl,rfl,rfl,by simp,fun i _ hi=>heap_setCell_other wr ⟨D,0,none⟩ i _ (fun e=>hi (by simp[e]))⟩⟩
theorem St.set1 {w1 wr:World}{D:Nat}{k p v g:Int}(h:St w1 wr D k p v g)(x:Int):St w1 (wr.setCell ⟨D,1,none⟩ (.int .i64 x)) D k x v g:=
 ⟨by rw[heap_setCell_same wr D 1 _ _ _ h.1];rfl,grown_trans h.2 ⟨rfl,rfl,rfl,by simp,fun i _ hi=>heap_setCell_other wr ⟨D,1,none⟩ i _ (fun e=>hi (by simp[e]))⟩⟩
theorem St.set2 {w1 wr:World}{D:Nat}{k p v g:Int}(h:St w1 wr D k p v g)(x:Int):St w1 (wr.setCell ⟨D,2,none⟩ (.int .i64 x)) D k p x g:=
 ⟨by rw[heap_setCell_same wr D 2 _ _ _ h.1];rfl,grown_trans h.2 ⟨rfl,rfl,rfl,by simp,fun i _ hi=>heap_setCell_other wr ⟨D,2,none⟩ i _ (fun e=>hi (by simp[e]))⟩⟩
theorem St.set3 {w1 wr:World}{D:Nat}{k p v g:Int}(h:St w1 wr D k p v g)(x:Int):St w1 (wr.setCell ⟨D,3,none⟩ (.int .i64 x)) D k p v x:=
 ⟨by rw[heap_setCell_same wr D 3 _ _ _ h.1];rfl,grown_trans h.2 ⟨rfl,rfl,rfl,by simp,fun i _ hi=>heap_setCell_other wr ⟨D,3,none⟩ i _ (fun e=>hi (by simp[e]))⟩⟩
theorem St.keep1 {w1 wr:World}{k p v g:Int}(h:St w1 wr w1.heap.size k p v g):Keep w1 wr:=
 (Keep.refl w1).grown h.2 (fun k hk=>by simp at hk;omega)
def Box (w:World)(D:Nat)(k p v g:Int):Prop:=w.heap[D]? = some (deedC k p v g)
theorem Box.lt {w:World}{D:Nat}{k p v g:Int}(h:Box w D k p v g):D<w.heap.size:=(Array.getElem?_eq_some_iff.1 h).1
theorem Box.kept {w w':World}{D:Nat}{k p v g:Int}{row:Option Nat}(h:Box w D k p v g)(hg:w.grownBy w' row)(hne:row≠some D):Box w' D k p v g:=
 (hg.block D h.lt (fun e=>hne e.symm)).trans h
theorem Box.cells {w:World}{D:Nat}{k p v g:Int}(h:Box w D k p v g):
  w.cell? ⟨D,0,none⟩=some (.int .i64 k)∧w.cell? ⟨D,1,none⟩=some (.int .i64 p)∧w.cell? ⟨D,2,none⟩=some (.int .i64 v)∧w.cell? ⟨D,3,none⟩=some (.int .i64 g):=
 ⟨cell_of_row w D 0 _ _ (0,0) h,cell_of_row w D 1 _ _ (0,0) h,cell_of_row w D 2 _ _ (0,0) h,cell_of_row w D 3 _ _ (0,0) h⟩
theorem Box.free {w:World}{D:Nat}{k p v g:Int}(h:Box w D k p v g):w.frozen? ⟨D,0,none⟩=false∧w.frozen? ⟨D,1,none⟩=false∧w.frozen? ⟨D,2,none⟩=false∧w.frozen? ⟨D,3,none⟩=false:=
 ⟨frozen_of_row w D 0 _ _ h,frozen_of_row w D 1 _ _ h,frozen_of_row w D 2 _ _ h,frozen_of_row w D 3 _ _ h⟩
theorem Box.set0 {w:World}{D:Nat}{k p v g:Int}(h:Box w D k p v g)(x:Int):Box (w.setCell ⟨D,0,none⟩ (.int .i64 x)) D x p v g:=by unfold Box;rw[heap_setCell_same w D 0 _ _ _ h];rfl
theorem Box.set1 {w:World}{D:Nat}{k p v g:Int}(h:Box w D k p v g)(x:Int):Box (w.setCell ⟨D,1,none⟩ (.int .i64 x)) D k x v g:=by unfold Box;rw[heap_setCell_same w D 1 _ _ _ h];rfl
theorem Box.set2 {w:World}{D:Nat}{k p v g:Int}(h:Box w D k p v g)(x:Int):Box (w.setCell ⟨D,2,none⟩ (.int .i64 x)) D k p x g:=by unfold Box;rw[heap_setCell_same w D 2 _ _ _ h];rfl
theorem Box.set3 {w:World}{D:Nat}{k p v g:Int}(h:Box w D k p v g)(x:Int):Box (w.setCell ⟨D,3,none⟩ (.int .i64 x)) D k p v x:=by unfold Box;rw[heap_setCell_same w D 3 _ _ _ h];rfl
theorem Box.new (w:World)(k p v g:Int):Box (w.alloc (deedC k p v g)) w.heap.size k p v g:=heap_alloc_new w _
def Dr (w wr:World)(B c:Nat):Prop:=Cur wr B c∧w.grownBy wr (some c)
theorem Dr.step {w wr wr':World}{B c:Nat}(h:Dr w wr B c)(hc:Cur wr' B c)(hg:wr.grownBy wr' (some c)):Dr w wr' B c:=⟨hc,grown_trans h.2 hg⟩
theorem Dr.alloc {w wr:World}{B c:Nat}(h:Dr w wr B c)(o:Obj):Dr w (wr.alloc o) B c:=
 ⟨h.1.keep ((Keep.refl wr).alloc o),grown_trans h.2 (World.grownBy_alloc wr o (some c))⟩
theorem Dr.set {w wr:World}{B c D:Nat}(h:Dr w wr B c)(hD:w.heap.size≤D)(hc:c<w.heap.size)(hB:B≤c)(j:Nat)(x:Value):Dr w (wr.setCell ⟨D,j,none⟩ x) B c:=by
 have hg:=grown_setCell wr D j x;refine⟨h.1.kept hg (by simp;omega) (by intro k hk;simp at hk;omega),?_⟩;exact⟨hg.os.trans h.2.os,hg.tape.trans h.2.tape,hg.output.trans h.2.output,Nat.le_trans h.2.size hg.size,fun i hi hne=>(hg.block i (Nat.lt_of_lt_of_le hi h.2.size) (by simp;omega)).trans (h.2.block i hi hne)⟩
theorem Dr.refl {w:World}{B c:Nat}(h:Cur w B c):Dr w w B c:=⟨h,grown_drewN w 0 _⟩
theorem l4Draw_any (w:World)(B c:Nat)(hc:Cur w B c):
  Calls Tryz.prog 212 #[.pointer (some ⟨c,0,none⟩)] w fun e w'=>∃k p v g,e = .returned (deedV k p v g)∧Dr w w' B c∧1≤k∧k≤4:=by
 have hcl:=hc.lt;have hB:=hc.1;have R0:=Box.new w 0 0 0 0;have D0:=(Dr.refl hc).alloc (deedC 0 0 0 0);go_enter Tryz.func212,Tryz.ntmps212
 go_wp2_with fail
 refine (below_any _ B c _ D0.1 (by omega)).mono ?_;rintro e w1 ⟨x,rfl,x0,x1,c1,g1⟩;have R1:=R0.kept g1 (by simp;omega);have D1:=D0.step c1 g1;clear R0 D0 c1 g1;go_wp2_with fail
 refine (below_any _ B c _ D1.1 (by omega)).mono ?_;rintro e w2 ⟨y,rfl,y0,y1,c2,g2⟩;have R2:=R1.kept g2 (by simp;omega);have D2:=D1.step c2 g2;have S2:=D2.2.size;clear R1 D1 c2 g2;have X2:=Box.new w2 (1+x) y 0 0;have R2':=R2.kept (World.grownBy_alloc w2 (deedC (1+x) y 0 0) none) (by simp);have D2':=D2.alloc (deedC (1+x) y 0 0);have hRX:w.heap.size<w2.heap.size:=R2.lt;clear R2 D2;go_wp2_with fail
 refine (once_any _ B c _ D2'.1 (by omega)).mono ?_;rintro e w3 ⟨b,rfl,c3,g3⟩;have X3:=X2.kept g3 (by simp;omega);have R3:=R2'.kept g3 (by simp;omega);have D3:=D2'.step c3 g3;clear X2 R2' D2' c3 g3;obtain⟨s0,s1,s2,s3⟩:=X3.cells;obtain⟨f0,f1,f2,f3⟩:=X3.free;have hX3:=X3.lt;go_upto_if 11 with fail
 go_cut [] from 4 (fun wx=>∃K,1≤K∧K≤4∧Box wx w2.heap.size K y 0 0∧Box wx w.heap.size 0 0 0 0∧Dr w wx B c)
 case first=>
  cases b
  ·
   go_wp2;go_meet;case rel=>exact⟨_,by omega,by omega,X3,R3,D3⟩
  ·
   go_wp2_with fail
   refine (below_any _ B c _ D3.1 (by omega)).mono ?_;rintro e w4 ⟨z,rfl,z0,z1,c4,g4⟩;have X4:=X3.kept g4 (by simp;omega);have R4:=R3.kept g4 (by simp;omega);have D4:=D3.step c4 g4;obtain⟨t0,t1,t2,t3⟩:=X4.cells;obtain⟨h0,h1,h2,h3⟩:=X4.free;have hX4:=X4.lt;go_wp2;go_meet;case rel=>exact⟨_,by omega,by omega,X4.set0 _,R4.kept (grown_setCell w4 _ 0 _) (by simp;omega),D4.set (by omega) hcl hB 0 _⟩
 case rest=>
  obtain⟨K,k0,k1,X4,R4,D4⟩:=hcut;clear X3 R3 D3 s0 s1 s2 s3 f0 f1 f2 f3 hX3;obtain⟨t0,t1,t2,t3⟩:=X4.cells;obtain⟨h0,h1,h2,h3⟩:=X4.free;have hX4:=X4.lt;have hK:K=1∨K=2∨K=3∨K=4:=by omega
  rcases hK with rfl|rfl|rfl|rfl
  ·
   clear k0 k1;obtain⟨r0,r1,r2,r3⟩:=R4.cells;obtain⟨q0,q1,q2,q3⟩:=R4.free;go_wp2;have hZ:=(((R4.set0 1).set1 y).set2 0).set3 0;refine bodyPost_ret (results_row (by rfl) _ _ w.heap.size _ _ (0,0) _ rfl hZ Tryz.underlying50 rfl (by kernel_rfl)) rfl ?_;exact⟨_,_,_,_,rfl,(((D4.set (Nat.le_refl _) hcl hB 0 _).set (Nat.le_refl _) hcl hB 1 _).set (Nat.le_refl _) hcl hB 2 _).set (Nat.le_refl _) hcl hB 3 _,by decide,by decide⟩
  ·
   clear k0 k1;go_wp2_with fail
   refine (below_any _ B c _ D4.1 (by omega)).mono ?_;rintro e w5 ⟨z,rfl,z0,z1,c5,g5⟩;have X5:=X4.kept g5 (by simp;omega);have R5:=R4.kept g5 (by simp;omega);have D5:=D4.step c5 g5;obtain⟨v0,v1,v2,v3⟩:=X5.cells;obtain⟨n0,n1,n2,n3⟩:=X5.free;have hX5:=X5.lt;have R6:=R5.kept (grown_setCell w5 w2.heap.size 2 (.int .i64 (1+z))) (by simp;omega);have D6:=D5.set (show w.heap.size≤w2.heap.size by omega) hcl hB 2 (.int .i64 (1+z));obtain⟨r0,r1,r2,r3⟩:=R6.cells;obtain⟨q0,q1,q2,q3⟩:=R6.free;go_wp2;have hZ:=(((R6.set0 2).set1 y).set2 (1+z)).set3 0;refine bodyPost_ret (results_row (by rfl) _ _ w.heap.size _ _ (0,0) _ rfl hZ Tryz.underlying50 rfl (by kernel_rfl)) rfl ?_;exact⟨_,_,_,_,rfl,(((D6.set (Nat.le_refl _) hcl hB 0 _).set (Nat.le_refl _) hcl hB 1 _).set (Nat.le_refl _) hcl hB 2 _).set (Nat.le_refl _) hcl hB 3 _,by decide,by decide⟩
  ·
   clear k0 k1;go_wp2_with fail
   refine (below_any _ B c _ D4.1 (by omega)).mono ?_;rintro e w5 ⟨z,rfl,z0,z1,c5,g5⟩;have X5:=X4.kept g5 (by simp;omega);have R5:=R4.kept g5 (by simp;omega);have D5:=D4.step c5 g5;obtain⟨v0,v1,v2,v3⟩:=X5.cells;obtain⟨n0,n1,n2,n3⟩:=X5.free;have hX5:=X5.lt;have R6:=R5.kept (grown_setCell w5 w2.heap.size 2 (.int .i64 (1+z))) (by simp;omega);have D6:=D5.set (show w.heap.size≤w2.heap.size by omega) hcl hB 2 (.int .i64 (1+z));obtain⟨r0,r1,r2,r3⟩:=R6.cells;obtain⟨q0,q1,q2,q3⟩:=R6.free;go_wp2;have hZ:=(((R6.set0 3).set1 y).set2 (1+z)).set3 0;refine bodyPost_ret (results_row (by rfl) _ _ w.heap.size _ _ (0,0) _ rfl hZ Tryz.underlying50 rfl (by kernel_rfl)) rfl ?_;exact⟨_,_,_,_,rfl,(((D6.set (Nat.le_refl _) hcl hB 0 _).set (Nat.le_refl _) hcl hB 1 _).set (Nat.le_refl _) hcl hB 2 _).set (Nat.le_refl _) hcl hB 3 _,by decide,by decide⟩
  ·
   clear k0 k1;have R6:=R4.kept (grown_setCell wc w2.heap.size 1 (.int .i64 0)) (by simp;omega);have D6:=D4.set (show w.heap.size≤w2.heap.size by omega) hcl hB 1 (.int .i64 0);obtain⟨r0,r1,r2,r3⟩:=R6.cells;obtain⟨q0,q1,q2,q3⟩:=R6.free;go_wp2;have hZ:=(((R6.set0 4).set1 0).set2 0).set3 0;refine bodyPost_ret (results_row (by rfl) _ _ w.heap.size _ _ (0,0) _ rfl hZ Tryz.underlying50 rfl (by kernel_rfl)) rfl ?_;exact⟨_,_,_,_,rfl,(((D6.set (Nat.le_refl _) hcl hB 0 _).set (Nat.le_refl _) hcl hB 1 _).set (Nat.le_refl _) hcl hB 2 _).set (Nat.le_refl _) hcl hB 3 _,by decide,by decide⟩
theorem l4DrawAny_any (w:World)(B c:Nat)(hc:Cur w B c):
  Calls Tryz.prog 198 #[.pointer (some ⟨c,0,none⟩)] w fun e w'=>∃k p v g,e = .returned (deedV k p v g)∧Dr w w' B c:=by
 have hcl:=hc.lt;have hB:=hc.1;have R0:=Box.new w 0 0 0 0;have D0:=(Dr.refl hc).alloc (deedC 0 0 0 0);go_enter Tryz.func198,Tryz.ntmps198
 go_wp2_with fail
 refine (l4Draw_any _ B c D0.1).mono ?_;rintro e w1 ⟨k,p,v,g,rfl,⟨c1,g1⟩,-,-⟩;have R1:=R0.kept g1 (by simp;omega);have D1:=D0.step c1 g1;clear R0 D0 c1 g1;have hRX:w.heap.size<w1.heap.size:=R1.lt;have X2:=Box.new w1 k p v g;have R2:=R1.kept (World.grownBy_alloc w1 (deedC k p v g) none) (by simp);have D2:=D1.alloc (deedC k p v g);clear R1 D1;obtain⟨W2,hW2⟩:∃W2,W2=w1.alloc (deedC k p v g):=⟨_,rfl⟩;go_upto_region 2 with fail
 go_cut [12] from 4 (fun s12 wx=>∃b,s12 = .bool b∧Box wx w1.heap.size k p v g∧Box wx w.heap.size 0 0 0 0∧Dr w wx B c)
 case first=>
  clear hW2;by_cases hk:k≤2
  ·
   go_wp2_with fail
   refine (once_any _ B c _ D2.1 (by omega)).mono ?_;rintro e w3 ⟨b,rfl,c3,g3⟩;go_wp2;go_meet;case rel=>exact⟨_,rfl,X2.kept g3 (by simp;omega),R2.kept g3 (by simp;omega),D2.step c3 g3⟩
  ·
   go_wp2;go_meet;case rel=>exact⟨_,rfl,X2,R2,D2⟩
 case rest=>
  obtain⟨b,rfl,X3,R3,D3⟩:=hcut;clear X2 R2 D2 hW2;go_upto_if 12 with fail
  go_cut [] from 4 (fun wx=>∃g,Box wx w1.heap.size k p v g∧Box wx w.heap.size 0 0 0 0∧Dr w wx B c)
  case first=>
   cases b
   ·
    go_wp2;go_meet;case rel=>exact⟨_,X3,R3,D3⟩
   ·
    go_wp2_with fail
    refine (below_any _ B c _ D3.1 (by omega)).mono ?_;rintro e w4 ⟨z,rfl,z0,z1,c4,g4⟩;have X4:=X3.kept g4 (by simp;omega);have R4:=R3.kept g4 (by simp;omega);have D4:=D3.step c4 g4;obtain⟨t0,t1,t2,t3⟩:=X4.cells;obtain⟨h0,h1,h2,h3⟩:=X4.free;have hX4:=X4.lt;go_wp2;go_meet;case rel=>exact⟨_,X4.set3 _,R4.kept (grown_setCell w4 _ 3 _) (by simp;omega),D4.set (by omega) hcl hB 3 _⟩
  case rest=>
   clear X3 R3 D3;obtain⟨g,X3,R3,D3⟩:=hcut;go_wp2_with fail
   refine (once_any _ B c _ D3.1 (by omega)).mono ?_;rintro e w4 ⟨b,rfl,c4,g4⟩;have X4:=X3.kept g4 (by simp;omega);have R4:=R3.kept g4 (by simp;omega);have D4:=D3.step c4 g4;clear X3 R3 D3 c4 g4;go_upto_if 18 with fail
   go_cut [] from 4 (fun wx=>∃k p v g,Box wx w1.heap.size k p v g∧Box wx w.heap.size 0 0 0 0∧Dr w wx B c)
   case first=>
    cases b
    ·
     go_wp2;go_meet;case rel=>exact⟨_,_,_,_,X4,R4,D4⟩
    go_wp2_with fail
    refine (below_any _ B c _ D4.1 (by omega)).mono ?_;rintro e w5 ⟨q,rfl,q0,q1,c5,g5⟩;have X5:=X4.kept g5 (by simp;omega);have R5:=R4.kept g5 (by simp;omega);have D5:=D4.step c5 g5;have hX5:=X5.lt;clear X4 R4 D4 c5 g5;have hq:q=0∨q=1∨q=2∨q=3:=by omega
    clear q0 q1;rcases hq with rfl|rfl|rfl|rfl
    ·
     go_wp2_with fail
     refine (from_any _ B c _ _ D5.1 (by omega) (by omega) (by omega)).mono ?_;rintro e w6 ⟨z,rfl,z0,z1,c6,g6⟩;have X6:=X5.kept g6 (by simp;omega);have R6:=R5.kept g6 (by simp;omega);have D6:=D5.step c6 g6;obtain⟨v0,v1,v2,v3⟩:=X6.cells;obtain⟨n0,n1,n2,n3⟩:=X6.free;have hX6:=X6.lt;go_wp2;go_meet;case rel=>exact⟨_,_,_,_,X6.set0 _,R6.kept (grown_setCell w6 _ 0 _) (by simp;omega),D6.set (by omega) hcl hB 0 _⟩
    ·
     have DL:=D5.alloc (.cells #[.int .i64 (-1),.int .i64 2,.int .i64 3] 2);have XL:=X5.kept (World.grownBy_alloc w5 (.cells #[.int .i64 (-1),.int .i64 2,.int .i64 3] 2) none) (by simp);have RL:=R5.kept (World.grownBy_alloc w5 (.cells #[.int .i64 (-1),.int .i64 2,.int .i64 3] 2) none) (by simp);have hSz:=heap_size w5 (.cells #[.int .i64 (-1),.int .i64 2,.int .i64 3] 2);go_wp2_with fail
     refine (below_any _ B c _ DL.1 (by omega)).mono ?_;rintro e w6 ⟨z,rfl,z0,z1,c6,g6⟩;obtain⟨zn,rfl⟩:=Int.eq_ofNat_of_zero_le z0;obtain⟨y,hy⟩:=lit_int (w1:=w5) (e:=2) [-1,2,3] g6 (by simp;omega) zn (by simp;omega);have hS6:w5.heap.size<w6.heap.size:=by have:=g6.size;omega
     have X6:=XL.kept g6 (by simp;omega);have R6:=RL.kept g6 (by simp;omega);have D6:=DL.step c6 g6;clear DL XL RL hSz c6 g6;obtain⟨v0,v1,v2,v3⟩:=X6.cells;obtain⟨n0,n1,n2,n3⟩:=X6.free;have hX6:=X6.lt;go_wp2;go_meet;case rel=>exact⟨_,_,_,_,X6.set1 _,R6.kept (grown_setCell w6 _ 1 _) (by simp;omega),D6.set (by omega) hcl hB 1 _⟩
    ·
     have DL:=D5.alloc (.cells #[.int .i64 (-1),.int .i64 0,.int .i64 9,.int .i64 10] 2);have XL:=X5.kept (World.grownBy_alloc w5 (.cells #[.int .i64 (-1),.int .i64 0,.int .i64 9,.int .i64 10] 2) none) (by simp);have RL:=R5.kept (World.grownBy_alloc w5 (.cells #[.int .i64 (-1),.int .i64 0,.int .i64 9,.int .i64 10] 2) none) (by simp);have hSz:=heap_size w5 (.cells #[.int .i64 (-1),.int .i64 0,.int .i64 9,.int .i64 10] 2);go_wp2_with fail
     refine (below_any _ B c _ DL.1 (by omega)).mono ?_;rintro e w6 ⟨z,rfl,z0,z1,c6,g6⟩;obtain⟨zn,rfl⟩:=Int.eq_ofNat_of_zero_le z0;obtain⟨y,hy⟩:=lit_int (w1:=w5) (e:=2) [-1,0,9,10] g6 (by simp;omega) zn (by simp;omega);have hS6:w5.heap.size<w6.heap.size:=by have:=g6.size;omega
     have X6:=XL.kept g6 (by simp;omega);have R6:=RL.kept g6 (by simp;omega);have D6:=DL.step c6 g6;clear DL XL RL hSz c6 g6;obtain⟨v0,v1,v2,v3⟩:=X6.cells;obtain⟨n0,n1,n2,n3⟩:=X6.free;have hX6:=X6.lt;go_wp2;go_meet;case rel=>exact⟨_,_,_,_,X6.set2 _,R6.kept (grown_setCell w6 _ 2 _) (by simp;omega),D6.set (by omega) hcl hB 2 _⟩
    ·
     have DL:=D5.alloc (.cells #[.int .i64 (-1),.int .i64 9,.int .i64 10] 2);have XL:=X5.kept (World.grownBy_alloc w5 (.cells #[.int .i64 (-1),.int .i64 9,.int .i64 10] 2) none) (by simp);have RL:=R5.kept (World.grownBy_alloc w5 (.cells #[.int .i64 (-1),.int .i64 9,.int .i64 10] 2) none) (by simp);have hSz:=heap_size w5 (.cells #[.int .i64 (-1),.int .i64 9,.int .i64 10] 2);go_wp2_with fail
     refine (below_any _ B c _ DL.1 (by omega)).mono ?_;rintro e w6 ⟨z,rfl,z0,z1,c6,g6⟩;obtain⟨zn,rfl⟩:=Int.eq_ofNat_of_zero_le z0;obtain⟨y,hy⟩:=lit_int (w1:=w5) (e:=2) [-1,9,10] g6 (by simp;omega) zn (by simp;omega);have hS6:w5.heap.size<w6.heap.size:=by have:=g6.size;omega
     have X6:=XL.kept g6 (by simp;omega);have R6:=RL.kept g6 (by simp;omega);have D6:=DL.step c6 g6;clear DL XL RL hSz c6 g6;obtain⟨v0,v1,v2,v3⟩:=X6.cells;obtain⟨n0,n1,n2,n3⟩:=X6.free;have hX6:=X6.lt;go_wp2;go_meet;case rel=>exact⟨_,_,_,_,X6.set3 _,R6.kept (grown_setCell w6 _ 3 _) (by simp;omega),D6.set (by omega) hcl hB 3 _⟩
   case rest=>
    clear X4 R4 D4;obtain⟨k,p,v,g,X4,R4,D4⟩:=hcut;obtain⟨t0,t1,t2,t3⟩:=X4.cells;have hX4:=X4.lt;obtain⟨r0,r1,r2,r3⟩:=R4.cells;obtain⟨q0,q1,q2,q3⟩:=R4.free;go_wp2;have hZ:=(((R4.set0 k).set1 p).set2 v).set3 g;refine bodyPost_ret (results_row (by rfl) _ _ w.heap.size _ _ (0,0) _ rfl hZ Tryz.underlying50 rfl (by kernel_rfl)) rfl ?_;exact⟨_,_,_,_,rfl,(((D4.set (Nat.le_refl _) hcl hB 0 _).set (Nat.le_refl _) hcl hB 1 _).set (Nat.le_refl _) hcl hB 2 _).set (Nat.le_refl _) hcl hB 3 _⟩
theorem new_cell (w:World)(cs:Array Value)(t:TypeId)(n i:Nat)(hn:n=w.heap.size):(w.alloc (.cells cs t)).cell? ⟨n,0+i,none⟩=cs[i]?:=by
 subst hn;rw[Nat.zero_add,cell_of_row _ w.heap.size i _ _ (0,0) (heap_alloc_new w _)]
theorem Dr.grow {w wr w':World}{B c:Nat}{row:Option Nat}(h:Dr w wr B c)(hg:wr.grownBy w' row)(hr:∀k,row=some k→w.heap.size≤k)(hc:c<w.heap.size)(hB:B≤c):Dr w w' B c:=by
 refine⟨h.1.kept hg (fun e=>by have:=hr c e;omega) (fun k hk=>by have:=hr k hk;omega),?_⟩;exact⟨hg.os.trans h.2.os,hg.tape.trans h.2.tape,hg.output.trans h.2.output,Nat.le_trans h.2.size hg.size,fun i hi hne=>(hg.block i (Nat.lt_of_lt_of_le hi h.2.size) (fun e=>by have:=hr i e.symm;omega)).trans (h.2.block i hi hne)⟩
theorem Dr.trans {a b d:World}{B c:Nat}(h:Dr a b B c)(k:Dr b d B c):Dr a d B c:=⟨k.1,grown_trans h.2 k.2⟩
theorem AppD.at {w:World}{base:Nat}{v:Value}{ds:List Dd}(h:AppD w base v ds)(hn:0<ds.length):
  ∃g c,v = .slice (some ⟨g,0,none⟩) ds.length c∧base≤g∧g<w.heap.size∧(∀i,i<ds.length→AtD w g (i*4) (ds.getD i zD))∧∀i,w.frozen? ⟨g,i,none⟩=false:=by
 obtain⟨a,c,rfl,r⟩:=h.ownD;rcases r with r|⟨g,rfl,hb,hB,hA⟩
 · rw[r] at hn;simp at hn
 · exact⟨g,_,rfl,hb,hB.lt,hA,hB.free⟩
theorem AppD.cells {w:World}{base g n c:Nat}{ds:List Dd}(h:AppD w base (.slice (some ⟨g,0,none⟩) n c) ds){i:Nat}(hi:i<ds.length):AtD w g (i*4) (ds.getD i zD)∧w.frozen? ⟨g,i*4+3,none⟩=false∧g<w.heap.size:=by
 obtain⟨g',c',e,_,hg,hA,hF⟩:=h.at (by omega);simp only[Value.slice.injEq,Option.some.injEq,Addr.mk.injEq,and_true] at e;obtain⟨rfl,_,_⟩:=e;exact⟨hA i hi,hF _,hg⟩
theorem AppX.cellAt {w:World}{base N g n c:Nat}{V:Nat→Value}{dss:List (List Dd)}(h:AppX w base N (.slice (some ⟨g,0,none⟩) n c) V dss){i:Nat}(hi:i<dss.length):w.cell? ⟨g,i,none⟩=some (V i)∧g<w.heap.size:=by
 obtain⟨g',c',e,_,_,hg,_,hC,_⟩:=h.at (by omega);simp only[Value.slice.injEq,Option.some.injEq,Addr.mk.injEq,and_true] at e;obtain⟨rfl,_,_⟩:=e;exact⟨hC i hi,hg⟩
theorem len_push {dss:List (List Dd)}{L:List Dd}(h:∀i,i<dss.length→(dss.getD i []).length≤4)(hL:L.length≤4):∀i,i<(dss++[L]).length→((dss++[L]).getD i []).length≤4:=by
 intro i hi;by_cases e:i<dss.length
 · rw[getD_left dss [L] i [] e];exact h i e
 ·
  have:i=dss.length:=by simp at hi;omega
  subst this;rw[getD_last];exact hL
theorem len_set {n k:Nat}{fss:List (List Dd)}{ds:List Dd}(hk:k<fss.length)(h:∀i,i<n→(fss.getD i []).length≤4)(hd:ds.length≤4):∀i,i<n→((fss.set k ds).getD i []).length≤4:=by
 intro i hi;rw[getD_setW fss k i ds [] hk];split
 · exact hd
 · exact h i hi
theorem appX_empty (w:World):AppX (w.alloc (.cells #[] 45)) w.heap.size (w.alloc (.cells #[] 45)).heap.size (.slice (some ⟨w.heap.size,0,none⟩) 0 0) (fun _=>vZ) []:=
 ⟨World.ownsRow_lit w #[] 0 (Nat.le_refl _) (by decide) rfl,fun k hk=>by simp[Value.ownBlock] at hk;rw[heap_size];omega,by simp,by simp,by simp,by simp⟩
theorem appD_emptyX (w:World):AppD (w.alloc (.cells #[] 50)) w.heap.size (.slice (some ⟨w.heap.size,0,none⟩) 0 0) []:=
 World.ownsRow_lit w #[] 0 (Nat.le_refl _) (by decide) rfl
theorem l5Draw_any (w:World)(B c:Nat)(hc:Cur w B c):
  Calls Tryz.prog 196 #[.pointer (some ⟨c,0,none⟩)] w fun e w'=>∃v V dss,e = .returned v∧AppX w' w.heap.size w'.heap.size v V dss∧1≤dss.length∧dss.length≤3∧(∀i,i<dss.length→(dss.getD i []).length≤4)∧Dr w w' B c:=by
 have hcl:=hc.lt;have hB:=hc.1;obtain⟨i0,hi,hz0,hz1,hz2⟩:=info_parts Tryz.infoD;obtain⟨j0,hj,hy0,hy1,hy2⟩:=info_parts Tryz.infoDS;have a0:=appX_empty w;have D0:=(Dr.refl hc).alloc (.cells #[] 45);go_enter Tryz.func196,Tryz.ntmps196
 go_wp2_with fail
 refine (below_any _ B c _ D0.1 (by omega)).mono ?_;rintro e w1 ⟨x,rfl,x0,x1,c1,g1⟩;have a1:=(a0.kept g1 hcl).up g1.size;have D1:=D0.step c1 g1;obtain⟨n0,rfl⟩:=Int.eq_ofNat_of_zero_le x0;clear a0 D0 c1 g1 x0;go_wp2;go_loopw [3,4,5,6] (fun x e4 e5 i wr=>∃(r de:Nat) (ev:Int) (V:Nat→Value) (dss:List (List Dd)),i = .int .i64 r∧e4 = .int .i64 ev∧e5 = .int .i64 de∧0≤ev∧ev≤6∧de≤12∧1≤dss.length+r∧dss.length+r≤3∧AppX wr w.heap.size wr.heap.size x V dss∧Hid (∀i,i<dss.length→(dss.getD i []).length≤4)∧Dr w wr B c) (fun _ _ _ i _=>(intOf i).toNat)
 case atStart=>exact⟨1+n0,0,0,_,[],by go_num,rfl,rfl,by omega,by omega,by omega,by simp,by simp;omega,a1,Lib.hid (by simp),D1⟩
 case round=>
  obtain⟨r,de,ev,V,dss,rfl,rfl,rfl,e0,e6,d12,r1,r3,hX,hL4,hD⟩:=hrel;clear a1 D1;by_cases hr0:r=0
  ·
   have hr:(r:Int)≤0:=by omega
   have hrd:decide (0<r)=false:=by simp[hr0]
   have n1:1≤dss.length:=by omega
   have n3:dss.length≤3:=by omega
   clear hr0 r1 r3;obtain⟨g,cx,rfl,hgb,hgN,hgw,hcx,hcell,-⟩:=hX.at (by omega);go_wp2;obtain⟨wo,hwo⟩:∃wo:World,wo=wr:=⟨_,rfl⟩;subst hwo;clear hcell;go_loopw [11] (fun i wr=>∃(k:Nat),k≤dss.length∧i = .int .i64 k∧Hid (∃ess:List (List Dd),ess.length≤dss.length∧dss.length≤ess.length∧Hid (∀i,i<dss.length→(ess.getD i []).length≤4)∧AppX wr w.heap.size wo.heap.size (.slice (some ⟨g,0,none⟩) dss.length cx) V ess∧wo.heap.size≤wr.heap.size∧Dr w wr B c)) (fun i _=>dss.length-(intOf i).toNat)
   case atStart=>exact⟨0,Nat.zero_le _,rfl,Lib.hid ⟨dss,Nat.le_refl _,Nat.le_refl _,hL4,hX,Nat.le_refl _,hD⟩⟩
   case round=>
    obtain⟨k,hk,rfl,hH⟩:=hrel;clear hD;obtain⟨ess,el1,el2,hE4,hY,hsz,hD⟩:=hH.out;clear hH;by_cases hlt:k<dss.length
    ·
     have hEk:=hE4.out k hlt;have hAk:=hY.each k (by omega);obtain⟨d1,hgw2⟩:=hY.cellAt (i:=k) (by omega);obtain⟨a5,c5,hVk⟩:=hAk.shape;have HLk:Hid (∀q,q=(ess.getD k []).length→(ess.getD k []).length=q):=Lib.hid (fun q h=>h.symm);obtain⟨lk,hlk⟩:∃lk,lk=(ess.getD k []).length:=⟨_,rfl⟩;have HL2:=Lib.hid hlk;rw[←hlk] at hVk hEk;rw[hVk] at d1;clear hlk HLk;have i1:(0:Int)≤(k:Int):=Int.natCast_nonneg _;have i2:(k:Int)<(dss.length:Int):=by omega
     by_cases h1:1<lk
     ·
      obtain⟨gk,ck,e1,hgk,-⟩:=hAk.at (by rw[←HL2.out];omega);rw[hVk] at e1;simp only[Value.slice.injEq] at e1;obtain⟨rfl,-,-⟩:=e1;have HV:=Lib.hid hVk;clear hVk hAk;have h1i:(1:Int)<(lk:Int):=by omega
      go_wp2_with fail
      refine (once_any _ B c _ hD.1 (by omega)).mono ?_;rintro e w2 ⟨b,rfl,c2,g2⟩;have hY2:=hY.kept g2 hcl;have hD2:=hD.step c2 g2;have hsz2:=Nat.le_trans hsz g2.size;clear hY hD hsz c2 g2 d1 hgw2;cases b
      ·
       go_wp2;go_roundw;case rel=>exact⟨k+1,by omega,by go_num,Lib.hid ⟨ess,el1,el2,hE4,hY2,hsz2,hD2⟩⟩
       case measure=>simp[intOf];omega
      ·
       have hw1:IntKind.i64.wrap ((lk:Int)-1)=(lk:Int)-1:=by rw[IntKind.wrap_i64];omega
       go_wp2_with fail
       refine (below_any _ B c _ hD2.1 (by omega)).mono ?_;rintro e w3 ⟨x,rfl,x0,x2,c3,g3⟩;have hY3:=hY2.kept g3 hcl;have hD3:=hD2.step c3 g3;have hsz3:=Nat.le_trans hsz2 g3.size;obtain⟨f,rfl⟩:=Int.eq_ofNat_of_zero_le x0;clear hY2 hD2 hsz2 c3 g3 x0;go_wp2;go_loopw [14] (fun i wq=>∃(q:Nat),q≤lk∧i = .int .i64 q∧Hid (∃fss:List (List Dd),fss.length≤dss.length∧dss.length≤fss.length∧Hid (∀i,i<dss.length→(fss.getD i []).length≤4)∧Hid ((fss.getD k []).length=lk)∧AppX wq w.heap.size wo.heap.size (.slice (some ⟨g,0,none⟩) dss.length cx) V fss∧wo.heap.size≤wq.heap.size∧Dr w wq B c)) (fun i _=>lk-(intOf i).toNat)
       case atStart=>exact⟨f,by omega,rfl,Lib.hid ⟨ess,el1,el2,hE4,Lib.hid HL2.out.symm,hY3,hsz3,hD3⟩⟩
       case round=>
        obtain⟨q,hq,rfl,hH⟩:=hrel;obtain⟨fss,l1,l2,h4,hlk,hY,hsz,hD⟩:=hH.out;clear hY3 hD3 hsz3 hH;by_cases hql:q<lk
        ·
         go_wp2_with fail
         refine (below_any _ B c _ hD.1 (by omega)).mono ?_;rintro e w4 ⟨z,rfl,z0,z2,c4,g4⟩;have hY:=hY.kept g4 hcl;have hD:=hD.step c4 g4;have hsz:=Nat.le_trans hsz g4.size;clear c4 g4;by_cases hz:(q:Int)<(f:Int)+2+z
         ·
          obtain⟨d1,hgw2⟩:=hY.cellAt (i:=k) (by omega);have hAk:=hY.each k (by omega);rw[HV.out] at d1 hAk;obtain⟨AT,fr,hgk2⟩:=hAk.cells (i:=q) (by rw[hlk.out];exact hql);obtain⟨A0,-,-,A3⟩:=AT;generalize ((fss.getD k []).getD q zD).1=x0 at A0;generalize ((fss.getD k []).getD q zD).2.2.2=x3 at A3;have j1:(0:Int)≤(q:Int):=Int.natCast_nonneg _;have j2:(q:Int)<(lk:Int):=by omega
          by_cases hx:2<x0
          ·
           go_wp2;go_roundw;case rel=>exact⟨k+1,by omega,by go_num,Lib.hid ⟨fss,l1,l2,h4,hY,hsz,hD⟩⟩
           case measure=>simp[intOf];omega
          ·
           have hx':x0≤2:=by omega
           obtain⟨es,he,hY5⟩:=hY.put (i:=k) (k:=q) (by omega) HV.out (by rw[hlk.out];exact hql) ((k:Int)+1);have hD5:=hD.set hgk hcl hB (q*4+3) (.int .i64 ((k:Int)+1));have H4:Hid (∀i,i<dss.length→((fss.set k es).getD i []).length≤4):=Lib.hid (len_set (by omega) h4.out (by rw[he];exact h4.out k hlt));have HK:Hid (((fss.set k es).getD k []).length=lk):=Lib.hid (by rw[getD_setW fss k k es [] (by omega),if_pos rfl,he,hlk.out]);clear hx hAk;go_wp2;go_roundw;case rel=>exact⟨q+1,by omega,by go_num,Lib.hid ⟨fss.set k es,by rw[List.length_set];exact l1,by rw[List.length_set];exact l2,H4,HK,hY5,by simpa using hsz,hD5⟩⟩
           case measure=>simp[intOf];omega
         ·
          have hz':(f:Int)+2+z≤(q:Int):=by omega
          go_wp2;go_roundw;case rel=>exact⟨k+1,by omega,by go_num,Lib.hid ⟨fss,l1,l2,h4,hY,hsz,hD⟩⟩
          case measure=>simp[intOf];omega
        ·
         have hql':(lk:Int)≤(q:Int):=by omega
         go_wp2;go_roundw;case rel=>exact⟨k+1,by omega,by go_num,Lib.hid ⟨fss,l1,l2,h4,hY,hsz,hD⟩⟩
         case measure=>simp[intOf];omega
     ·
      have h1i:(lk:Int)≤1:=by omega
      go_wp2;go_roundw;case rel=>exact⟨k+1,by omega,by go_num,Lib.hid ⟨ess,el1,el2,hE4,hY,hsz,hD⟩⟩
      case measure=>simp[intOf];omega
    ·
     obtain rfl:k=dss.length:=by omega
     go_wp2;go_ret;exact⟨_,_,ess,rfl,hY.up hsz,by omega,by omega,fun i hi=>hE4.out i (by omega),hD⟩
  ·
   obtain⟨r',rfl⟩:∃r':Nat,r=r'+1:=⟨r-1,by omega⟩;clear hr0;have ad0:=appD_emptyX wr;have hcw:c<wr.heap.size:=Nat.lt_of_lt_of_le hcl hD.2.size;have D2:=(Dr.refl hD.1).alloc (.cells #[] 50);go_wp2_with fail
   refine (below_any _ B c _ D2.1 (by omega)).mono ?_;rintro e w2 ⟨y,rfl,y0,y1,c2,g2⟩;have ad2:=ad0.kept g2 (ne_of_ge ad0.ge hcw);have D3:=D2.step c2 g2;obtain⟨m0,rfl⟩:=Int.eq_ofNat_of_zero_le y0;clear ad0 D2 c2 g2 y0;go_wp2;obtain⟨wo,hwo⟩:∃wo:World,wo=wr:=⟨_,rfl⟩;subst hwo;go_loopw [4,5,7,8] (fun e4 e5 y i wq=>∃(m de:Nat) (ev:Int) (L:List Dd),i = .int .i64 m∧e4 = .int .i64 ev∧e5 = .int .i64 de∧0≤ev∧ev≤6∧de≤12∧L.length+m≤4∧AppD wq wo.heap.size y L∧Dr wo wq B c) (fun _ _ _ i _=>(intOf i).toNat)
   case atStart=>exact⟨m0,de,ev,[],rfl,rfl,rfl,e0,e6,d12,by simp;omega,ad2,D3⟩
   case round=>
    clear e0 e6 d12;obtain⟨m,de,ev,L,rfl,rfl,rfl,e0,e6,d12,lm,hA,hQ⟩:=hrel;clear ad2 D3;by_cases hm0:m=0
    ·
     have hm:(m:Int)≤0:=by omega
     have hmd:decide (0<m)=false:=by simp[hm0]
     clear hm0;have hX2:=hX.kept hQ.2 hcl;have hLL:=hL4.out;have hsz1:=hD.2.size;have hsz2:=hQ.2.size;have hL4':L.length≤4:=by omega
     obtain⟨a5,c5,rfl⟩:=hA.shape;have hX3:=hX2.keep ((Keep.refl wr).alloc (.cells #[.slice a5 L.length c5] 45));have hA3:=hA.keep ((Keep.refl wr).alloc (.cells #[.slice a5 L.length c5] 45));have hge:=fun k hk=>(World.ownsRow.lt hX.row k hk).1
     have HP:=Lib.hid (len_push hLL hL4');clear hX2 hLL hA;go_wp2_with (at_builtin;refine wpList_append_own_at _ rfl _ _ 24 rfl w.heap.size 45 j0 (.slice none 0 0) 1 24 Tryz.underlying24 hj hy0 hy1 hy2 rfl (by decide) _ _ _ rfl hX3.row ⟨_,0,none⟩ 1 1 [.slice a5 L.length c5] rfl rfl ?b1 ?b2 ?b3 ?b4 ?b5 ?_)
     case b1=>
      intro j u hj
      match j,hj with
      | 0,hj=>simp at hj;subst hj;simp[Addr.add]
     case b2=>intro u hu;simp at hu;subst hu;rfl
     case b3=>unfold maxLen;first|omega|(simp;omega)
     case b4=>first|omega|(simp;omega)
     case b5=>first|omega|(simp;omega)
     intro v' w5 hown' hgrow _ hblk;have hP:=AppX.push hX3 hA3 hsz1 hown' hgrow (by rw[heap_size];exact hblk) (by rw[heap_size];omega);have D5:=((hD.trans hQ).alloc _).grow hgrow hge hcl hB;clear hgrow hown' hblk;go_wp2;go_roundw;case rel=>exact⟨r',de,ev,_,dss++[L],by go_num,rfl,rfl,e0,e6,d12,by simp;omega,by simp;omega,hP,HP,D5⟩
     case measure=>simp[intOf]
    ·
     obtain⟨m,rfl⟩:∃m':Nat,m=m'+1:=⟨m-1,by omega⟩;clear hm0;go_wp2_with fail
     refine (l4Draw_any _ B c hQ.1).mono ?_;rintro e w4 ⟨kk,p,v,g,rfl,D4',k1,k4⟩;have D4:=hQ.trans D4';have hA4:=hA.kept D4'.2 (ne_of_ge hA.ge hcw);have hge:=hA.ge;have hsz4:=D4.2.size;obtain⟨a5,c5,rfl⟩:=hA.shape;clear hA hQ D4';have hk:kk=1∨kk=2∨kk=3∨kk=4:=by omega
     clear k1 k4;rcases hk with rfl|rfl|rfl|rfl
     ·
      by_cases hx:6<ev+1
      ·
       go_wp2;go_roundw;case rel=>exact⟨m,de,ev,L,by go_num,rfl,rfl,by omega,by omega,by omega,by omega,hA4.keep (((Keep.refl w4).alloc _).alloc _),(D4.alloc _).alloc _⟩
       case measure=>simp[intOf]
      ·
       have hx':ev+1≤6:=by omega
       by_cases hd:de=12
       ·
        have ed:((de:Int)==12)=true:=by simp;omega
        clear hd;go_wp2;go_roundw;case rel=>exact⟨m,de,ev,L,by go_num,rfl,rfl,by omega,by omega,by omega,by omega,hA4.keep (((Keep.refl w4).alloc _).alloc _),(D4.alloc _).alloc _⟩
        case measure=>simp[intOf]
       ·
        have ed:((de:Int)==12)=false:=by simp;omega
        have de12:de<12:=by omega
        clear hd;go_wp2_with (at_builtin;refine wpList_append_own_at _ rfl _ _ 45 rfl wo.heap.size 50 i0 (.agg #[.int .i64 0,.int .i64 0,.int .i64 0,.int .i64 0]) 4 32 Tryz.underlying45 hi hz0 hz1 hz2 rfl (by decide) _ _ _ rfl (hA4.keep ((((Keep.refl w4).alloc _).alloc _).alloc _)) ⟨_,0,none⟩ 1 1 (cD (1,p,v,g)) rfl rfl ?c1 ?c2 ?c3 ?c4 ?c5 ?_)
        case c1=>
         intro j u hj
         match j,hj with
         | 0,hj=>simp[cD] at hj;subst hj;rw[plain_add];exact new_cell _ _ _ _ 0 (by rw[heap_size,heap_size])
         | 1,hj=>simp[cD] at hj;subst hj;rw[plain_add];exact new_cell _ _ _ _ 1 (by rw[heap_size,heap_size])
         | 2,hj=>simp[cD] at hj;subst hj;rw[plain_add];exact new_cell _ _ _ _ 2 (by rw[heap_size,heap_size])
         | 3,hj=>simp[cD] at hj;subst hj;rw[plain_add];exact new_cell _ _ _ _ 3 (by rw[heap_size,heap_size])
         |n+4,hj=>simp[cD] at hj
        case c2=>intro u hu;simp[cD] at hu;rcases hu with rfl|rfl|rfl|rfl<;>rfl
        case c3=>unfold maxLen;first|(simp;done)|omega|(simp;omega)
        case c4=>first|(simp;done)|omega|(simp;omega)
        case c5=>first|(simp;done)|omega|(simp;omega)
        intro v' w5 hown' hgrow _ _;have hA5:AppD w5 wo.heap.size v' (L++[(1,p,v,g)]):=appD_hit hown';have D5:=(((D4.alloc _).alloc _).alloc _).grow hgrow hge hcw hB;clear hgrow hown' hA4;go_wp2;go_roundw;case rel=>exact⟨m,de+1,ev+1,_,by go_num,by go_num,by go_num,by omega,by omega,by omega,by simp;omega,hA5,D5⟩
        case measure=>simp[intOf]
     ·
      by_cases hx:6<ev+1
      ·
       go_wp2;go_roundw;case rel=>exact⟨m,de,ev,L,by go_num,rfl,rfl,by omega,by omega,by omega,by omega,hA4.keep (((Keep.refl w4).alloc _).alloc _),(D4.alloc _).alloc _⟩
       case measure=>simp[intOf]
      ·
       have hx':ev+1≤6:=by omega
       by_cases hd:de=12
       ·
        have ed:((de:Int)==12)=true:=by simp;omega
        clear hd;go_wp2;go_roundw;case rel=>exact⟨m,de,ev,L,by go_num,rfl,rfl,by omega,by omega,by omega,by omega,hA4.keep (((Keep.refl w4).alloc _).alloc _),(D4.alloc _).alloc _⟩
        case measure=>simp[intOf]
       ·
        have ed:((de:Int)==12)=false:=by simp;omega
        have de12:de<12:=by omega
        clear hd;go_wp2_with (at_builtin;refine wpList_append_own_at _ rfl _ _ 45 rfl wo.heap.size 50 i0 (.agg #[.int .i64 0,.int .i64 0,.int .i64 0,.int .i64 0]) 4 32 Tryz.underlying45 hi hz0 hz1 hz2 rfl (by decide) _ _ _ rfl (hA4.keep ((((Keep.refl w4).alloc _).alloc _).alloc _)) ⟨_,0,none⟩ 1 1 (cD (2,p,v,g)) rfl rfl ?c1 ?c2 ?c3 ?c4 ?c5 ?_)
        case c1=>
         intro j u hj
         match j,hj with
         | 0,hj=>simp[cD] at hj;subst hj;rw[plain_add];exact new_cell _ _ _ _ 0 (by rw[heap_size,heap_size])
         | 1,hj=>simp[cD] at hj;subst hj;rw[plain_add];exact new_cell _ _ _ _ 1 (by rw[heap_size,heap_size])
         | 2,hj=>simp[cD] at hj;subst hj;rw[plain_add];exact new_cell _ _ _ _ 2 (by rw[heap_size,heap_size])
         | 3,hj=>simp[cD] at hj;subst hj;rw[plain_add];exact new_cell _ _ _ _ 3 (by rw[heap_size,heap_size])
         |n+4,hj=>simp[cD] at hj
        case c2=>intro u hu;simp[cD] at hu;rcases hu with rfl|rfl|rfl|rfl<;>rfl
        case c3=>unfold maxLen;first|(simp;done)|omega|(simp;omega)
        case c4=>first|(simp;done)|omega|(simp;omega)
        case c5=>first|(simp;done)|omega|(simp;omega)
        intro v' w5 hown' hgrow _ _;have hA5:AppD w5 wo.heap.size v' (L++[(2,p,v,g)]):=appD_hit hown';have D5:=(((D4.alloc _).alloc _).alloc _).grow hgrow hge hcw hB;clear hgrow hown' hA4;go_wp2;go_roundw;case rel=>exact⟨m,de+1,ev+1,_,by go_num,by go_num,by go_num,by omega,by omega,by omega,by simp;omega,hA5,D5⟩
        case measure=>simp[intOf]
     ·
      by_cases hx:6<ev+2
      ·
       go_wp2;go_roundw;case rel=>exact⟨m,de,ev,L,by go_num,rfl,rfl,by omega,by omega,by omega,by omega,hA4.keep (((Keep.refl w4).alloc _).alloc _),(D4.alloc _).alloc _⟩
       case measure=>simp[intOf]
      ·
       have hx':ev+2≤6:=by omega
       by_cases hd:de=12
       ·
        have ed:((de:Int)==12)=true:=by simp;omega
        clear hd;go_wp2;go_roundw;case rel=>exact⟨m,de,ev,L,by go_num,rfl,rfl,by omega,by omega,by omega,by omega,hA4.keep (((Keep.refl w4).alloc _).alloc _),(D4.alloc _).alloc _⟩
        case measure=>simp[intOf]
       ·
        have ed:((de:Int)==12)=false:=by simp;omega
        have de12:de<12:=by omega
        clear hd;go_wp2_with (at_builtin;refine wpList_append_own_at _ rfl _ _ 45 rfl wo.heap.size 50 i0 (.agg #[.int .i64 0,.int .i64 0,.int .i64 0,.int .i64 0]) 4 32 Tryz.underlying45 hi hz0 hz1 hz2 rfl (by decide) _ _ _ rfl (hA4.keep ((((Keep.refl w4).alloc _).alloc _).alloc _)) ⟨_,0,none⟩ 1 1 (cD (3,p,v,g)) rfl rfl ?c1 ?c2 ?c3 ?c4 ?c5 ?_)
        case c1=>
         intro j u hj
         match j,hj with
         | 0,hj=>simp[cD] at hj;subst hj;rw[plain_add];exact new_cell _ _ _ _ 0 (by rw[heap_size,heap_size])
         | 1,hj=>simp[cD] at hj;subst hj;rw[plain_add];exact new_cell _ _ _ _ 1 (by rw[heap_size,heap_size])
         | 2,hj=>simp[cD] at hj;subst hj;rw[plain_add];exact new_cell _ _ _ _ 2 (by rw[heap_size,heap_size])
         | 3,hj=>simp[cD] at hj;subst hj;rw[plain_add];exact new_cell _ _ _ _ 3 (by rw[heap_size,heap_size])
         |n+4,hj=>simp[cD] at hj
        case c2=>intro u hu;simp[cD] at hu;rcases hu with rfl|rfl|rfl|rfl<;>rfl
        case c3=>unfold maxLen;first|(simp;done)|omega|(simp;omega)
        case c4=>first|(simp;done)|omega|(simp;omega)
        case c5=>first|(simp;done)|omega|(simp;omega)
        intro v' w5 hown' hgrow _ _;have hA5:AppD w5 wo.heap.size v' (L++[(3,p,v,g)]):=appD_hit hown';have D5:=(((D4.alloc _).alloc _).alloc _).grow hgrow hge hcw hB;clear hgrow hown' hA4;go_wp2;go_roundw;case rel=>exact⟨m,de+1,ev+2,_,by go_num,by go_num,by go_num,by omega,by omega,by omega,by simp;omega,hA5,D5⟩
        case measure=>simp[intOf]
     ·
      by_cases hd:de=12
      ·
       have ed:((de:Int)==12)=true:=by simp;omega
       clear hd;go_wp2;go_roundw;case rel=>exact⟨m,de,ev,L,by go_num,rfl,rfl,by omega,by omega,by omega,by omega,hA4.keep (((Keep.refl w4).alloc _).alloc _),(D4.alloc _).alloc _⟩
       case measure=>simp[intOf]
      ·
       have ed:((de:Int)==12)=false:=by simp;omega
       have de12:de<12:=by omega
       clear hd;go_wp2_with (at_builtin;refine wpList_append_own_at _ rfl _ _ 45 rfl wo.heap.size 50 i0 (.agg #[.int .i64 0,.int .i64 0,.int .i64 0,.int .i64 0]) 4 32 Tryz.underlying45 hi hz0 hz1 hz2 rfl (by decide) _ _ _ rfl (hA4.keep ((((Keep.refl w4).alloc _).alloc _).alloc _)) ⟨_,0,none⟩ 1 1 (cD (4,p,v,g)) rfl rfl ?c1 ?c2 ?c3 ?c4 ?c5 ?_)
       case c1=>
        intro j u hj
        match j,hj with
        | 0,hj=>simp[cD] at hj;subst hj;rw[plain_add];exact new_cell _ _ _ _ 0 (by rw[heap_size,heap_size])
        | 1,hj=>simp[cD] at hj;subst hj;rw[plain_add];exact new_cell _ _ _ _ 1 (by rw[heap_size,heap_size])
        | 2,hj=>simp[cD] at hj;subst hj;rw[plain_add];exact new_cell _ _ _ _ 2 (by rw[heap_size,heap_size])
        | 3,hj=>simp[cD] at hj;subst hj;rw[plain_add];exact new_cell _ _ _ _ 3 (by rw[heap_size,heap_size])
        |n+4,hj=>simp[cD] at hj
       case c2=>intro u hu;simp[cD] at hu;rcases hu with rfl|rfl|rfl|rfl<;>rfl
       case c3=>unfold maxLen;first|(simp;done)|omega|(simp;omega)
       case c4=>first|(simp;done)|omega|(simp;omega)
       case c5=>first|(simp;done)|omega|(simp;omega)
       intro v' w5 hown' hgrow _ _;have hA5:AppD w5 wo.heap.size v' (L++[(4,p,v,g)]):=appD_hit hown';have D5:=(((D4.alloc _).alloc _).alloc _).grow hgrow hge hcw hB;clear hgrow hown' hA4;go_wp2;go_roundw;case rel=>exact⟨m,de+1,ev,_,by go_num,by go_num,by go_num,by omega,by omega,by omega,by simp;omega,hA5,D5⟩
       case measure=>simp[intOf]
end Go.Proofs.YtgikcfdckddgpaaGreat
