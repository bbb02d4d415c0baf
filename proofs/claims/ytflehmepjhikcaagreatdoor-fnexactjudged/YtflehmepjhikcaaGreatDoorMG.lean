/- Gathered texts. -/
import Derived.Test.YtflehmepjhikcaaGreatDoorRows
import Derived.OpenShut
import Derived.Deep.Slices
import Derived.Lib.SmallJoins
import Derived.Outline
import Derived.OwnWalk
import Derived.Lib.Hide
import Derived.Test.YtflehmepjhikcaaGreatDoorMD
import Derived.Laws.Tables
import Derived.Laws.CopyOwn
import Derived.Maps.RangeWalk
import Derived.DeepKeys4
import Derived.Maps.AppendAt
import Derived.Laws.OwnMore
set_option maxRecDepth 100000
set_option maxHeartbeats 8000000
namespace Go.Proofs.YtflehmepjhikcaaGreatDoor
open Go.ChangeMaps (setBlock heap_setBlock_same heap_setBlock_other)
open Go.ChangeShapes Go.WideShapes Go.ChangeAt Go.RowKit
open Go.MapKept (stamped_empty stamped_iff)
open Go.RowKit
open Go.WideElems (Fit)
abbrev KAa:=@List.set_cons_zero
abbrev KAw:=@World.cell?_of_block
abbrev KBS:=@List.take_of_length_le
abbrev KBZ:=@List.length_replicate
abbrev KBq:=@Array.getElem?_eq_getElem
abbrev KCF:=@of_decide_eq_true
abbrev KCJ:=@Array.length_toList
abbrev KCN:=@List.set_append_right
abbrev KCO:=@World.cell?_setCell_other
abbrev KCZ:=@List.pairwise_map
abbrev KC7:=@List.map_inj_left
abbrev KC8:=@Program.keyLits.eq_def
abbrev KDK:=@List.take_succ_cons
abbrev KDR:=@stamped_iff
theorem Gh (x lo hi:Int)(w:World):
  Calls Tryz.prog 69 #[.int .i64 x,.int .i64 lo,.int .i64 hi] w fun e w'=>e = .returned (.bool (Co x lo hi))/\w'=w:=by
 go_enter Tryz.func69,Tryz.ntmps69
 go_wp2
 all_goals
  go_ret;exact⟨BE (by rw[KBg];unfold Co;simp;omega),rfl⟩
abbrev FL (k p v g:Int):Value:= .agg #[.int .i64 k,.int .i64 p,.int .i64 v,.int .i64 g]
theorem Ir (k p v g:Int)(w:World):
  Calls Tryz.prog 70 #[FL k p v g] w fun e w'=>e = .returned (.bool (Ec k p v g))/\AC w w':=by
 unfold FL;go_enter Tryz.func70,Tryz.ntmps70
 go_wp2_with (go_at_call 69;refine (Gh _ _ _ _).mono ?_;rintro e w' ⟨rfl,rfl⟩)
 all_goals
  go_ret;refine⟨BE ?_,(AC.refl w).alloc _⟩;simp[Co] at *;rw[KBg];simp[Ec];omega
abbrev dV (d:Dd):Value:=FL d.1 d.2.1 d.2.2.1 d.2.2.2
def Tl (w:World)(b o:Nat)(d:Dd):Prop:=
 w.cell? ⟨b,o,none⟩=some (.int .i64 d.1)/\w.cell? ⟨b,o+1,none⟩=some (.int .i64 d.2.1)/\w.cell? ⟨b,o+2,none⟩=some (.int .i64 d.2.2.1)/\w.cell? ⟨b,o+3,none⟩=some (.int .i64 d.2.2.2)
def Jg (w:World)(v:Value)(ds:List Dd):Prop:=
 ∃(a:Option Addr) (cap:Nat),v = .slice a ds.length (ds.length+cap) /\
  (ds=[]\/∃b off,a=some ⟨b,off,none⟩/\b<w.heap.size/\∀i,i<ds.length->Tl w b (off+i*4) (ds.getD i zD))
def Fw (w:World)(v:Value)(AA:List (List Dd)):Prop:=
 ∃(a:Option Addr) (cap:Nat),v = .slice a AA.length cap /\
  (AA=[]\/∃b off,a=some ⟨b,off,none⟩/\b<w.heap.size/\∀i,i<AA.length->∃vi,w.cell? ⟨b,off+i,none⟩=some vi/\Jg w vi (AA.getD i []))
theorem Tl.keep {w w':World}{b o:Nat}{d:Dd}(h:Tl w b o d)(hb:b<w.heap.size)(k:AC w w'):Tl w' b o d:=
 ⟨(k.cell hb).trans h.1,(k.cell hb).trans h.2.1,(k.cell hb).trans h.2.2.1,(k.cell hb).trans h.2.2.2⟩
theorem Jg.keep {w w':World}{v:Value}{ds:List Dd}(h:Jg w v ds)(k:AC w w'):Jg w' v ds:=by
 obtain⟨a,cap,hv,h⟩:=h;refine⟨a,cap,hv,?_⟩;rcases h with h|⟨b,off,ha,hb,hc⟩
 . exact .inl h
 . exact .inr ⟨b,off,ha,KAC hb k.size,fun i hi=>(hc i hi).keep hb k⟩
theorem Fw.keep {w w':World}{v:Value}{AA:List (List Dd)}(h:Fw w v AA)(k:AC w w'):Fw w' v AA:=by
 obtain⟨a,cap,hv,h⟩:=h;refine⟨a,cap,hv,?_⟩;rcases h with h|⟨b,off,ha,hb,hc⟩
 . exact .inl h
 ·
  refine .inr ⟨b,off,ha,KAC hb k.size,fun i hi=>?_⟩;obtain⟨vi,h1,h2⟩:=hc i hi;exact⟨vi,(k.cell hb).trans h1,h2.keep k⟩
theorem AC.set {w wr:World}(h:AC w wr){g:Nat}(hg:w.heap.size<=g)(i:Nat)(x:Value):AC w (wr.setCell ⟨g,i,none⟩ x):=
 h.grown (row:=some g) ⟨rfl,rfl,rfl,by simp,fun k _ hk=>KBM wr ⟨g,i,none⟩ k x (fun e=>hk (by simp[e]))⟩ (fun k hk=>by simp at hk;omega)
theorem Tryz.Z4:(Tryz.prog.info? 82).map (fun i=>(i.zero,i.size,i.bytes))=some (some (.agg #[.int .i64 0,.int .i64 0,.int .i64 0,.int .i64 0]),4,32):=by kernel_rfl
def Og (w:World)(g n:Nat):Prop:=∃cur t,w.heap[g]? = some (.cells cur t (0,0))/\n<=cur.size
theorem Og.free {w:World}{g n:Nat}(h:Og w g n)(i:Nat):w.frozen? ⟨g,i,none⟩=false:=by
 obtain⟨cur,t,h,_⟩:=h;exact KA1 w g i cur t h
theorem Og.cell {w:World}{g n:Nat}(h:Og w g n){i:Nat}(hi:i<n):∃u,w.cell? ⟨g,i,none⟩=some u:=by
 obtain⟨cur,t,h,hn⟩:=h;exact⟨cur[i]'(by omega),by rw[KAL w g i cur t (0,0) h,KBq (by omega)]⟩
theorem Og.lt {w:World}{g n:Nat}(h:Og w g n):g<w.heap.size:=by
 obtain⟨cur,t,h,_⟩:=h;exact (KAm.1 h).1
theorem Og.set {w:World}{g n:Nat}(h:Og w g n)(i:Nat)(x:Value):Og (w.setCell ⟨g,i,none⟩ x) g n:=by
 obtain⟨cur,t,h,hn⟩:=h;exact⟨cur.setIfInBounds i x,t,KAt w g i cur t x h,by simpa using hn⟩
theorem Og.kept {w w':World}{g n:Nat}{row:Option Nat}(h:Og w g n)(hg:w.grownBy w' row)(hne:row≠some g):Og w' g n:=by
 have hl:=h.lt;obtain⟨cur,t,h,hn⟩:=h;exact⟨cur,t,(hg.block g hl (fun e=>hne e.symm)).trans h,hn⟩
def Hw (w:World)(base:Nat)(v:Value)(ds:List Dd):Prop:=
 ∃(a:Option Addr) (cap:Nat),v = .slice a ds.length (ds.length+cap)/\(ds=[]\/∃g,a=some ⟨g,0,none⟩/\base<=g/\Og w g (ds.length*4)/\∀i,i<ds.length->Tl w g (i*4) (ds.getD i zD))
theorem Hw.rd {w:World}{base:Nat}{v:Value}{ds:List Dd}(h:Hw w base v ds):Jg w v ds:=by
 obtain⟨a,cap,hv,h⟩:=h;refine⟨a,cap,hv,?_⟩;rcases h with h|⟨g,ha,_,hb,hc⟩
 . exact .inl h
 . exact .inr ⟨g,0,ha,hb.lt,fun i hi=>by rw[KBC];exact hc i hi⟩
theorem putD {w:World}{g o:Nat}{d:Dd}{b' o':Nat}{d':Dd}(h:Tl w b' o' d')(hne:b'≠g\/o'+4<=o\/o+4<=o'):
  Tl ((((w.setCell ⟨g,o,none⟩ (.int .i64 d.1)).setCell ⟨g,o+1,none⟩ (.int .i64 d.2.1)).setCell ⟨g,o+2,none⟩ (.int .i64 d.2.2.1)).setCell ⟨g,o+3,none⟩ (.int .i64 d.2.2.2)) b' o' d':=by
 have key:∀(w:World) (j:Nat) (x:Value) (q:Nat),q<o'+4->o'<=q->o<=j->j<o+4->(w.setCell ⟨g,j,none⟩ x).cell? ⟨b',q,none⟩=w.cell? ⟨b',q,none⟩:=by
  intro w j x q h1 h2 h3 h4;refine KCO _ _ _ _ (fun e=>?_);have e1:g=b'/\j=q:=by simpa using e
  omega
 unfold Tl at *;refine⟨?_,?_,?_,?_⟩
 all_goals
  rw[key _ _ _ _ (by omega) (by omega) (by omega) (by omega),key _ _ _ _ (by omega) (by omega) (by omega) (by omega),key _ _ _ _ (by omega) (by omega) (by omega) (by omega),key _ _ _ _ (by omega) (by omega) (by omega) (by omega)]
 . exact h.1
 . exact h.2.1
 . exact h.2.2.1
 . exact h.2.2.2
theorem YC {w:World}{g o n:Nat}{d:Dd}(hb:Og w g n)(ho:o+4<=n):
  Tl ((((w.setCell ⟨g,o,none⟩ (.int .i64 d.1)).setCell ⟨g,o+1,none⟩ (.int .i64 d.2.1)).setCell ⟨g,o+2,none⟩ (.int .i64 d.2.2.1)).setCell ⟨g,o+3,none⟩ (.int .i64 d.2.2.2)) g o d:=by
 have Yf:∀(w:World) (j q:Nat) (x:Value),j≠q->(w.setCell ⟨g,j,none⟩ x).cell? ⟨g,q,none⟩=w.cell? ⟨g,q,none⟩:=by
  intro w j q x h;exact KCO _ _ _ _ (by intro e;apply h;injection e)
 have h1:=hb.set o (.int .i64 d.1);have h2:=h1.set (o+1) (.int .i64 d.2.1);have h3:=h2.set (o+2) (.int .i64 d.2.2.1);obtain⟨u0,e0⟩:=hb.cell (show o<n by omega);obtain⟨u1,e1⟩:=h1.cell (show o+1<n by omega);obtain⟨u2,e2⟩:=h2.cell (show o+2<n by omega);obtain⟨u3,e3⟩:=h3.cell (show o+3<n by omega);refine⟨?_,?_,?_,?_⟩
 . rw[Yf _ _ _ _ (by omega),Yf _ _ _ _ (by omega),Yf _ _ _ _ (by omega),World.cell?_setCell_same _ _ _ e0]
 . rw[Yf _ _ _ _ (by omega),Yf _ _ _ _ (by omega),World.cell?_setCell_same _ _ _ e1]
 . rw[Yf _ _ _ _ (by omega),World.cell?_setCell_same _ _ _ e2]
 . rw[World.cell?_setCell_same _ _ _ e3]
theorem Og.mh {w:World}{base e size g n:Nat}{xs:List Value}(h:w.ownsRow base e size (.slice (some ⟨g,0,none⟩) n n) n xs):Og w g (n*size):=by
 rcases h.2 with ⟨hv,_⟩|⟨g',cap,cur,hv,_,hg,_,_,hs,_⟩
 . cases hv
 ·
  simp only[KAT,KAg,KA6,KBX,KA8] at hv;obtain⟨rfl,rfl⟩:=hv;exact⟨cur,e,hg,by rw[hs];exact KAM _⟩
theorem Hw.keep {w w':World}{base:Nat}{v:Value}{ds:List Dd}(h:Hw w base v ds)(k:AC w w'):Hw w' base v ds:=by
 obtain⟨a,cap,hv,h⟩:=h;refine⟨a,cap,hv,?_⟩;rcases h with h|⟨g,ha,hb,hB,hc⟩
 . exact .inl h
 . exact .inr ⟨g,ha,hb,hB.kept k.grownBy (by simp),fun i hi=>(hc i hi).keep hB.lt k⟩
theorem Hw.kept {w w':World}{base:Nat}{v:Value}{ds:List Dd}{row:Option Nat}(h:Hw w base v ds)(hg:w.grownBy w' row)(hne:ds=[]\/v.ownBlock≠row):Hw w' base v ds:=by
 obtain⟨a,cap,rfl,h⟩:=h;refine⟨a,cap,rfl,?_⟩;rcases h with h|⟨g,rfl,hb,hB,hc⟩
 . exact .inl h
 ·
  rcases hne with hne|hne
  . exact .inl hne
  ·
   have hne':row≠some g:=fun e=>hne (by simp[Value.ownBlock,e])
   have hcell:∀j,w'.cell? ⟨g,j,none⟩=w.cell? ⟨g,j,none⟩:=fun j=>KAw (w:=w) (hg.block g hB.lt (fun e=>hne' e.symm))
   exact .inr ⟨g,rfl,hb,hB.kept hg hne',fun i hi=>⟨(hcell _).trans (hc i hi).1,(hcell _).trans (hc i hi).2.1,(hcell _).trans (hc i hi).2.2.1,(hcell _).trans (hc i hi).2.2.2⟩⟩
theorem Hw.mono {w:World}{base base':Nat}{v:Value}{ds:List Dd}(h:Hw w base v ds)(hb:base'<=base):Hw w base' v ds:=by
 obtain⟨a,cap,hv,h⟩:=h;refine⟨a,cap,hv,?_⟩;rcases h with h|⟨g,ha,hg,rest⟩
 . exact .inl h
 . exact .inr ⟨g,ha,KAU hb hg,rest⟩
theorem Hw.block {w:World}{base:Nat}{v:Value}{ds:List Dd}(h:Hw w base v ds)(hne:ds≠[]):∃g,v.ownBlock=some g/\base<=g/\g<w.heap.size:=by
 obtain⟨a,cap,rfl,h⟩:=h;rcases h with h|⟨g,rfl,hb,hB,_⟩
 . exact absurd h hne
 . exact⟨g,rfl,hb,hB.lt⟩
def lH (g n:Nat)(V:Nat->Value)(D:Nat->List Dd):Prop:=
 (∀i,i<n->D i≠[]->(V i).ownBlock≠some g)/\∀i j,i<j->j<n->D i≠[]->D j≠[]->(V i).ownBlock≠(V j).ownBlock
def nY (w:World)(base:Nat)(v:Value)(AA:List (List Dd)):Prop:=
 ∃(a:Option Addr) (cap:Nat),v = .slice a AA.length cap/\(AA=[]\/∃(g:Nat) (V:Nat->Value),a=some ⟨g,0,none⟩/\base<=g/\Og w g AA.length /\
  (∀i,i<AA.length->w.cell? ⟨g,i,none⟩=some (V i)/\Hw w base (V i) (AA.getD i []))/\lH g AA.length V (fun i=>AA.getD i []))
theorem nY.rd {w:World}{base:Nat}{v:Value}{AA:List (List Dd)}(h:nY w base v AA):Fw w v AA:=by
 obtain⟨a,cap,hv,h⟩:=h;refine⟨a,cap,hv,?_⟩;rcases h with h|⟨g,V,ha,_,hb,hc,_⟩
 . exact .inl h
 . exact .inr ⟨g,0,ha,hb.lt,fun i hi=>⟨V i,by rw[KBC];exact (hc i hi).1,(hc i hi).2.rd⟩⟩
theorem Tryz.UP:(Tryz.prog.info? 72).map (fun i=>(i.zero,i.size,i.bytes))=some (some (.slice none 0 0),1,24):=by kernel_rfl
theorem JB (w:World)(g j:Nat)(v:Value):w.grownBy (w.setCell ⟨g,j,none⟩ v) (some g):=
 ⟨rfl,rfl,rfl,by simp,fun k _ hk=>KBM w ⟨g,j,none⟩ k v (fun e=>hk (by simp[e]))⟩
theorem GZ {w w':World}{b:Nat}(h:w'.heap[b]? = w.heap[b]?)(o:Nat):w'.cell? ⟨b,o,none⟩=w.cell? ⟨b,o,none⟩:=by
 simp only[World.cell?,h]
theorem Qv (AA:List (List Dd)):∀i,i<=AA.length->CQ (AA.take i)<=CQ AA:=by
 induction AA with
 |nil=>intro i _;simp
 |cons d r ih=>
  intro i hi
  cases i with
  |zero=>simp[CQ]
  |succ i=>simp only[KDK,CQ];have:=ih i (by simpa using hi);omega
theorem BO (AA:List (List Dd)):(AB AA).length<=9:=by
 unfold AB;split
 ·
  rename_i h;simp only[AL,KAO,KAN] at h;obtain⟨⟨⟨⟨_,h2⟩,_⟩,h4⟩,_⟩:=h;have:=IR (fun i hi=>Bm [] h2 i hi) AA.length (KAM _);omega
 . simp
theorem SV (AA:List (List Dd)):(AB AA).length<=1048576:=by
 have:=BO AA;omega
def Hq (D:Nat):List Nat->Nat
 | []=>0
 |x::l=>x+D*Hq D l
theorem FQ {D:Nat}:∀l:List Nat,(∀x∈l,x<D)->Hq D l<D ^ l.length
 | [],_=>by simp[Hq]
 |x::l,h=>by
  have h1:=FQ l (fun y hy=>h y (KBT _ hy));have h2:=h x (by simp);rw[Hq,KBJ,Nat.pow_succ];have h3:D*(Hq D l+1)<=D*D ^ l.length:=Nat.mul_le_mul_left D h1;rw[Nat.mul_add,Nat.mul_comm D (D ^ l.length)] at h3;omega
theorem Gj {D:Nat}:∀l l':List Nat,l.length=l'.length->(∀x∈l,x<D)->(∀x∈l',x<D)->Hq D l=Hq D l'->l=l'
 | [],[],_,_,_,_=>rfl
 | [],_::_,h,_,_,_=>by simp at h
 |_::_,[],h,_,_,_=>by simp at h
 |x::l,x'::l',h,h1,h2,e=>by
  rw[Hq,Hq] at e;have a1:=h1 x (by simp);have a2:=h2 x' (by simp)
  have e1:x=x':=by
   have:=KBf (. % D) e;simp only[Nat.add_mul_mod_self_left] at this
   rwa [Nat.mod_eq_of_lt a1,Nat.mod_eq_of_lt a2] at this
  subst e1;have e2:Hq D l=Hq D l':=Nat.eq_of_mul_eq_mul_left (by omega:0<D) (by omega);rw[Gj l l' (by simpa using h) (fun y hy=>h1 y (KBT _ hy)) (fun y hy=>h2 y (KBT _ hy)) e2]
theorem Q6 {α:Type}(M:Nat)(P:α->Nat->Prop)(l:List α)(hn:l.Nodup)(h:∀k∈l,∃c,c<M/\P k c)(hi:∀k k' c,P k c->P k' c->k=k'):l.length<=M:=by
 have hf:∃f:α->Nat,∀k∈l,f k<M/\P k (f k):=by
  classical
  refine⟨fun k=>if hk:k∈l then (h k hk).choose else 0,fun k hk=>?_⟩;simp only[dif_pos hk];exact (h k hk).choose_spec
 obtain⟨f,hf⟩:=hf
 have h1:(l.map (fun k=>(f k:Int))).Nodup:=by
  unfold List.Nodup;rw[KCZ];refine hn.imp_of_mem ?_;intro a b ha hb hab e;have e':f a=f b:=by omega
  exact hab (hi a b (f a) (hf a ha).2 (by rw[e'];exact (hf b hb).2))
 have h2:=Oz (b:=(List.range M).map (fun (c:Nat)=>(c:Int))) h1 (by
  intro x hx;obtain⟨k,hk,rfl⟩:=KAv.1 hx
  exact KAv.2 ⟨f k,KAd.2 (hf k hk).1,rfl⟩)
 simpa using h2
theorem p8 {a b:List Nat}(ha:a.Pairwise (·<·))(hb:b.Pairwise (·<·))(h:∀x,x∈a↔x∈b):a=b:=by
 refine List.Perm.eq_of_pairwise (le:=fun a b=>a<b) (fun x y _ _ h1 h2=>by omega) ha hb ?_;exact (List.perm_ext_iff_of_nodup (ha.imp (fun {a b} hab=>by omega)) (hb.imp (fun {a b} hab=>by omega))).2 h
def Zc (AA:List (List Dd))(a:Ab)(j:Nat):Nat:=
 if Af ((AB AA).getD j zE)=true then (if Et AA a j=true then (JY AA (a.F j)+1).toNat else 0) else (if j∈a.N ((AB AA).getD j zE).1.toNat then 1 else 0)
def KX (AA:List (List Dd))(a:Ab):Nat:=
 Hq 6 ((List.range AA.length).map a.nx)+216*(Hq 9 ((List.range 3).map (BU a))+729*Hq 11 ((List.range ((AB AA).length-3)).map (fun i=>Zc AA a (i+3))))
def Jd:Nat:=216*(729*1771561)
structure CB (AA:List (List Dd))(a:Ab):Prop where
 nx:∀x∈(List.range AA.length).map a.nx,x<6
 AQ:∀x∈(List.range 3).map (BU a),x<9
 ev:∀x∈(List.range ((AB AA).length-3)).map (fun i=>Zc AA a (i+3)),x<11
theorem QX {AA:List (List Dd)}(hb:AL AA=true){b:Bd}{a:Ab}{τ:Nat->Nat}{T:Nat}{z:Int}(M:MI AA b a τ T z):CB AA a:=by
 have h9:=BO AA
 have h3:3<=(AB AA).length:=by
  have:=M.inv.lt 2 (M.inv.FU 2 (by omega)).1;exact this
 refine⟨fun x hx=>?_,fun x hx=>?_,fun x hx=>?_⟩
 ·
  obtain⟨c,hc,rfl⟩:=KAv.1 hx;have hc:=KAd.1 hc;have:=M.Vs c hc;have:=Dy hb hc;omega
 ·
  obtain⟨p,hp,rfl⟩:=KAv.1 hx;have hp:=KAd.1 hp;unfold BU
  cases e:(a.R p).getLast? with
  |none=>simp;omega
  |some y=>
   have hy:=(M.inv.rows p y).1 (KCV e);have:y<(AB AA).length:=M.inv.lt y hy.1.1;simp;omega
 ·
  obtain⟨i,hi,rfl⟩:=KAv.1 hx;have hi:=KAd.1 hi;unfold Zc;split
  ·
   rename_i hr;split
   ·
    rename_i hx;have hs:=M.inv.src (i+3) ⟨by show i+3<(AB AA).length;omega,hx⟩ hr;have hl:a.F (i+3)<(AB AA).length:=M.inv.lt _ hs.1;have:=(Kd hb hl).1;omega
   . omega
  . split<;>omega
theorem VN {AA:List (List Dd)}(hb:AL AA=true){a:Ab}(h:CB AA a):KX AA a<Jd:=by
 have h9:=BO AA;have hl3:=Da hb;have h1:=FQ _ h.nx;have h2:=FQ _ h.AQ;have h3:=FQ _ h.ev;rw[KAj,KB5] at h1 h2 h3;have p1:6 ^ AA.length<=6 ^ 3:=KCX (by omega) hl3;have p3:11 ^ ((AB AA).length-3)<=11 ^ 6:=KCX (by omega) (by omega);have q1:6 ^ 3=216:=rfl;have q2:9 ^ 3=729:=rfl;have q3:11 ^ 6=1771561:=rfl;rw[q1] at p1;rw[q2] at h2;rw[q3] at p3;unfold KX Jd;generalize Hq 6 ((List.range AA.length).map a.nx)=A at *;generalize Hq 9 ((List.range 3).map (BU a))=B at *;generalize Hq 11 ((List.range ((AB AA).length-3)).map (fun i=>Zc AA a (i+3)))=C at *;omega
theorem uJ {AA:List (List Dd)}(hb:AL AA=true){a a':Ab}(h:CB AA a)(h':CB AA a')(e:KX AA a=KX AA a'):
  (∀c,c<AA.length->a.nx c=a'.nx c)/\(∀p,p<3->BU a p=BU a' p)/\∀j,3<=j->j<(AB AA).length->Zc AA a j=Zc AA a' j:=by
 have hl3:=Da hb;have h1:=FQ _ h.nx;have h1':=FQ _ h'.nx;have h2:=FQ _ h.AQ;have h2':=FQ _ h'.AQ;rw[KAj,KB5] at h1 h2 h1' h2';have p1:6 ^ AA.length<=6 ^ 3:=KCX (by omega) hl3;have q1:6 ^ 3=216:=rfl;have q2:9 ^ 3=729:=rfl;rw[q1] at p1;rw[q2] at h2 h2';have e0:=e;unfold KX at e0;have m1:∀A X B Y:Nat,A<216->B<216->A+216*X=B+216*Y->A=B/\X=Y:=fun A X B Y _ _ _=>by omega
 have m2:∀A X B Y:Nat,A<729->B<729->A+729*X=B+729*Y->A=B/\X=Y:=fun A X B Y _ _ _=>by omega
 obtain⟨e1,e2⟩:=m1 _ _ _ _ (by omega) (by omega) e0;obtain⟨e2,e3⟩:=m2 _ _ _ _ h2 h2' e2;have f1:=Gj _ _ (by simp) h.nx h'.nx e1;have f2:=Gj _ _ (by simp) h.AQ h'.AQ e2;have f3:=Gj _ _ (by simp) h.ev h'.ev e3;refine⟨fun c hc=>?_,fun p hp=>?_,fun j hj hl=>?_⟩
 ·
  have:=KBf (fun l=>l.getD c 0) f1
  rwa [DS _ _ hc,DS _ _ hc] at this
 ·
  have:=KBf (fun l=>l.getD p 0) f2
  rwa [DS _ _ hp,DS _ _ hp] at this
 ·
  have:=KBf (fun l=>l.getD (j-3) 0) f3;rw[DS _ _ (by omega),DS _ _ (by omega)] at this
  rwa [show j-3+3=j by omega] at this
theorem Sw {AA:List (List Dd)}{b:Bd}{a:Ab}{τ:Nat->Nat}{T:Nat}{z:Int}(M:MI AA b a τ T z){c:Nat}(x:Nat):x∈a.N c↔3<=x/\x<(AB AA).length/\(Bj AA).rd x=false/\(Bj AA).ck x=(c:Int)/\Zc AA a x=1:=by
 have hN:=JX AA a τ c;constructor
 ·
  intro h;rw[<-hN] at h;obtain⟨h1,h2,h3,h4⟩:=M.inv.note _ _ h;have h1:x<(AB AA).length:=M.inv.lt _ h1;rw[hN] at h;refine⟨h2,h1,h4,h3,?_⟩;have h4':Af ((AB AA).getD x zE)=false:=h4;have h3':((AB AA).getD x zE).1=(c:Int):=h3;unfold Zc;rw[h4',KAQ (by simp),h3',KAV,KAP h]
 ·
  rintro⟨h1,h2,h3,h4,h5⟩;have h4':Af ((AB AA).getD x zE)=false:=h3;have h3':((AB AA).getD x zE).1=(c:Int):=h4;unfold Zc at h5;rw[h4',KAQ (by simp),h3',KAV] at h5;split at h5
  . assumption
  . cases h5
theorem Qh (f:Ev->Bool)(l:List Ev):∀(k:Nat) (r:Int),r∈Bh f l k->∃j:Nat,r=(j:Int)/\j<k/\f (l.getD j zE)=true
 | 0,r,h=>by simp[Bh] at h
 |k+1,r,h=>by
  rw[Bh] at h;split at h
  ·
   rename_i hf;rcases KA0.1 h with h|h
   ·
    obtain⟨j,e,hj,hr⟩:=Qh f l k r h;exact⟨j,e,by omega,hr⟩
   . exact⟨k,KBD.1 h,by omega,hf⟩
  ·
   obtain⟨j,e,hj,hr⟩:=Qh f l k r h;exact⟨j,e,by omega,hr⟩
theorem Vb {es:List Ev}{r:Int}(h:r∈AW Af es):∃j:Nat,r=(j:Int)/\j<es.length/\Af (es.getD j zE)=true:=by
 unfold AW at h;split at h
 . exact Qh Af es _ r h
 . cases h
theorem SO {AA:List (List Dd)}(hb:AL AA=true){b b':Bd}{a a':Ab}{τ τ':Nat->Nat}{T T':Nat}{z z':Int}(M:MI AA b a τ T z)(M':MI AA b' a' τ' T' z')(e:KX AA a=KX AA a'):Ct b=Ct b':=by
 obtain⟨e1,e2,e3⟩:=uJ hb (QX hb M) (QX hb M') e;have R:=M.B0;have R':=M'.B0
 have hN:∀c,c<AA.length->a.N c=a'.N c:=by
  intro c hc;refine p8 (by have:=M.inv.Ma (c:Int);rwa [JX] at this) (by have:=M'.inv.Ma (c:Int);rwa [JX] at this) (fun x=>?_);rw[Sw M,Sw M'];constructor
  ·
   rintro⟨h1,h2,h3,h4,h5⟩;exact⟨h1,h2,h3,h4,by rw[<-e3 x h1 h2];exact h5⟩
  ·
   rintro⟨h1,h2,h3,h4,h5⟩;exact⟨h1,h2,h3,h4,by rw[e3 x h1 h2];exact h5⟩
 have k1:b.AK=b'.AK:=by
  rw[R.AK,R'.AK];exact KAh (fun c hc=>by rw[e1 c (KAd.1 hc)])
 have k2:b.AQ=b'.AQ:=by
  rw[R.AQ,R'.AQ];exact KAh (fun p hp=>by rw[e2 p (KAd.1 hp)])
 have k4:b.AJ=b'.AJ:=by
  rw[R.AJ,R'.AJ];exact KAh (fun c hc=>by rw[hN c (KAd.1 hc)])
 have val:∀ {b:Bd} {a:Ab} {τ:Nat->Nat} {T:Nat} {z:Int},MI AA b a τ T z->∀j,j<(AB AA).length->Af ((AB AA).getD j zE)=true->(if Et AA a j=true then JY AA (a.F j) else -1)=(Zc AA a j:Int)-1:=by
  intro b a τ T z M j hj hr;unfold Zc;rw[KAP hr];split
  ·
   rename_i hx;have hs:=M.inv.src j ⟨hj,hx⟩ hr;have hl:a.F j<(AB AA).length:=M.inv.lt _ hs.1;have:=(Kd hb hl).1;omega
  . rfl
 have k3:b.sn=b'.sn:=by
  rw[R.sn,R'.sn];refine KAh (fun r hr=>?_);obtain⟨j,rfl,hj,hrd⟩:=Vb hr
  have j3:3<=j:=by
   rcases KCQ j 3 with h|h
   ·
    have:=(M.inv.FU j h).2.1;have h':Af ((AB AA).getD j zE)=false:=this;rw[hrd] at h';cases h'
   . exact h
  rw[KAV,val M j hj hrd,val M' j hj hrd,e3 j j3 hj]
 unfold Ct;rw[k1,k2,k3,k4]
theorem eT {AA:List (List Dd)}(hb:AL AA=true){quick:Bool}{S:SS}(h:SI AA quick S):S.seen.length<=Jd:=by
 refine Q6 Jd (fun k c=>∃b a τ T z,MI AA b a τ T z/\Ct b=k/\KX AA a=c) _ (JL h.os) (fun k hk=>?_) ?_
 ·
  obtain⟨b,hr,e,-⟩:=h.seen k hk;obtain⟨a,τ,T,z,M,-⟩:=BF hb hr;exact⟨_,VN hb (QX hb M),b,a,τ,T,z,M,e,rfl⟩
 ·
  rintro k k' c ⟨b,a,τ,T,z,M,rfl,ec⟩ ⟨b',a',τ',T',z',M',rfl,ec'⟩;exact SO hb M M' (ec.trans ec'.symm)
theorem V4 (l:List (List Int))(x:List Int):(Ek l x).length=if Qn l x=true then l.length else l.length+1:=by
 have:=RA l x;unfold Ek;split
 . rfl
 ·
  simp;omega
theorem Kb {AA:List (List Dd)}{es:List Ev}{quick:Bool}{S:SS}(h:S.ends.length<=S.seen.length):(J1 AA es quick S).ends.length<=(J1 AA es quick S).seen.length:=by
 unfold J1
 cases hl:S.opn.getLast? with
 |none=>exact h
 |some b=>
  have h1:=V4 S.seen (Ct b);have h2:=V4 S.ends (An b);by_cases hs:Qn S.seen (Ct b)=true
  ·
   simp only[hs,KCT];exact h
  ·
   rw[KAQ hs] at h1;by_cases he:Dl AA b=true
   ·
    simp only[hs,he,KCT];show (Ek S.ends (An b)).length<=(Ek S.seen (Ct b)).length;rw[h1,h2];split<;>omega
   ·
    simp only[hs,he];show S.ends.length<=(Ek S.seen (Ct b)).length;omega
def fw (AA:List (List Dd))(l:List Bd):Prop:=∀(i:Nat) (b:Bd),l[i]? = some b->ER AA b+i / 5<=24
theorem kT {AA:List (List Dd)}(hb:AL AA=true):fw AA [C5 AA]:=by
 intro i b h
 cases i with
 |zero=>
  simp at h;rw[<-h];have:=(Vg hb).1;omega
 |succ i=>simp at h
theorem kS {AA:List (List Dd)}{l:List Bd}(h:fw AA l):l.length<=125:=by
 rcases KCQ 125 l.length with hl|hl
 ·
  have:=h 125 l[125] (by rw[KAH]);omega
 . exact hl
theorem fG {AA:List (List Dd)}(hb:AL AA=true){quick:Bool}{l:List Bd}{b:Bd}(hr:Br AA quick b)(h:fw AA (l++[b])):fw AA (l++Bp AA (AB AA) quick b):=by
 intro i x hx;have hbm:=h l.length b (by simp);rcases KCQ i l.length with hi|hi
 ·
  rw[KAu hi] at hx;exact h i x (by rw[KAu hi];exact hx)
 ·
  rw[KAy hi] at hx;have h1:=JH hb hr (List.mem_of_getElem? hx);have h2:=JG hb (es:=AB AA) (quick:=quick) (b:=b);have h3:=(KBE.1 hx).1;omega
theorem RX {AA:List (List Dd)}(hb:AL AA=true){quick:Bool}{S:SS}(h:SI AA quick S)(k:fw AA S.opn):fw AA (J1 AA (AB AA) quick S).opn:=by
 unfold J1
 cases hl:S.opn.getLast? with
 |none=>exact k
 |some b=>
  obtain⟨l',e⟩:=KB9.1 hl;have hbr:Br AA quick b:=h.opn b (by rw[e];simp);have e2:S.opn.dropLast=l':=by rw[e,KCq]
  have kd:fw AA S.opn.dropLast:=by
   intro i x hx;rw[e2] at hx;refine k i x ?_;rw[e,KAu (KBE.1 hx).1];exact hx
  show fw AA (if Qn S.seen (Ct b)=true then _ else _:SS).opn;split
  . exact kd
  ·
   split
   . exact kd
   ·
    show fw AA (S.opn.dropLast++_);rw[e2];rw[e] at k;exact fG hb hbr k
def Oe (es:List Ev):Nat->Nat
 | 0=>0
 |k+1=>Oe es k+if Af (es.getD k zE)=true then 0 else 1
theorem LH (es:List Ev):∀ {j k:Nat},j<=k->Oe es j<=Oe es k
 |j,0,h=>by
  obtain rfl:j=0:=by omega
  exact KAM _
 |j,k+1,h=>by
  rcases KCQ j (k+1) with h1|h1
  ·
   have:=LH es (j:=j) (k:=k) (by omega);rw[Oe];omega
  ·
   obtain rfl:j=k+1:=by omega
   exact KAM _
theorem RK (es:List Ev){j k:Nat}(h:j<k)(hj:Af (es.getD j zE)=false):Oe es j<Oe es k:=by
 have h1:=LH es (j:=j+1) (k:=k) h;rw[Oe,hj] at h1;simp at h1;omega
theorem Mr (es:List Ev){j k:Nat}(hj:Af (es.getD j zE)=false)(hk:Af (es.getD k zE)=false)(h:Oe es j=Oe es k):j=k:=by
 rcases Nat.lt_trichotomy j k with h1|h1|h1
 . have:=RK es h1 hj;omega
 . exact h1
 . have:=RK es h1 hk;omega
theorem Un (es:List Ev):∀k:Nat,(Bh Af es k).length+Oe es k=k
 | 0=>rfl
 |k+1=>by
  have ih:=Un es k;rw[Bh,Oe];by_cases h:Af (es.getD k zE)=true
  . rw[KAP h,KAP h,KAJ,KA5];omega
  . rw[KAQ h,KAQ h];omega
def PT (AA:List (List Dd))(a:Ab):Nat:=
 Hq (Oe (AB AA) (AB AA).length) ((AW Af (AB AA)).map (fun r=>Oe (AB AA) (a.F r.toNat))++(List.range 3).map (fun p=>Oe (AB AA) (BU a p)))
theorem jq {m r:Nat}(h3:3<=m)(h:m+r<=9):m ^ (r+3)<=78125:=by
 have h1:m ^ (r+3)<=m ^ (12-m):=KCX (by omega) (by omega);refine KAU h1 ?_;have:m=3\/m=4\/m=5\/m=6\/m=7\/m=8\/m=9:=by omega
 rcases this with rfl|rfl|rfl|rfl|rfl|rfl|rfl<;>decide
structure EC (AA:List (List Dd))(a:Ab)(b:Bd):Prop where
 f:∀r∈AW Af (AB AA),a.F r.toNat<(AB AA).length/\Af ((AB AA).getD (a.F r.toNat) zE)=false
 l:∀p,p<3->BU a p<(AB AA).length/\Af ((AB AA).getD (BU a p) zE)=false
 sn:b.sn=(AW Af (AB AA)).map (fun r=>JY AA (a.F r.toNat))
 AM:b.AM=(List.range 3).map (fun p=>JY AA (BU a p))
 m:3<=Oe (AB AA) (AB AA).length
theorem l9 {AA:List (List Dd)}(hb:AL AA=true){b:Bd}{a:Ab}{τ:Nat->Nat}{T:Nat}{z:Int}(M:MI AA b a τ T z)(he:Dl AA b=true):EC AA a b:=by
 have FN:=pE hb M he;have h3:3<=(AB AA).length:=M.inv.lt 2 (M.inv.FU 2 (by omega)).1;refine⟨fun r hr=>?_,fun p hp=>?_,FN.frs.2,M.B0.AM,KAU ?_ (LH (AB AA) h3)⟩
 ·
  obtain⟨j,rfl,hj,hrd⟩:=Vb hr;rw[KAV];have hs:=M.inv.src j (FN.all j hj).1 hrd;exact⟨M.inv.lt _ hs.1,hs.2.1⟩
 ·
  unfold BU
  cases e:(a.R p).getLast? with
  |none=>exact⟨by simp;omega,(M.inv.FU p hp).2.1⟩
  |some y=>
   have hy:=(M.inv.rows p y).1 (KCV e);exact⟨M.inv.lt y hy.1.1,hy.2.1⟩
 ·
  have r0:Af ((AB AA).getD 0 zE)=false:=(M.inv.FU 0 (by omega)).2.1;have r1:Af ((AB AA).getD 1 zE)=false:=(M.inv.FU 1 (by omega)).2.1;have r2:Af ((AB AA).getD 2 zE)=false:=(M.inv.FU 2 (by omega)).2.1;simp only[Oe,r0,r1,r2];decide
theorem EF {AA:List (List Dd)}{a:Ab}{b:Bd}(h:EC AA a b):∀x∈(AW Af (AB AA)).map (fun r=>Oe (AB AA) (a.F r.toNat))++(List.range 3).map (fun p=>Oe (AB AA) (BU a p)),x<Oe (AB AA) (AB AA).length:=by
 intro x hx;rcases KA0.1 hx with hx|hx
 ·
  obtain⟨r,hr,rfl⟩:=KAv.1 hx;have:=h.f r hr;exact RK _ this.1 this.2
 ·
  obtain⟨p,hp,rfl⟩:=KAv.1 hx;have:=h.l p (KAd.1 hp);exact RK _ this.1 this.2
theorem SM {AA:List (List Dd)}{a:Ab}{b:Bd}(h:EC AA a b):PT AA a<78125:=by
 have h9:=BO AA;have h1:=FQ _ (EF h);have h2:=Un (AB AA) (AB AA).length;have e:AW Af (AB AA)=Bh Af (AB AA) (AB AA).length:=by unfold AW;rw[KAP (by omega)]
 have h3:=h.m;rw[KAJ,KAj,KAj,KB5,e] at h1;have h4:=jq (m:=Oe (AB AA) (AB AA).length) (r:=(Bh Af (AB AA) (AB AA).length).length) h3 (by omega);unfold PT;rw[e];omega
theorem ZX {AA:List (List Dd)}(hb:AL AA=true){quick:Bool}{l:List (List Int)}(h:Hv AA quick l):l.length<=78125:=by
 refine Q6 78125 (fun x c=>∃a b,EC AA a b/\An b=x/\PT AA a=c) _ (JL h.1) (fun x hx=>?_) ?_
 ·
  obtain⟨b,hr,he,e⟩:=(h.2 x).1 hx;obtain⟨a,τ,T,z,M,-⟩:=BF hb hr;have C:=l9 hb M he;exact⟨_,SM C,a,b,C,e.symm,rfl⟩
 ·
  rintro x x' c ⟨a,b,C,rfl,ec⟩ ⟨a',b',C',rfl,ec'⟩;have e:=ec.trans ec'.symm;unfold PT at e;have e2:=Gj _ _ (by simp) (EF C) (EF C') e;obtain⟨e3,e4⟩:=KB0 e2 (by simp)
  have f1:b.sn=b'.sn:=by
   rw[C.sn,C'.sn];refine KAh (fun r hr=>?_);have:=(KC7.1 e3) r hr;rw[Mr _ (C.f r hr).2 (C'.f r hr).2 this]
  have f2:b.AM=b'.AM:=by
   rw[C.AM,C'.AM];refine KAh (fun p hp=>?_);have:=(KC7.1 e4) p hp;rw[Mr _ (C.l p (KAd.1 hp)).2 (C'.l p (KAd.1 hp)).2 this]
  unfold An;rw[f1,f2]
theorem kE (AA:List (List Dd)):(AW Af (AB AA)).length<=9:=by
 have h9:=BO AA;unfold AW;rw[KAP (by omega)];have:=E0 Af (AB AA) (AB AA).length;omega
theorem Hv.lens {AA:List (List Dd)}(hb:AL AA=true){quick:Bool}{l:List (List Int)}(h:Hv AA quick l):∀i,i<l.length->(l.getD i []).length<=15:=fun i hi=>by
 have hm:l.getD i []∈l:=by rw[IT,KAH hi];exact KBI hi
 obtain⟨b,hr,_,e⟩:=(h.2 _).1 hm;obtain⟨a,_,_,_,M,_⟩:=BF hb hr;have S:=Ee.of (IZ hb M);have:=kE AA;rw[e];unfold An;rw[KAJ,S.sn,S.AM];omega
structure DD (AA:List (List Dd))(quick:Bool)(l:List (List Int)):Prop where
 is:AL AA=true->Hv AA quick l
 no:AL AA=false->l=[]
theorem DD.one {AA:List (List Dd)}{quick:Bool}{l l':List (List Int)}(h:DD AA quick l)(h':DD AA quick l'):l=l':=by
 cases hb:AL AA
 . rw[h.no hb,h'.no hb]
 . exact ZY (h.is hb) (h'.is hb)
theorem DD.lens {AA:List (List Dd)}{quick:Bool}{l:List (List Int)}(h:DD AA quick l):∀i,i<l.length->(l.getD i []).length<=15:=by
 cases hb:AL AA
 . rw[h.no hb];intro i hi;simp at hi
 . exact (h.is hb).lens hb
theorem DD.len {AA:List (List Dd)}{quick:Bool}{l:List (List Int)}(h:DD AA quick l):l.length<=78125:=by
 cases hb:AL AA
 . rw[h.no hb];simp
 . exact ZX hb (h.is hb)
theorem DD.same {AA:List (List Dd)}(hb:AL AA=true){quick:Bool}{l:List (List Int)}(h:DD AA quick l){i:Nat}(hi:i<l.length):((l.getD i []).length:Int)=Oc AA+3:=by
 have hm:l.getD i []∈l:=by rw[IT,KAH hi];exact KBI hi
 obtain⟨b,hr,_,e⟩:=((h.is hb).2 _).1 hm;obtain⟨a,_,_,_,M,_⟩:=BF hb hr;have S:=Ee.of (IZ hb M);rw[e];unfold An Oc;have he:AB AA=BB AA AA.length:=by unfold AB;rw[KAP hb]
 rw[KAJ,S.sn,S.AM,he];omega
structure Lu (AA:List (List Dd))(rs vs:List Int)(a b:Int):Prop where
 no:Db AA rs vs=false->a=-1/\b=-1
 is:Db AA rs vs=true->∃l,DD AA false l/\a=(JV rs vs l l.length:Nat)/\b=(l.length:Nat)
theorem Lu.one {AA:List (List Dd)}{rs vs:List Int}{a b a' b':Int}(h:Lu AA rs vs a b)(h':Lu AA rs vs a' b'):a=a'/\b=b':=by
 cases hb:Db AA rs vs
 . rw[(h.no hb).1,(h.no hb).2,(h'.no hb).1,(h'.no hb).2];exact⟨rfl,rfl⟩
 ·
  obtain⟨l,e,rfl,rfl⟩:=h.is hb;obtain⟨l',e',rfl,rfl⟩:=h'.is hb;rw[e.one e'];exact⟨rfl,rfl⟩
structure Sy where
 R:Bd->Prop
 tm:Bd->Int
 nx:Bd->List Bd
 en:Bd->Bool
 b0:Bd
structure LS (S:Sy):Prop where
 new:S.R S.b0/\S.tm S.b0=0
 step:∀ {b x},S.R b->x∈S.nx b->S.R x/\S.tm x=S.tm b+1
 top:∀ {b},S.R b->0<=S.tm b/\S.tm b<=24
 back:∀ {x},S.R x->x=S.b0\/∃b,S.R b/\x∈S.nx b
 like:∀ {b b'},S.R b->S.R b'->Bl b b'->(∀x∈S.nx b,∃x'∈S.nx b',Bl x x')/\S.en b=S.en b'/\An b=An b'/\S.tm b=S.tm b'
 ends:∀ {b b'},S.R b->S.R b'->S.en b=true->S.en b'=true->An b=An b'->Bl b b'
theorem Bl.refl (b:Bd):Bl b b:=⟨rfl,rfl,rfl,rfl⟩
theorem Bl.symm {b b':Bd}(h:Bl b b'):Bl b' b:=⟨h.1.symm,h.2.1.symm,h.2.2.1.symm,h.2.2.2.symm⟩
theorem Bl.trans {a b c:Bd}(h:Bl a b)(k:Bl b c):Bl a c:=⟨h.1.trans k.1,h.2.1.trans k.2.1,h.2.2.1.trans k.2.2.1,h.2.2.2.trans k.2.2.2⟩
structure GW (S:Sy)(n:Int)(l:List Bd):Prop where
 of:∀b∈l,S.R b/\S.tm b=n
 all:∀x,S.R x->S.tm x=n->∃b∈l,Bl x b
theorem XY {S:Sy}(h:LS S):GW S 0 [S.b0]:=by
 refine⟨fun b hb=>?_,fun x hx ht=>?_⟩
 ·
  rw[KBD] at hb;subst hb;exact h.new
 ·
  rcases h.back hx with rfl|⟨b,hb,hxb⟩
  . exact⟨_,KBD.2 rfl,Bl.refl _⟩
  ·
   have:=(h.step hb hxb).2;have:=(h.top hb).1;omega
structure FZ (S:Sy)(n:Int)(dn lx:List Bd)(E:List (List Int)):Prop where
 dns:∀b∈dn,S.R b/\S.tm b=n
 of:∀x∈lx,∃b∈dn,x∈S.nx b
 all:∀b∈dn,∀x∈S.nx b,x∈lx
 e1:∀e∈E,∃b,S.R b/\S.en b=true/\e=An b/\(S.tm b<n\/b∈dn)
 e2:∀b,S.R b->S.en b=true->(S.tm b<n\/b∈dn)->An b∈E
 nd:E.Nodup
theorem Ww {S:Sy}(h:LS S):FZ S 0 [] [] []:=
 ⟨fun b hb=>(by cases hb),fun b hb=>(by cases hb),fun b hb=>(by cases hb),fun b hb=>(by cases hb),fun b hb _ ht=>(by
  rcases ht with ht|ht
  . have:=(h.top hb).1;omega
  . cases ht),List.Pairwise.nil⟩
theorem FZ.one {S:Sy}(h:LS S){n:Int}{dn lx:List Bd}{E:List (List Int)}(D:FZ S n dn lx E){b:Bd}(hb:S.R b)(ht:S.tm b=n)(hn:∀b'∈dn,¬Bl b' b):
  FZ S n (dn++[b]) (lx++S.nx b) (if S.en b=true then E++[An b] else E):=by
 have m1:∀b',b'∈dn++[b]↔b'∈dn\/b'=b:=fun b'=>by simp
 refine⟨fun b' h'=>?_,fun x hx=>?_,fun b' h' x hx=>?_,fun e he=>?_,fun b' hr hen ht'=>?_,?_⟩
 ·
  rcases (m1 b').1 h' with q|rfl
  . exact D.dns b' q
  . exact⟨hb,ht⟩
 ·
  rcases KA0.1 hx with q|q
  ·
   obtain⟨b',q1,q2⟩:=D.of x q;exact⟨b',(m1 b').2 (.inl q1),q2⟩
  . exact⟨b,(m1 b).2 (.inr rfl),q⟩
 ·
  rcases (m1 b').1 h' with q|rfl
  . exact KB3 _ (D.all b' q x hx)
  . exact KDA _ hx
 ·
  have old:e∈E->∃b0,S.R b0/\S.en b0=true/\e=An b0/\(S.tm b0<n\/b0∈dn++[b]):=fun q=>by
   obtain⟨b0,q1,q2,q3,q4⟩:=D.e1 e q;exact⟨b0,q1,q2,q3,q4.imp id (fun q=>(m1 b0).2 (.inl q))⟩
  by_cases hen:S.en b=true
  ·
   rw[KAP hen] at he;rcases KA0.1 he with q|q
   . exact old q
   . exact⟨b,hb,hen,KBD.1 q,.inr ((m1 b).2 (.inr rfl))⟩
  ·
   rw[KAQ hen] at he;exact old he
 ·
  have h0:(S.tm b'<n\/b'∈dn)\/b'=b:=by
   rcases ht' with q|q
   . exact .inl (.inl q)
   ·
    rcases (m1 b').1 q with q|q
    . exact .inl (.inr q)
    . exact .inr q
  rcases h0 with q|rfl
  ·
   have:=D.e2 b' hr hen q;split
   . exact KB3 _ this
   . exact this
  . rw[KAP hen];simp
 ·
  split
  ·
   rename_i hen;rw[KBp];refine⟨D.nd,by simp,fun x hx y hy e=>?_⟩;rw[KBD] at hy;subst hy;subst e;obtain⟨b0,q1,q2,q3,q4⟩:=D.e1 _ hx;have hs:=h.ends hb q1 hen q2 q3;have et:=(h.like hb q1 hs).2.2.2;rcases q4 with q|q
   . omega
   . exact hn b0 q hs.symm
  . exact D.nd
theorem FZ.next {S:Sy}(h:LS S){n:Int}(hn:0<=n){l dn lx:List Bd}{E:List (List Int)}(F:GW S n l)(D:FZ S n dn lx E)(hall:∀b∈l,∃b'∈dn,Bl b b'):GW S (n+1) lx/\FZ S (n+1) [] [] E:=by
 refine⟨⟨fun x hx=>?_,fun x hx ht=>?_⟩,fun b hb=>by (cases hb),fun b hb=>by (cases hb),fun b hb=>by (cases hb),fun e he=>?_,fun b hr hen ht=>?_,D.nd⟩
 ·
  obtain⟨b,hb,hxb⟩:=D.of x hx;obtain⟨q1,q2⟩:=D.dns b hb;have:=h.step q1 hxb;exact⟨this.1,by rw[this.2,q2]⟩
 ·
  rcases h.back hx with rfl|⟨b,hb,hxb⟩
  . have:=h.new.2;omega
  ·
   have e1:=(h.step hb hxb).2;obtain⟨b1,h1,s1⟩:=F.all b hb (by omega);obtain⟨b2,h2,s2⟩:=hall b1 h1;obtain⟨x',hx',sx⟩:=(h.like hb (D.dns b2 h2).1 (s1.trans s2)).1 x hxb;exact⟨x',D.all b2 h2 x' hx',sx⟩
 ·
  obtain⟨b,q1,q2,q3,q4⟩:=D.e1 e he;refine⟨b,q1,q2,q3,.inl ?_⟩;rcases q4 with q|q
  . omega
  . have:=(D.dns b q).2;omega
 ·
  rcases ht with ht|ht
  ·
   by_cases e:S.tm b=n
   ·
    obtain⟨b1,h1,s1⟩:=F.all b hr e;obtain⟨b2,h2,s2⟩:=hall b1 h1;obtain⟨-,e2,e3,-⟩:=h.like hr (D.dns b2 h2).1 (s1.trans s2);rw[e3];exact D.e2 b2 (D.dns b2 h2).1 (by rw[<-e2];exact hen) (.inr h2)
   . exact D.e2 b hr hen (.inl (by omega))
  . cases ht
theorem Su {S:Sy}(h:LS S){n:Int}(hn:0<=n)(F:GW S n []):∀x,S.R x->S.tm x<n:=by
 have key:∀(m:Nat) (x:Bd),S.R x->S.tm x=n+(m:Int)->False:=by
  intro m
  induction m with
  |zero=>
   intro x hx ht;obtain⟨b,hb,_⟩:=F.all x hx (by omega);cases hb
  |succ m ih=>
   intro x hx ht;rcases h.back hx with rfl|⟨b,hb,hxb⟩
   . have:=h.new.2;omega
   ·
    have:=(h.step hb hxb).2;exact ih b hb (by omega)
 intro x hx;rcases Int.lt_or_le (S.tm x) n with q|q
 . exact q
 . exact absurd (key (S.tm x-n).toNat x hx (by omega)) id
theorem FZ.Y0 {S:Sy}(h:LS S){n:Int}(hn:0<=n){E:List (List Int)}(F:GW S n [])(D:FZ S n [] [] E):∀e,e∈E↔∃b,S.R b/\S.en b=true/\e=An b:=by
 intro e;constructor
 ·
  intro he;obtain⟨b,q1,q2,q3,_⟩:=D.e1 e he;exact⟨b,q1,q2,q3⟩
 ·
  rintro⟨b,q1,q2,rfl⟩;exact D.e2 b q1 q2 (.inl (Su h hn F b q1))
theorem GW.top {S:Sy}(h:LS S){n:Int}{l:List Bd}(F:GW S n l)(hl:l≠[]):n<=24:=by
 cases l with
 |nil=>exact absurd rfl hl
 |cons b l=>
  have:=F.of b (by simp);have:=(h.top this.1).2;omega
def qZ (AA:List (List Dd))(quick:Bool):Sy:=⟨Br AA quick,gL AA quick,Bp AA (AB AA) quick,Dl AA,C5 AA⟩
theorem Wx {AA:List (List Dd)}(hb:AL AA=true){quick:Bool}{b b':Bd}(h:Br AA quick b)(h':Br AA quick b')(he:Dl AA b=true)(he':Dl AA b'=true)(hs:An b=An b'):Bl b b':=by
 obtain⟨a,_,_,_,M,-⟩:=BF hb h;obtain⟨a',_,_,_,M',-⟩:=BF hb h'
 have all:∀ {b:Bd} {a:Ab} {τ:Nat->Nat} {T:Nat} {z:Int},MI AA b a τ T z->Dl AA b=true->∀c,c<AA.length->a.nx c=(AA.getD c []).length/\a.N c=[]:=by
  intro b a τ T z M he c hc;unfold Dl at he;have:=KAx.1 he c (KAd.2 hc);rw[KAO,KAN] at this;rw[(Ed M.B0 hc).2,Fo M.B0 hc] at this;have h2:=M.Vs c hc;refine⟨by omega,?_⟩;have h3:=this.2;rw[KDD] at h3;exact KCc.1 h3
 have e1:b.AK=b'.AK:=by
  rw[M.B0.AK,M'.B0.AK];exact KAh (fun c hc=>by rw[(all M he c (KAd.1 hc)).1,(all M' he' c (KAd.1 hc)).1])
 have e2:b.AJ=b'.AJ:=by
  rw[M.B0.AJ,M'.B0.AJ];exact KAh (fun c hc=>by rw[(all M he c (KAd.1 hc)).2,(all M' he' c (KAd.1 hc)).2])
 unfold An at hs;obtain⟨e3,e4⟩:=KB0 hs (by rw[M.B0.sn,M'.B0.sn];simp);exact⟨e4,e1,by rw[e2],e3⟩
theorem qa {AA:List (List Dd)}(hb:AL AA=true)(quick:Bool):LS (qZ AA quick) where
 new:=by
  refine⟨.new,?_⟩
  have h0:∀c',Am (C5 AA) c'=0:=fun c'=>by
   have:(C5 AA).AK.getD c' 0=0:=by
    show (List.replicate AA.length (0:Int)).getD c' 0=0;rw[IT,KBG];split<;>rfl
   unfold Am;rw[this];rfl
  have h1:∀c',Hp (C5 AA) c'=0:=fun c'=>by
   unfold Hp;show ((List.replicate AA.length ([]:List Nt)).getD c' []).length=0;rw[IT,KBG];split<;>rfl
  have:∀m,LM (fK AA quick (C5 AA)) m=0:=by
   intro m
   induction m with
   |zero=>rfl
   |succ m ih=>
    rw[LM,ih];unfold fK;rw[h0,h1,R8,ko];simp
  exact this _
 step h hx:=⟨.step h hx,(Vo hb h (TH hb h).1 hx).1⟩
 top h:=by
  obtain⟨-,n,e,hn⟩:=TH hb h;show 0<=gL AA quick _/\gL AA quick _<=24;rw[e];omega
 back h:=by
  cases h with
  |new=>exact .inl rfl
  |step h hx=>exact .inr ⟨_,h,hx⟩
 like {b b'} h h' hs:=by
  have ha:=TT hb h h' hs;refine⟨fun x hx=>?_,(Hy (AA:=AA) ha).2.2.1,(Hy (AA:=AA) ha).2.2.2,fC ha⟩;have hx:x∈Bp AA (AB AA) quick b:=hx;unfold Bp at hx;rw[KAv] at hx;obtain⟨s,hs,e⟩:=hx;rw[(Hy (AA:=AA) ha).1] at hs;refine⟨_,KAv.2 ⟨s,hs,rfl⟩,Cj.stand ?_⟩;rw[<-e];split
  . exact QP ha _
  . exact Hz ha _
 ends h h' he he' hs:=Wx hb h h' he he' hs
def qW:Sy:=⟨fun b=>b=⟨[],[],[],[],[],[],[]⟩,fun _=>0,fun _=>[],fun _=>false,⟨[],[],[],[],[],[],[]⟩⟩
theorem qX:LS qW where
 new:=⟨rfl,rfl⟩
 step _ hx:=by cases hx
 top _:=⟨Int.le_refl _,show (0:Int)<=24 by decide⟩
 back h:= .inl h
 like {b b'} h h' _:=by
  have e:b=b':=Eq.trans h (Eq.symm h');exact⟨fun x hx=>(by cases hx),rfl,by rw[e],rfl⟩
 ends _ _ he:=by cases he
def Ft (n:Nat)(l:List Int):List Int:=l++List.replicate (n-l.length) 0
theorem Be {n:Nat}{l:List Int}(h:l.length<=n):(Ft n l).length=n:=by unfold Ft;simp;omega
theorem LD {n:Nat}{l l':List Int}(hl:l.length=l'.length)(h:Ft n l=Ft n l'):l=l':=(KB0 h hl).1
def Dm (b:Bd):List Int:=b.AJ.map (fun x=>(x.length:Int))
def Mc (b:Bd):List Int:=Ft 3 b.AM++Ft 3 b.AK
def Md (b:Bd):List Int:=Mc b++Ft 3 (Dm b)++Ft 6 b.sn
structure QN (b:Bd):Prop where
 p:b.AM.length<=3
 x:b.AK.length<=3
 n:b.AJ.length<=3
 s:b.sn.length<=6
theorem RO {b:Bd}(h:QN b):(Md b).length=15:=by
 unfold Md Mc Dm;rw[KAJ,KAJ,KAJ,Be h.p,Be h.x,Be h.s,Be (by rw[KAj];exact h.n)]
theorem YI {b b':Bd}(h:QN b)(h':QN b')(hp:b.AM.length=b'.AM.length)(hx:b.AK.length=b'.AK.length)(hn:b.AJ.length=b'.AJ.length)(hs:b.sn.length=b'.sn.length)(e:Md b=Md b'):Bl b b':=by
 unfold Md Mc at e;have ln:(Dm b).length=(Dm b').length:=by unfold Dm;rw[KAj,KAj,hn]
 have ln3:(Dm b).length<=3:=by unfold Dm;rw[KAj];exact h.n
 have ln3':(Dm b').length<=3:=by rw[<-ln];exact ln3
 obtain⟨e1,e4⟩:=KB0 e (by rw[KAJ,KAJ,KAJ,KAJ,Be h.p,Be h.x,Be h'.p,Be h'.x,Be ln3,Be ln3']);obtain⟨e1,e3⟩:=KB0 e1 (by rw[KAJ,KAJ,Be h.p,Be h.x,Be h'.p,Be h'.x]);obtain⟨e1,e2⟩:=KB0 e1 (by rw[Be h.p,Be h'.p]);refine⟨LD hp e1,LD hx e2,?_,LD hs e4⟩;have e5:=LD ln e3;unfold Dm at e5;have:b.AJ.map List.length=(b.AJ.map (fun x=>(x.length:Int))).map Int.toNat:=by rw[KCW];exact KAh (fun x _=>(KAV x.length).symm)
 rw[this,e5,KCW];exact KAh (fun x _=>KAV x.length)
theorem dz {b b':Bd}(h:Bl b b'):Md b=Md b':=by
 obtain⟨h1,h2,h3,h4⟩:=h
 have:Dm b=Dm b':=by
  unfold Dm;have q:∀b:Bd,b.AJ.map (fun x=>(x.length:Int))=(b.AJ.map List.length).map Int.ofNat:=fun b=>by rw[KCW];rfl
  rw[q,q,h3]
 unfold Md Mc;rw[h1,h2,h4,this]
structure rD (ds:List (List Dd))(b:Bd):Prop where
 st:QN b
 wf:∀x∈Md b,-1000<=x/\x<=1000
structure Rp (ds:List (List Dd))(S:Sy):Prop where
 one:∀ {b},S.R b->rD ds b
 two:∀ {b b'},S.R b->S.R b'->b.AM.length=b'.AM.length/\b.AK.length=b'.AK.length/\b.AJ.length=b'.AJ.length/\b.sn.length=b'.sn.length
 few:∀L:List (List Int),L.Nodup->(∀z∈L,∃b,S.R b/\z=Md b)->L.length<=Jd
theorem Rp.stand {ds:List (List Dd)}{S:Sy}(h:Rp ds S){b b':Bd}(hb:S.R b)(hb':S.R b')(e:Md b=Md b'):Bl b b':=by
 obtain⟨q1,q2,q3,q4⟩:=h.two hb hb';exact YI (h.one hb).st (h.one hb').st q1 q2 q3 q4 e
theorem jy {AA:List (List Dd)}{b:Bd}{a:Ab}{τ:Nat->Nat}{T:Nat}{z:Int}(M:MI AA b a τ T z):(AW Af (AB AA)).length<=6:=by
 have h9:=BO AA;have h2:=Un (AB AA) (AB AA).length;have e:AW Af (AB AA)=Bh Af (AB AA) (AB AA).length:=by unfold AW;rw[KAP (by omega)]
 have h3:3<=(AB AA).length:=M.inv.lt 2 (M.inv.FU 2 (by omega)).1;have r0:Af ((AB AA).getD 0 zE)=false:=(M.inv.FU 0 (by omega)).2.1;have r1:Af ((AB AA).getD 1 zE)=false:=(M.inv.FU 1 (by omega)).2.1;have r2:Af ((AB AA).getD 2 zE)=false:=(M.inv.FU 2 (by omega)).2.1;have h4:3<=Oe (AB AA) 3:=by simp only[Oe,r0,r1,r2];decide
 have h5:=LH (AB AA) h3;rw[e];omega
theorem qY:Rp [] qW where
 one h:=by
  rw[show _=_ from h];refine⟨⟨by simp,by simp,by simp,by simp⟩,fun x hx=>?_⟩;have e:Md ⟨[],[],[],[],[],[],[]⟩=List.replicate 15 0:=rfl;rw[e] at hx;have:=List.eq_of_mem_replicate hx;omega
 two h h':=by rw[show _=_ from h,show _=_ from h'];exact⟨rfl,rfl,rfl,rfl⟩
 few L hn h:=by
  match L,hn,h with
  | [],_,_=>exact KAb _
  | [_],_,_=>exact (by decide:1<=Jd)
  |x::y::l,hn,h=>
   obtain⟨b,hb,e⟩:=h x (by simp);obtain⟨b',hb',e'⟩:=h y (by simp);have:x=y:=by rw[e,e',show b=_ from hb,show b'=_ from hb']
   rw[List.nodup_cons] at hn;exact absurd (by rw[this];simp) hn.1
theorem So:∀(AA:List (List Dd)) (i:Nat),(AA.getD i []).length<=CQ AA
 | [],i=>by simp
 |d::AA,0=>by rw[CQ];show d.length<=_;omega
 |d::AA,i+1=>by
  have:=So AA i;rw[CQ];show (AA.getD i []).length<=_;omega
theorem Uw {AA:List (List Dd)}(hb:AL AA=true){quick:Bool}(L:List (List Int))(hn:L.Nodup)(h:∀z∈L,∃b,Br AA quick b/\z=Md b):L.length<=Jd:=by
 refine Q6 Jd (fun k c=>∃b a τ T z,MI AA b a τ T z/\Md b=k/\KX AA a=c) _ hn (fun k hk=>?_) ?_
 ·
  obtain⟨b,hr,e⟩:=h k hk;obtain⟨a,τ,T,z,M,-⟩:=BF hb hr;exact⟨_,VN hb (QX hb M),b,a,τ,T,z,M,e.symm,rfl⟩
 ·
  rintro k k' c ⟨b,a,τ,T,z,M,rfl,ec⟩ ⟨b',a',τ',T',z',M',rfl,ec'⟩;have ha:=Li M.B0 M'.B0 (SO hb M M' (ec.trans ec'.symm));obtain⟨h1,h2,h3,h4,_⟩:=GX ha;exact dz ⟨h4,h1,by rw[h2],h3⟩
theorem Mq {n:Nat}{l:List Int}{x:Int}(h:x∈Ft n l):x∈l\/x=0:=by
 unfold Ft at h;rcases KA0.1 h with h|h
 . exact .inl h
 . exact .inr (List.eq_of_mem_replicate h)
theorem qb {AA:List (List Dd)}(hb:AL AA=true)(quick:Bool):Rp AA (qZ AA quick) where
 one {b} h:=by
  obtain⟨a,τ,T,z,M,-⟩:=BF hb h;have hB:=IZ hb M;have h3:=Da hb;have hs:b.sn.length<=6:=by rw[M.B0.sn,KAj];exact jy M
  have h12:CQ AA<=12:=by
   have:=hb;simp only[AL,KAO,KAN] at this;exact this.1.1.2
  unfold Ap Ip NM at hB;simp only[KAO,KAN] at hB;obtain⟨⟨_,h1,_,_,h5,h6⟩,⟨_,_,b1,_,b2,_⟩,_,h10⟩:=hB;unfold JS at b1 b2;simp only[KAO,KAN] at b1 b2;have ck:=fun i (hi:i<AA.length)=>KAx.1 h10 i (KAd.2 hi)
  unfold VL at ck;simp only[KAO,KAN] at ck;have hlen:∀i,(AA.getD i []).length<=12:=fun i=>KAU (So AA i) h12
  refine⟨⟨by omega,by omega,by omega,hs⟩,fun x hx=>?_⟩;unfold Md Mc at hx;simp only[KA0] at hx
  have bQ:∀ {l:List Int} {lo hi:Int},l.all (fun x=>decide (lo<=x)&&decide (x<=hi))=true->x∈l->lo<=x/\x<=hi:=fun hl hx=>by
   have:=KAx.1 hl x hx
   simpa using this
  rcases hx with ((hx|hx)|hx)|hx
  ·
   rcases Mq hx with hx|rfl
   . have:=bQ b1.1 hx;omega
   . omega
  ·
   rcases Mq hx with hx|rfl
   ·
    obtain⟨i,hi,e⟩:=KBk hx;have q:=(ck i (by omega)).1;rw[IT,KAH hi] at q;simp only[KBR] at q;rw[e] at q;have:=hlen i;omega
   . omega
  ·
   rcases Mq hx with hx|rfl
   ·
    unfold Dm at hx;obtain⟨n,hn,rfl⟩:=KAv.1 hx;obtain⟨i,hi,e⟩:=KBk hn;have q:=(ck i (by omega)).2.1;rw[IT,KAH hi] at q;simp only[KBR] at q;rw[e] at q;omega
   . omega
  ·
   rcases Mq hx with hx|rfl
   . have:=bQ b2.1 hx;omega
   . omega
 two {b b'} h h':=by
  obtain⟨a,τ,T,z,M,-⟩:=BF hb h;obtain⟨a',τ',T',z',M',-⟩:=BF hb h';exact⟨by rw[M.B0.AM,M'.B0.AM];simp,by rw[M.B0.AK,M'.B0.AK];simp,by rw[M.B0.AJ,M'.B0.AJ];simp,by rw[M.B0.sn,M'.B0.sn];simp⟩
 few L hn h:=Uw hb L hn h
def ku:List Value:=List.replicate 15 (.int .i64 0)
def Up (b:Bd):Array Value:=((Md b).map (Value.int .i64)).toArray
def Hs (b:Bd):Value:= .agg (Up b)
theorem Ui {w:World}{a:Option Addr}{n c:Nat}{zs:List Int}(h:Rd w (.slice a n c) zs):0<(zs.map (Value.int .i64)).length->∃ad,a=some ad/\∀j u,(zs.map (Value.int .i64))[j]? = some u->w.cell? (ad.add j)=some u:=by
 obtain⟨a',c',e,h⟩:=h;simp only[KAT] at e;obtain⟨rfl,-,-⟩:=e;intro hpos;rcases h with h|⟨b,o,rfl,hb,hc⟩
 . rw[h] at hpos;simp at hpos
 ·
  refine⟨_,rfl,fun j u hj=>?_⟩;rw[KBN] at hj
  have hjl:j<zs.length:=by
   apply KBA;intro hno;rw[KA9 (by omega)] at hj;cases hj
  have e1:(⟨b,o,none⟩:Addr).add j=⟨b,o+j,none⟩:=by unfold Addr.add;split<;>simp_all
  rw[e1,hc j hjl,IT];rw[KAH hjl] at hj ⊢;exact hj
theorem LB (zs:List Int):∀u∈zs.map (Value.int .i64),u.oneCell'=true:=by
 intro u hu;obtain⟨x,_,rfl⟩:=KAv.1 hu;rfl
theorem kH (b:Bd):(Up b).all (·.oneCell')=true:=by
 unfold Up;rw[Array.all_eq_true_iff_forall_mem];intro x hx;rw[List.mem_toArray] at hx;exact LB _ x hx
theorem Uv:(Tryz.prog.info? 127).map (·.size)=some 15:=by kernel_rfl
theorem Iu (L:List Int)(off:Nat)(cs:List Int):splice (L.map (Value.int .i64)) off (cs.map (Value.int .i64))=(splice L off cs).map (Value.int .i64):=by
 unfold splice;rw[KBB,KBB,List.map_take,List.map_drop,KAj]
theorem RS (A C:List Int)(n:Nat)(cs:List Int)(h:cs.length<=n):splice (A++(List.replicate n 0++C)) A.length cs=A++(Ft n cs++C):=by
 unfold splice Ft;rw[List.take_left,<-List.drop_drop,List.drop_left,List.drop_append_of_le_length (by rw[KBZ];exact h),List.drop_replicate,KA2]
theorem kP (A C:List Int)(n:Nat)(l:List Int){k:Nat}(hk:k<l.length)(hl:l.length<=n):(A++(Ft n (l.take k)++C)).set (A.length+k) (l.getD k 0)=A++(Ft n (l.take (k+1))++C):=by
 have e1:(l.take k).length=k:=by rw[KAz];omega
 have e2:(l.take (k+1)).length=k+1:=by rw[KAz];omega
 unfold Ft;rw[e1,e2,KCN _ _ (by omega),show A.length+k-A.length=k by omega,KA2,KCN _ _ (by omega),e1,show k-k=0 by omega,show n-k=(n-(k+1))+1 by omega,List.replicate_succ,KBr,KAa,KCR hk,IT,KAH hk];simp only[KBR,KA2,KBr,KBz]
def eH (b:Bd)(k:Nat):List Int:=Mc b++(Ft 3 ((Dm b).take k)++Ft 6 b.sn)
theorem kJ (b:Bd):eH b b.AJ.length=Md b:=by
 unfold eH Md;rw[KBS (by unfold Dm;rw[KAj];exact KAM _),KA2]
theorem N3 {b:Bd}(h:QN b):(Mc b).length=6:=by unfold Mc;rw[KAJ,Be h.p,Be h.x]
theorem kK {b:Bd}(h:QN b)(k:Nat):(eH b k).length=15:=by
 unfold eH;rw[KAJ,KAJ,N3 h,Be h.s,Be (by rw[KAz];unfold Dm;rw[KAj];have:=h.n;omega)]
theorem kL {b:Bd}(h:QN b){k:Nat}(hk:k<b.AJ.length):(eH b k).set (6+k) ((b.AJ.getD k []).length:Int)=eH b (k+1):=by
 have hl:(Dm b).length=b.AJ.length:=by unfold Dm;rw[KAj]
 have q:=kP (Mc b) (Ft 6 b.sn) 3 (Dm b) (k:=k) (by omega) (by rw[hl];exact h.n);rw[N3 h] at q
 have e:(Dm b).getD k 0=((b.AJ.getD k []).length:Int):=by
  unfold Dm;rw[IT,KBN,IT,KAH hk];rfl
 rw[e] at q;exact q
theorem YJ {b:Bd}(h:QN b):splice (splice (splice ku 0 (b.AM.map (Value.int .i64))) 3 (b.AK.map (Value.int .i64))) 9 (b.sn.map (Value.int .i64))=(eH b 0).map (Value.int .i64):=by
 have e0:ku=(([]:List Int)++(List.replicate 3 0++List.replicate 12 0)).map (Value.int .i64):=rfl;have s1:=RS [] (List.replicate 12 0) 3 b.AM h.p;have s2:=RS (Ft 3 b.AM) (List.replicate 9 0) 3 b.AK h.x;have s3:=RS (Mc b++List.replicate 3 0) [] 6 b.sn h.s;rw[Be h.p] at s2;rw[KAJ,N3 h,KBZ] at s3;rw[e0,Iu];rw[show splice (([]:List Int)++(List.replicate 3 0++List.replicate 12 0)) 0 b.AM=Ft 3 b.AM++(List.replicate 3 0++List.replicate 9 0) from s1,Iu,s2,Iu]
 congr 1
 rw[show Ft 3 b.AM++(Ft 3 b.AK++List.replicate 9 0)=Mc b++List.replicate 3 0++(List.replicate 6 0++[]) by unfold Mc;simp only[KA2,KBn];rfl];rw[s3];unfold eH;simp[Ft]
abbrev zN:Nt:=(0,0,0)
def cN (x:Nt):List Value:=[.int .i64 x.1,.int .i64 x.2.1,.int .i64 x.2.2]
theorem Eg (x:Nt):(cN x).length=3:=rfl
abbrev lV (w:World)(v:Value)(ns:List Nt):Prop:=ql cN 3 w v ns
theorem yD {w:World}{b o:Nat}{x:Nt}(h:fZ cN w b o x):w.cell? ⟨b,o,none⟩=some (.int .i64 x.1)/\w.cell? ⟨b,o+1,none⟩=some (.int .i64 x.2.1)/\w.cell? ⟨b,o+2,none⟩=some (.int .i64 x.2.2):=
 ⟨h 0 _ rfl,h 1 _ rfl,h 2 _ rfl⟩
theorem Ky {ns:List Nt}{i:Nat}(h:i<ns.length):ns[i]? = some (ns.getD i zN):=by
 rw[IT,KAH h];rfl
def Yv (w:World)(v:Value)(qF:List (List Nt)):Prop:=
 ∃(a:Option Addr) (cap:Nat),v = .slice a qF.length cap /\
  (qF=[]\/∃b off,a=some ⟨b,off,none⟩/\b<w.heap.size/\∀i,i<qF.length->∃vi,w.cell? ⟨b,off+i,none⟩=some vi/\lV w vi (qF.getD i []))
theorem Yv.keep {w w':World}{v:Value}{qF:List (List Nt)}(h:Yv w v qF)(k:AC w w'):Yv w' v qF:=by
 obtain⟨a,cap,hv,h⟩:=h;refine⟨a,cap,hv,?_⟩;rcases h with h|⟨b,off,ha,hb,hc⟩
 . exact .inl h
 ·
  refine .inr ⟨b,off,ha,KAC hb k.size,fun i hi=>?_⟩;obtain⟨vi,h1,h2⟩:=hc i hi;exact⟨vi,(k.cell hb).trans h1,h2.keep k⟩
structure BV where
 W:Value
 P:Value
 L:Value
 N:Value
 X:Value
 S:Value
 F:Value
 R:Value
abbrev BV.arr (v:BV):Array Value:=#[v.W,v.P,v.L,v.N,v.X,v.S,v.F,v.R]
abbrev BV.agg (v:BV):Value:= .agg #[v.W,v.P,v.L,v.N,v.X,v.S,v.F,v.R]
structure Cw (w:World)(v:BV)(AA:List (List Dd))(b:Bd):Prop where
 W:Fw w v.W AA
 P:Rd w v.P b.AM
 L:Rd w v.L b.AQ
 N:Yv w v.N b.AJ
 X:Rd w v.X b.AK
 S:Rd w v.S b.sn
 F:Rd w v.F b.fr
 R:fu w v.R b.rws
theorem Cw.keep {w w':World}{v:BV}{AA:List (List Dd)}{b:Bd}(h:Cw w v AA b)(k:AC w w'):Cw w' v AA b:=
 ⟨h.W.keep k,h.P.keep k,h.L.keep k,h.N.keep k,h.X.keep k,h.S.keep k,h.F.keep k,h.R.keep k⟩
structure MS (AA:List (List Dd))(b:Bd):Prop where
 w1:AA.length<=1048576
 w2:∀i,i<AA.length->(AA.getD i []).length<=1048576
 AM:b.AM.length<=1048576
 AQ:b.AQ.length<=1048576
 n1:b.AJ.length<=1048576
 n2:∀i,i<b.AJ.length->(b.AJ.getD i []).length<=1048576
 AK:b.AK.length<=1048576
 sn:b.sn.length<=1048576
 fr:b.fr.length<=1048576
 r1:b.rws.length<=1048576
 r2:∀i,i<b.rws.length->(b.rws.getD i []).length<=1048576
theorem Tryz.aO:laidOutB Tryz.prog=true:=by kernel_rfl
theorem Tryz.wQ:(127:TypeId)<Tryz.prog.types.size:=KCF (by kernel_rfl)
theorem Tryz.qc:(match Tryz.prog.underlying 127 with|some (.array _ _)|some (.struct _)=>true|_=>false)=true:=by rw[Tryz.underlying127]
theorem aQ:Maps.Keyed Tryz.prog 127:=Maps.Keyed.of_law (deep_law_laid Tryz.aO (m:=4) (by omega) Tryz.wQ (by kernel_rfl) Tryz.qc)
theorem Tryz.vQ:Tryz.prog.keyType 127=true:=by kernel_rfl
theorem Tryz.VI:Tryz.prog.cellsOf 127=15:=by kernel_rfl
theorem Tryz.VG:Tryz.prog.cellsOf 124=3:=by kernel_rfl
theorem Tryz.VH:Tryz.prog.cellsOf 125=6:=by kernel_rfl
theorem Tryz.ZR:Tryz.prog.cellsOf 2=1:=by kernel_rfl
theorem fQ {x:Int}(h:-1000<=x/\x<=1000):(Lit.int .i64 x).wf=true:=WalkArith.wf_i64 (by omega)
theorem EO (D:Nat){x:Int}(h:-1000<=x/\x<=1000):Tryz.prog.keyLits (D+1) 2 [.int .i64 x]=some [.int .i64 x]:=by
 have:=fQ h;simp[Program.keyLits,Tryz.underlying2,this]
theorem Qw (D:Nat){a b c:Int}(ha:-1000<=a/\a<=1000)(hb:-1000<=b/\b<=1000)(hc:-1000<=c/\c<=1000):Tryz.prog.keyLits (D+2) 124 [.int .i64 a,.int .i64 b,.int .i64 c]=some [.int .i64 a,.int .i64 b,.int .i64 c]:=by
 have e:Tryz.prog.keyLits (D+2) 124 [.int .i64 a,.int .i64 b,.int .i64 c]=((List.range 3).mapM fun i=>Tryz.prog.keyLits (D+1) 2 (([.int .i64 a,.int .i64 b,.int .i64 c].drop (i*1)).take 1)).map List.flatten:=by
  rw[KC8];simp only[Tryz.underlying124];simp only[Tryz.VG,Tryz.ZR];rfl
 rw[e];simp[List.range,List.range.loop,EO D ha,EO D hb,EO D hc]
theorem jZ (D:Nat){a b c d e f:Int}(ha:-1000<=a/\a<=1000)(hb:-1000<=b/\b<=1000)(hc:-1000<=c/\c<=1000)(hd:-1000<=d/\d<=1000)(he:-1000<=e/\e<=1000)(hf:-1000<=f/\f<=1000):
  Tryz.prog.keyLits (D+2) 125 [.int .i64 a,.int .i64 b,.int .i64 c,.int .i64 d,.int .i64 e,.int .i64 f]=some [.int .i64 a,.int .i64 b,.int .i64 c,.int .i64 d,.int .i64 e,.int .i64 f]:=by
 have q:Tryz.prog.keyLits (D+2) 125 [.int .i64 a,.int .i64 b,.int .i64 c,.int .i64 d,.int .i64 e,.int .i64 f]=((List.range 6).mapM fun i=>Tryz.prog.keyLits (D+1) 2 (([.int .i64 a,.int .i64 b,.int .i64 c,.int .i64 d,.int .i64 e,.int .i64 f].drop (i*1)).take 1)).map List.flatten:=by
  rw[KC8];simp only[Tryz.underlying125];simp only[Tryz.VH,Tryz.ZR];rfl
 rw[q];simp[List.range,List.range.loop,EO D ha,EO D hb,EO D hc,EO D hd,EO D he,EO D hf]
theorem jY {l:List Int}(h:l.length=15):∃a0 a1 a2 a3 a4 a5 a6 a7 a8 a9 a10 a11 a12 a13 a14:Int,l=[a0,a1,a2,a3,a4,a5,a6,a7,a8,a9,a10,a11,a12,a13,a14]:=by
 match l,h with
 | [a0,a1,a2,a3,a4,a5,a6,a7,a8,a9,a10,a11,a12,a13,a14],_=>exact⟨_,_,_,_,_,_,_,_,_,_,_,_,_,_,_,rfl⟩
theorem aK {ds:List (List Dd)}{b:Bd}(h:rD ds b):∃l,keyOf Tryz.prog 127 (Hs b)=some l:=by
 have hl:=RO h.st;have hw:=h.wf;unfold Hs Up;generalize Md b=L at hl hw;obtain⟨a0,a1,a2,a3,a4,a5,a6,a7,a8,a9,a10,a11,a12,a13,a14,rfl⟩:=jY hl;simp only[KBL,KBo,KCl,forall_eq_or_imp,forall_eq] at hw;obtain⟨h0,h1,h2,h3,h4,h5,h6,h7,h8,h9,h10,h11,h12,h13,h14⟩:=hw;unfold keyOf;rw[Tryz.underlying127];simp only
 have hf:(Value.agg (([a0,a1,a2,a3,a4,a5,a6,a7,a8,a9,a10,a11,a12,a13,a14]:List Int).map (Value.int .i64)).toArray).formed Tryz.prog 127=true:=by
  simp[Value.formed,Tryz.underlying127,Tryz.VI]
 rw[hf,Tryz.vQ];simp only[Bool.and_self,KCT,Option.map_eq_some_iff];obtain⟨D,hD⟩:∃D,Tryz.prog.types.size+1=D+3:=⟨Tryz.prog.types.size-2,by have:2<=Tryz.prog.types.size:=KCF (by kernel_rfl);omega⟩;rw[hD];refine⟨_,[.int .i64 a0,.int .i64 a1,.int .i64 a2,.int .i64 a3,.int .i64 a4,.int .i64 a5,.int .i64 a6,.int .i64 a7,.int .i64 a8,.int .i64 a9,.int .i64 a10,.int .i64 a11,.int .i64 a12,.int .i64 a13,.int .i64 a14],?_,rfl⟩;show Tryz.prog.keyLits (D+3) 127 [.int .i64 a0,.int .i64 a1,.int .i64 a2,.int .i64 a3,.int .i64 a4,.int .i64 a5,.int .i64 a6,.int .i64 a7,.int .i64 a8,.int .i64 a9,.int .i64 a10,.int .i64 a11,.int .i64 a12,.int .i64 a13,.int .i64 a14]=_;rw[KC8];simp only[Tryz.underlying127];simp[Tryz.VI,Tryz.VG,Tryz.VH,Qw D h0 h1 h2,Qw D h3 h4 h5,Qw D h6 h7 h8,jZ D h9 h10 h11 h12 h13 h14]
theorem kM {b b':Bd}(h:Hs b=Hs b'):Md b=Md b':=by
 unfold Hs Up at h;simp only[Value.agg.injEq,List.toArray_eq_iff] at h;have h:(Md b).map (Value.int .i64)=(Md b').map (Value.int .i64):=by simpa using h
 exact List.map_inj_right (fun x y e=>by simpa using e) |>.1 h
def R0:Value->Option (DataW Unit×List MemPlace):=fun _=>some (.map [],[])
structure Wv (w:World)(g:Nat)(es:Array MapEntry)(l:List (BV×Bd)):Prop where
 ex:∃clock,w.heap[g]? = some (.map es clock)/\Fit Tryz.prog 127 R0 es clock
 pF:∀x∈es.toList,∃p∈l,x.key=Hs p.2/\x.val=p.1.agg
 yE:∀p∈l,∃x∈es.toList,x.key=Hs p.2
theorem Wv.new (w:World):Wv (w.alloc (.map #[] 0)) w.heap.size #[] []:=
 ⟨⟨0,(MapKept.heap_alloc w _).1,⟨by simp,stamped_empty 0,by simp⟩⟩,fun x hx=>by simp at hx,fun p hp=>by cases hp⟩
theorem Wv.lt {w:World}{g:Nat}{es:Array MapEntry}{l:List (BV×Bd)}(h:Wv w g es l):g<w.heap.size:=by
 obtain⟨c,h1,_⟩:=h.ex;exact (KAm.1 h1).1
theorem Wv.same {w w':World}{g:Nat}{es:Array MapEntry}{l:List (BV×Bd)}(h:Wv w g es l)(e:w'.heap[g]? = w.heap[g]?):Wv w' g es l:=by
 obtain⟨c,h1,h2⟩:=h.ex;exact⟨⟨c,e.trans h1,h2⟩,h.pF,h.yE⟩
theorem Wv.keep {w w':World}{g:Nat}{es:Array MapEntry}{l:List (BV×Bd)}(h:Wv w g es l)(k:AC w w'):Wv w' g es l:=h.same (KAW k _ h.lt)
theorem Wv.kept {w w':World}{g:Nat}{es:Array MapEntry}{l:List (BV×Bd)}{r:Option Nat}(h:Wv w g es l)(k:w.grownBy w' r)(hr:r≠some g):Wv w' g es l:=h.same (k.block g h.lt (fun e=>hr e.symm))
theorem Wv.put {w:World}{g:Nat}{es:Array MapEntry}{l:List (BV×Bd)}(h:Wv w g es l)(hn:es.size<maxLen){b:Bd}(hk:∃kl,keyOf Tryz.prog 127 (Hs b)=some kl)(bv:BV):
  ∃w' es',(Instr.mapUpdate 130 (.map (some g)) (Hs b) bv.agg).run Tryz.prog w = .ok () w'/\Wv w' g es' (l++[(bv,b)])/\w.grownBy w' (some g):=by
 obtain⟨c,hb,F⟩:=h.ex;obtain⟨kl,hk⟩:=hk;obtain⟨es',c',hrun,F',hput,-,-,hwho⟩:=Maps.fit_store (R':=R0) aQ Tryz.underlying130 hb F hn (key:=Hs b) (val:=bv.agg) (fun _ _ _ _ hz=>hz) hk (yv:=(.map [],[])) rfl;refine⟨_,es',hrun,⟨⟨c',heap_setBlock_same hb _,F'⟩,fun x hx=>?_,fun p hp=>?_⟩,⟨rfl,rfl,rfl,by simp[setBlock],fun i _ hi=>heap_setBlock_other hb _ (fun e=>hi (by rw[e]))⟩⟩
 ·
  rcases hwho x hx with ⟨q1,q2⟩|⟨q1,q2⟩
  ·
   obtain⟨p,hp,e1,e2⟩:=h.pF x q1;exact⟨p,KB3 _ hp,e1,e2⟩
  . exact⟨(bv,b),by simp,q1,q2⟩
 ·
  have key:∀(k:Value) (kl':Lit),keyOf Tryz.prog 127 k=some kl'->(kl'=kl\/∃x∈es.toList,x.key=k)->∃x∈es'.toList,x.key=k:=by
   intro k kl' hk' ho
   have hm:∃d,(kl',d)∈ChangeMaps.putKey (H:=Unit) kl (.map []) ((es.toList.map (WideElems.rg Tryz.prog 127 R0)).foldr DataW.insert []):=by
    unfold ChangeMaps.putKey;by_cases e:kl'=kl
    ·
     subst e;exact⟨_,ChangeMaps.mem_insert_iff.2 (.inl rfl)⟩
    ·
     rcases ho with ho|⟨x,hx,rfl⟩
     . exact absurd ho e
     ·
      obtain⟨y,hy⟩:=F.reads x hx;have e1:=WideElems.rd_key hy;rw[hk'] at e1;have e1:=KAI e1;refine⟨y.2,ChangeMaps.mem_insert_iff.2 (.inr (KBF.2 ⟨mem_sorted.2 (KAv.2 ⟨x,hx,?_⟩),?_⟩))⟩
      . rw[WideElems.rg_of hy,e1]
      . exact (Maps.notKey_iff (aQ.key hk)).2 e
   obtain⟨d,hd⟩:=hm;rw[<-hput] at hd;obtain⟨x,hx,e⟩:=KAv.1 (mem_sorted.1 hd);obtain⟨y,hy⟩:=F'.reads x hx;rw[WideElems.rg_of hy] at e;have e1:=WideElems.rd_key hy;rw[e] at e1;exact⟨x,hx,aQ.inj e1 hk'⟩
  rcases KA0.1 hp with hp|hp
  ·
   obtain⟨x,hx,e⟩:=h.yE p hp;obtain⟨y,hy⟩:=F.reads x hx;have e1:=WideElems.rd_key hy;rw[<-e];exact key x.key y.1 e1 (.inr ⟨x,hx,rfl⟩)
  ·
   rw[KBD] at hp;subst hp;exact key (Hs b) kl hk (.inl rfl)
def kI:Value->List Int
 | .agg cs=>cs.toList.map intOf
 |_=>[]
theorem aH (b:Bd):kI (Hs b)=Md b:=by
 unfold Hs Up kI;simp only[KCW];have:(intOf ∘ Value.int .i64)=id:=by funext x;rfl
 rw[this,List.map_id]
theorem Wv.room {w:World}{g:Nat}{es:Array MapEntry}{l:List (BV×Bd)}(h:Wv w g es l){ds:List (List Dd)}{S:Sy}(Z:Rp ds S)(hl:∀p∈l,S.R p.2):es.size<maxLen:=by
 obtain⟨c,_,F⟩:=h.ex;have hn:es.toList.Pairwise (fun x y=>x.key≠y.key):=((KDR es c).1 F.stamped).2.2
 have h1:((es.toList.map (fun x=>kI x.key)).Nodup):=by
  rw[List.Nodup,KCZ];refine hn.imp_of_mem ?_;intro x y hx hy hne e;obtain⟨p,_,e1,_⟩:=h.pF x hx;obtain⟨q,_,e2,_⟩:=h.pF y hy;rw[e1,e2,aH,aH] at e;apply hne;rw[e1,e2];unfold Hs Up;rw[e]
 have h2:=Z.few _ h1 (fun z hz=>by
  obtain⟨x,hx,rfl⟩:=KAv.1 hz;obtain⟨p,hp,e1,_⟩:=h.pF x hx
  exact⟨p.2,hl p hp,by rw[e1,aH]⟩)
 rw[KAj,KCJ] at h2;have:Jd<maxLen:=by decide
 omega
def cD (d:Dd):List Value:=[.int .i64 d.1,.int .i64 d.2.1,.int .i64 d.2.2.1,.int .i64 d.2.2.2]
def Bq (w:World)(base:Nat)(v:Value)(ds:List Dd):Prop:=w.ownsRow base 82 4 v ds.length (ds.flatMap cD)
theorem Bq.keep {w w':World}{base:Nat}{v:Value}{ds:List Dd}(h:Bq w base v ds)(k:AC w w'):Bq w' base v ds:=
 KAs h k.grownBy (by cases v.ownBlock<;>simp)
theorem Bq.ge {w:World}{base:Nat}{v:Value}{ds:List Dd}(h:Bq w base v ds):∀k,v.ownBlock=some k->base<=k:=fun k hk=>(KAY h k hk).1
theorem IE {w:World}{base:Nat}{v:Value}{ds:List Dd}{d:Dd}(h:w.ownsRow base 82 4 v (ds.length+1) (ds.flatMap cD++cD d)):Bq w base v (ds++[d]):=by
 unfold Bq;simpa using h
theorem ZM:∀(ds:List Dd) (i m:Nat),i<ds.length->m<4->(ds.flatMap cD)[i*4+m]? = (cD (ds.getD i zD))[m]?
 | [],i,m,h,_=>by simp at h
 |d::r,0,m,_,hm=>by
  rw[KBH,KAu (by simp[cD];omega)];simp
 |d::r,i+1,m,h,hm=>by
  have ih:=ZM r i m (by simpa using h) hm;rw[KBH,KAy (by simp[cD];omega),show (i+1)*4+m-(cD d).length=i*4+m by simp[cD];omega,ih];simp
theorem Bq.S9 {w:World}{base:Nat}{v:Value}{ds:List Dd}(h:Bq w base v ds):Hw w base v ds:=by
 have h2:=h;rcases h.2 with ⟨rfl,hn⟩|⟨g,cap,cur,rfl,hb,hg,hcap,_,hs,_⟩
 ·
  have:ds=[]:=KAZ hn;subst this;exact⟨none,0,rfl,.inl rfl⟩
 ·
  obtain⟨x,rfl⟩:∃x,cap=ds.length+x:=⟨cap-ds.length,by omega⟩;by_cases h0:ds=[]
  . exact⟨_,x,rfl,.inl h0⟩
  ·
   have len:(ds.flatMap cD).length=ds.length*4:=h.1
   have big:ds.length*4<=cur.size:=by
    have h5:=KAp h2 (ds.length*4-1) (by
     have:ds.length≠0:=fun e=>h0 (KAZ e)
     omega)
    rw[KAL w g _ cur _ (0,0) hg] at h5;have hpos:ds.length≠0:=fun e=>h0 (KAZ e)
    rw[KAH (by omega)] at h5;have:=(KAm.1 h5).1;omega
   refine⟨_,x,rfl,.inr ⟨g,rfl,hb,⟨cur,_,hg,big⟩,fun i hi=>?_⟩⟩
   have key:∀m,m<4->w.cell? ⟨g,i*4+m,none⟩=(cD (ds.getD i zD))[m]?:=fun m hm=>by
    rw[KAp h2 (i*4+m) (by omega),ZM ds i m hi hm]
   exact⟨key 0 (by omega),key 1 (by omega),key 2 (by omega),key 3 (by omega)⟩
theorem Bq.shape {w:World}{base:Nat}{v:Value}{ds:List Dd}(h:Bq w base v ds):∃a c,v = .slice a ds.length c:=by
 obtain⟨a,c,hv,_⟩:=h.S9;exact⟨a,_,hv⟩
def vZ:Value:= .slice none 0 0
theorem JA {α:Type}(l m:List α)(i:Nat)(z:α)(h:i<l.length):(l++m).getD i z=l.getD i z:=by
 rw[IT,KAu h,IT]
theorem Pf {α:Type}(l:List α)(x z:α):(l++[x]).getD l.length z=x:=by
 rw[IT];simp
def Ro (w:World)(base:Nat)(v:Value)(AA:List (List Dd)):Prop:=
 ∃(a:Option Addr) (cap:Nat),v = .slice a AA.length cap /\
  (AA=[]\/∃b off,a=some ⟨b,off,none⟩/\base<=b/\b<w.heap.size/\∀i,i<AA.length->∃vi,w.cell? ⟨b,off+i,none⟩=some vi/\Bq w base vi (AA.getD i []))
theorem Ro.rd {w:World}{base:Nat}{v:Value}{AA:List (List Dd)}(h:Ro w base v AA):Fw w v AA:=by
 obtain⟨a,cap,hv,h⟩:=h;refine⟨a,cap,hv,?_⟩;rcases h with h|⟨b,off,ha,_,hb,hc⟩
 . exact .inl h
 ·
  refine .inr ⟨b,off,ha,hb,fun i hi=>?_⟩;obtain⟨vi,h1,h2⟩:=hc i hi;exact⟨vi,h1,h2.S9.rd⟩
theorem Ro.keep {w w':World}{base:Nat}{v:Value}{AA:List (List Dd)}(h:Ro w base v AA)(k:AC w w'):Ro w' base v AA:=by
 obtain⟨a,cap,hv,h⟩:=h;refine⟨a,cap,hv,?_⟩;rcases h with h|⟨b,off,ha,hbb,hb,hl⟩
 . exact .inl h
 ·
  refine .inr ⟨b,off,ha,hbb,KAC hb k.size,fun i hi=>?_⟩;obtain⟨vi,h1,h2⟩:=hl i hi;exact⟨vi,(k.cell hb).trans h1,h2.keep k⟩
def Jh (w:World)(base N:Nat)(v:Value)(AA:List (List Dd)):Prop:=
 ∃(a:Option Addr) (cap:Nat),v = .slice a AA.length cap /\
  (AA=[]\/∃b off,a=some ⟨b,off,none⟩/\base<=b/\b<N/\b<w.heap.size/\∀i,i<AA.length->∃vi,w.cell? ⟨b,off+i,none⟩=some vi/\Bq w base vi (AA.getD i [])/\∀k,vi.ownBlock=some k->k<N)
theorem Ro.upto {w:World}{base:Nat}{v:Value}{AA:List (List Dd)}(h:Ro w base v AA):Jh w base w.heap.size v AA:=by
 obtain⟨a,cap,hv,h⟩:=h;refine⟨a,cap,hv,?_⟩;rcases h with h|⟨b,off,ha,hbb,hb,hl⟩
 . exact .inl h
 ·
  refine .inr ⟨b,off,ha,hbb,hb,hb,fun i hi=>?_⟩;obtain⟨vi,h1,h2⟩:=hl i hi;exact⟨vi,h1,h2,fun k hk=>(h2.lt k hk).2⟩
theorem Jh.rd {w:World}{base N:Nat}{v:Value}{AA:List (List Dd)}(h:Jh w base N v AA):Fw w v AA:=by
 obtain⟨a,cap,hv,h⟩:=h;refine⟨a,cap,hv,?_⟩;rcases h with h|⟨b,off,ha,_,_,hb,hc⟩
 . exact .inl h
 ·
  refine .inr ⟨b,off,ha,hb,fun i hi=>?_⟩;obtain⟨vi,h1,h2,_⟩:=hc i hi;exact⟨vi,h1,h2.S9.rd⟩
theorem Jh.kept {w w':World}{base N:Nat}{row:Option Nat}{v:Value}{AA:List (List Dd)}(h:Jh w base N v AA)(hg:w.grownBy w' row)(hr:∀g,row=some g->g<base\/N<=g):Jh w' base N v AA:=by
 obtain⟨a,cap,hv,h⟩:=h;refine⟨a,cap,hv,?_⟩;rcases h with h|⟨b,off,ha,hbb,hbN,hb,hl⟩
 . exact .inl h
 ·
  refine .inr ⟨b,off,ha,hbb,hbN,KAC hb hg.size,fun i hi=>?_⟩;obtain⟨vi,h1,h2,h3⟩:=hl i hi;have hblk:w'.heap[b]? = w.heap[b]?:=hg.block b hb (fun e=>by have:=hr b e.symm;omega);refine⟨vi,?_,h2.kept hg ?_,h3⟩
  ·
   simp only[World.cell?,hblk] at h1 ⊢;exact h1
  ·
   cases hu:vi.ownBlock with
   |none=>exact .inl rfl
   |some k=>exact .inr (fun e=>by have:=h2.ge k hu;have:=h3 k hu;have:=hr k e.symm;omega)
end Go.Proofs.YtflehmepjhikcaaGreatDoor
