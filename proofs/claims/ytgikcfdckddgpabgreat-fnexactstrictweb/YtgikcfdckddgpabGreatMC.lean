/- Gathered texts. -/
import Derived.Test.YtgikcfdckddgpabGreatMB
import Derived.Maps.AppendAt
import Derived.Laws.OwnMore
import Derived.OwnWalk
import Derived.RangeFuncBox
import Derived.RangeFuncCalls
import Derived.RangeFuncLeaves
import Derived.Laws.Tables
set_option maxRecDepth 100000
set_option maxHeartbeats 8000000
namespace Go.Proofs.YtgikcfdckddgpabGreat
open Go.ChangeShapes Go.WideShapes Go.ChangeAt Go.RowKit
open Go.RowKit
def RdL (w:World)(v:Value)(zss:List (List Int)):Prop:=
 ∃(a:Option Addr) (cap:Nat),v = .slice a zss.length cap ∧
  (zss=[]∨∃b off,a=some ⟨b,off,none⟩∧b<w.heap.size∧∀i,i<zss.length→∃vi,w.cell? ⟨b,off+i,none⟩=some vi∧Rd w vi (zss.getD i []))
theorem RdL.keep {w w':World}{v:Value}{zss:List (List Int)}(h:RdL w v zss)(k:Keep w w'):RdL w' v zss:=by
 obtain⟨a,cap,hv,h⟩:=h;refine⟨a,cap,hv,?_⟩;rcases h with h|⟨b,off,ha,hb,hc⟩
 · exact .inl h
 ·
  refine .inr ⟨b,off,ha,Nat.lt_of_lt_of_le hb k.size,fun i hi=>?_⟩;obtain⟨vi,h1,h2⟩:=hc i hi;exact⟨vi,(k.cell hb).trans h1,h2.keep k⟩
theorem Rd.keptR {w w':World}{v:Value}{zs:List Int}{row:Option Nat}(h:Rd w v zs)(hg:w.grownBy w' row)(hne:v.ownBlock=none∨v.ownBlock≠row):Rd w' v zs:=by
 obtain⟨a,cap,rfl,h⟩:=h;refine⟨a,cap,rfl,?_⟩;rcases h with h|⟨b,off,rfl,hb,hc⟩
 · exact .inl h
 ·
  refine .inr ⟨b,off,rfl,Nat.lt_of_lt_of_le hb hg.size,fun i hi=>?_⟩;rw[World.cell?_of_block (w:=w) (hg.block b hb (fun e=>by rcases hne with h|h<;>simp[Value.ownBlock] at h;exact h e))];exact hc i hi
def capZ:Value→Nat
 | .slice _ _ c=>c
 |_=>0
theorem Own.capz {w:World}{base:Nat}{v:Value}{zs:List Int}(h:Own w base v zs):zs.length≤capZ v:=by
 rcases h.2 with ⟨rfl,hz⟩|⟨g,cap,cur,rfl,hb,hg,hc,_⟩
 · rw[hz];exact Nat.zero_le _
 · exact hc
structure Beside (w:World)(x u:Value)(zs:List Int):Prop where
 rd:Rd w u zs
 ne:u.ownBlock=none∨u.ownBlock≠x.ownBlock
 lt:∀k,u.ownBlock=some k→k<w.heap.size
 cap:zs.length≤capZ u
theorem Beside.keep {w w':World}{x u:Value}{zs:List Int}(h:Beside w x u zs)(k:Keep w w'):Beside w' x u zs:=
 ⟨h.rd.keep k,h.ne,fun j hj=>Nat.lt_of_lt_of_le (h.lt j hj) k.size,h.cap⟩
theorem Beside.grow {w w':World}{x x' u:Value}{zs:List Int}(h:Beside w x u zs)(hg:w.grownBy w' x.ownBlock)(hb:x'.ownBlock=x.ownBlock∨x'.ownBlock=some w.heap.size):Beside w' x' u zs:=by
 refine⟨h.rd.keptR hg h.ne,?_,fun j hj=>Nat.lt_of_lt_of_le (h.lt j hj) hg.size,h.cap⟩;rcases hb with hb|hb
 · rw[hb];exact h.ne
 ·
  cases hu:u.ownBlock with
  |none=>exact .inl rfl
  |some k=>exact .inr (fun e=>by rw[hb] at e;have:=h.lt k hu;have:=Option.some.inj e;omega)
theorem Own.beside {w':World}{x u:Value}{zs:List Int}{base:Nat}(h:Own w' base u zs)(hx:∀k,x.ownBlock=some k→k<base):Beside w' x u zs:=
 ⟨h.rd,by
  cases hu:u.ownBlock with
  |none=>exact .inl rfl
  |some k=>exact .inr (fun e=>by have:=hx k e.symm;have:=h.ge k hu;omega),fun k hk=>(World.ownsRow.lt h k hk).2,h.capz⟩
structure AppL (w:World)(base:Nat)(x:Value)(vs:List Value)(zss:List (List Int)):Prop where
 row:w.ownsRow base 23 1 x zss.length vs
 each:∀i u,vs[i]? = some u→Beside w x u (zss.getD i [])
theorem AppL.keep {w w':World}{base:Nat}{x:Value}{vs:List Value}{zss:List (List Int)}(h:AppL w base x vs zss)(k:Keep w w'):AppL w' base x vs zss:=
 ⟨World.ownsRow.kept h.row k.grownBy (by cases x.ownBlock<;>simp),fun i u hu=>(h.each i u hu).keep k⟩
theorem AppL.lt {w:World}{base:Nat}{x:Value}{vs:List Value}{zss:List (List Int)}(h:AppL w base x vs zss):∀k,x.ownBlock=some k→base≤k∧k<w.heap.size:=World.ownsRow.lt h.row
theorem AppL.rd {w:World}{base:Nat}{x:Value}{vs:List Value}{zss:List (List Int)}(h:AppL w base x vs zss):RdL w x zss:=by
 have hl:=h.row.1;have hlt:=h.lt;have h2:=h.row;rcases h.row.2 with ⟨rfl,hz⟩|⟨g,cap,cur,rfl,hb,hg,_⟩
 · exact⟨none,0,by rw[hz],.inl (List.eq_nil_of_length_eq_zero hz)⟩
 ·
  refine⟨_,_,rfl,.inr ⟨g,0,rfl,(hlt g rfl).2,fun i hi=>?_⟩⟩;have hi':i<vs.length:=by omega
  refine⟨vs[i],?_,(h.each i _ (List.getElem?_eq_getElem hi')).rd⟩;rw[Nat.zero_add,World.ownsRow.cellAt h2 i (by omega),List.getElem?_eq_getElem hi']
def RdLC (w:World)(v:Value)(zss:List (List Int)):Prop:=
 ∃(a:Option Addr) (cap:Nat),v = .slice a zss.length cap ∧
  (zss=[]∨∃b off,a=some ⟨b,off,none⟩∧b<w.heap.size∧∀i,i<zss.length→∃vi,w.cell? ⟨b,off+i,none⟩=some vi∧Rd w vi (zss.getD i [])∧(zss.getD i []).length≤capZ vi)
theorem RdLC.rd {w:World}{v:Value}{zss:List (List Int)}(h:RdLC w v zss):RdL w v zss:=by
 obtain⟨a,cap,hv,h⟩:=h;refine⟨a,cap,hv,?_⟩;rcases h with h|⟨b,off,ha,hb,hc⟩
 · exact .inl h
 ·
  refine .inr ⟨b,off,ha,hb,fun i hi=>?_⟩;obtain⟨vi,h1,h2,_⟩:=hc i hi;exact⟨vi,h1,h2⟩
theorem AppL.rdc {w:World}{base:Nat}{x:Value}{vs:List Value}{zss:List (List Int)}(h:AppL w base x vs zss):RdLC w x zss:=by
 have hl:=h.row.1;have hlt:=h.lt;have h2:=h.row;rcases h.row.2 with ⟨rfl,hz⟩|⟨g,cap,cur,rfl,hb,hg,_⟩
 · exact⟨none,0,by rw[hz],.inl (List.eq_nil_of_length_eq_zero hz)⟩
 ·
  refine⟨_,_,rfl,.inr ⟨g,0,rfl,(hlt g rfl).2,fun i hi=>?_⟩⟩;have hi':i<vs.length:=by omega
  have hE:=h.each i _ (List.getElem?_eq_getElem hi');refine⟨vs[i],?_,hE.rd,hE.cap⟩;rw[Nat.zero_add,World.ownsRow.cellAt h2 i (by omega),List.getElem?_eq_getElem hi']
theorem appL_empty (w:World):AppL (w.alloc (.cells #[] 23)) w.heap.size (.slice (some ⟨w.heap.size,0,none⟩) 0 0) [] []:=
 ⟨World.ownsRow_lit w #[] 0 (Nat.le_refl _) (by decide) (by simp),by simp⟩
theorem AppL.push {w w':World}{base:Nat}{x x' u:Value}{vs:List Value}{zss:List (List Int)}{zs:List Int}(h:AppL w base x vs zss)(hu:Beside w x u zs)
  (ho:w'.ownsRow base 23 1 x' (zss.length+1) (vs++[u])) (hg:w.grownBy w' x.ownBlock) (hb:x'.ownBlock=x.ownBlock∨x'.ownBlock=some w.heap.size):AppL w' base x' (vs++[u]) (zss++[zs]):=by
 have hl:=h.row.1;refine⟨by rw[List.length_append];exact ho,fun i y hy=>?_⟩;by_cases hi:i<vs.length
 ·
  rw[List.getElem?_append_left hi] at hy;have:=(h.each i y hy).grow hg hb;rw[List.getD_eq_getElem?_getD,List.getElem?_append_left (by omega),←List.getD_eq_getElem?_getD];exact this
 ·
  have hi2:i=vs.length:=by
   have:=(List.getElem?_eq_some_iff.1 hy).1;simp at this;omega
  subst hi2;rw[List.getElem?_append_right (Nat.le_refl _),Nat.sub_self] at hy;simp only[List.getElem?_cons_zero,Option.some.injEq] at hy;subst hy;rw[List.getD_eq_getElem?_getD,List.getElem?_append_right (by omega),show vs.length-zss.length=0 by omega];exact hu.grow hg hb
theorem Tryz.infoL:(Tryz.prog.info? 23).map (fun i=>(i.zero,i.size,i.bytes))=some (some (.slice none 0 0),1,24):=by kernel_rfl
structure But (C:Nat→Prop)(w w':World):Prop where
 os:w'.os=w.os
 tape:w'.tape=w.tape
 output:w'.output=w.output
 size:w.heap.size≤w'.heap.size
 block:∀k,k<w.heap.size→¬C k→w'.heap[k]? = w.heap[k]?
theorem But.refl (C:Nat→Prop)(w:World):But C w w:=⟨rfl,rfl,rfl,Nat.le_refl _,fun _ _ _=>rfl⟩
theorem But.trans {C:Nat→Prop}{a b c:World}(h:But C a b)(k:But C b c):But C a c:=
 ⟨k.os.trans h.os,k.tape.trans h.tape,k.output.trans h.output,Nat.le_trans h.size k.size,fun i hi hn=>(k.block i (Nat.lt_of_lt_of_le hi h.size) hn).trans (h.block i hi hn)⟩
theorem But.mono {C C':Nat→Prop}{a b:World}(h:But C a b)(hc:∀k,k<a.heap.size→C k→C' k):But C' a b:=
 ⟨h.os,h.tape,h.output,h.size,fun i hi hn=>h.block i hi (fun e=>hn (hc i hi e))⟩
theorem But.of_below {C:Nat→Prop}{a b:World}(h:Below a.heap.size a b):But C a b:=⟨h.os,h.tape,h.output,h.size,fun i hi _=>h.block i hi⟩
theorem But.of_grown {C:Nat→Prop}{a b:World}{row:Option Nat}(h:a.grownBy b row)(hr:∀k,row=some k→C k):But C a b:=
 ⟨h.os,h.tape,h.output,h.size,fun i hi hn=>h.block i hi (fun e=>hn (hr i e.symm))⟩
theorem But.alloc {C:Nat→Prop}{a b:World}(h:But C a b)(o:Obj):But C a (b.alloc o):=h.trans (But.of_grown (World.grownBy_alloc b o none) (by simp))
theorem But.put {C:Nat→Prop}{a b:World}(h:But C a b){l:Nat}(hl:C l)(o:Obj):But C a (b.putObj l o):=h.trans (But.of_grown (grownBy_putObj' b l o) (fun k e=>by cases e;exact hl))
theorem But.setCell {C:Nat→Prop}{a b:World}(h:But C a b){l:Nat}(hl:C l)(o:Nat)(v:Value):But C a (b.setCell ⟨l,o,none⟩ v):=
 h.trans ⟨rfl,rfl,rfl,by simp[World.setCell],fun k _ hn=>Below.heap_setCell _ _ _ _ (fun e=>hn (by rw[e];exact hl))⟩
theorem But.drew {C:Nat→Prop}{a b:World}(h:But C a b):But C a b.drew:=h.trans ⟨rfl,rfl,rfl,Nat.le_refl _,fun _ _ _=>rfl⟩
theorem But.cell {C:Nat→Prop}{w w':World}(h:But C w w'){b o:Nat}(hb:b<w.heap.size)(hn:¬C b):w'.cell? ⟨b,o,none⟩=w.cell? ⟨b,o,none⟩:=World.cell?_of_block (w:=w) (h.block b hb hn)
theorem But.free {C:Nat→Prop}{w w':World}(h:But C w w'){b o:Nat}(hb:b<w.heap.size)(hn:¬C b):w'.frozen? ⟨b,o,none⟩=w.frozen? ⟨b,o,none⟩:=World.frozen?_of_block (w:=w) (h.block b hb hn)
theorem But.drewN {C:Nat→Prop}{a b:World}(h:But C a b)(n:Nat):But C a (b.drewN n):=h.trans ⟨rfl,rfl,rfl,Nat.le_refl _,fun _ _ _=>rfl⟩
theorem But.keep {C:Nat→Prop}{a b c:World}(h:But C a b)(k:Keep b c):But C a c:=h.trans (But.of_below k)
def RdR (s1 s2:Nat)(w:World)(v:Value)(zs:List Int):Prop:=
 ∃(a:Option Addr) (cap:Nat),v = .slice a zs.length cap ∧
  (zs=[]∨∃b off,a=some ⟨b,off,none⟩∧s1≤b∧b<s2∧∀i,i<zs.length→w.cell? ⟨b,off+i,none⟩=some (.int .i64 (zs.getD i 0)))
theorem RdR.rd {s1 s2:Nat}{w:World}{v:Value}{zs:List Int}(h:RdR s1 s2 w v zs)(hs:s2≤w.heap.size):Rd w v zs:=by
 obtain⟨a,cap,rfl,h⟩:=h;refine⟨a,cap,rfl,?_⟩;rcases h with h|⟨b,off,rfl,h1,h2,hc⟩
 · exact .inl h
 · exact .inr ⟨b,off,rfl,by omega,hc⟩
def RdP (s1 s2:Nat)(w:World)(v:Value)(n:Nat)(css:List (List Int)):Prop:=
 n≤css.length∧∃(a:Option Addr) (cap:Nat),v = .slice a n cap∧n≤cap ∧
  (n=0∨∃b off,a=some ⟨b,off,none⟩∧s1≤b∧b<s2∧∀i,i<n→∃vi,w.cell? ⟨b,off+i,none⟩=some vi∧RdR s1 s2 w vi (css.getD i []))
theorem AppL.rdp {w:World}{base:Nat}{x:Value}{vs:List Value}{zss:List (List Int)}(h:AppL w base x vs zss)(hge:∀(i:Nat) u,vs[i]? = some u→∀k,u.ownBlock=some k→base≤k):RdP base w.heap.size w x zss.length zss:=by
 have hl:=h.row.1;have hlt:=h.lt;have h2:=h.row;refine⟨Nat.le_refl _,?_⟩;rcases h.row.2 with ⟨rfl,hz⟩|⟨g,cap,cur,rfl,hb,hg,hcap,_⟩
 · exact⟨none,0,by rw[hz],by omega,.inl hz⟩
 ·
  refine⟨_,_,rfl,hcap,.inr ⟨g,0,rfl,hb,(hlt g rfl).2,fun i hi=>?_⟩⟩;have hi':i<vs.length:=by omega
  have hE:=h.each i _ (List.getElem?_eq_getElem hi');refine⟨vs[i],?_,?_⟩
  · rw[Nat.zero_add,World.ownsRow.cellAt h2 i (by omega),List.getElem?_eq_getElem hi']
  ·
   have hG:=hge i _ (List.getElem?_eq_getElem hi');obtain⟨a,c,e,hr⟩:=hE.rd;refine⟨a,c,e,?_⟩;rcases hr with hr|⟨b,off,rfl,hb2,hc2⟩
   · exact .inl hr
   · exact .inr ⟨b,off,rfl,hG b (by rw[e];rfl),hb2,hc2⟩
theorem RdP.rdl {s1 s2:Nat}{w:World}{v:Value}{css:List (List Int)}(h:RdP s1 s2 w v css.length css)(hs:s2≤w.heap.size):RdL w v css:=by
 obtain⟨_,a,cap,rfl,_,h⟩:=h;refine⟨a,cap,rfl,?_⟩;rcases h with h|⟨b,off,rfl,h1,h2,h3⟩
 · exact .inl (List.eq_nil_of_length_eq_zero h)
 ·
  refine .inr ⟨b,off,rfl,by omega,fun i hi=>?_⟩;obtain⟨vi,e1,e2⟩:=h3 i hi;exact⟨vi,e1,e2.rd hs⟩
def tstE (f:Ev→Bool)(es:List Ev)(k:Nat):Bool:=decide (k<es.length)&&f (es.getD k zE)
def chK (f:Ev→Bool)(es:List Ev):Nat→List Int
 | 0=>[]
 |k+1=>if tstE f es k=true then chK f es k++[(k:Int)] else chK f es k
theorem chK_min (f:Ev→Bool)(es:List Ev):∀k,chK f es k=idxK f es (min k es.length)
 | 0=>by simp[chK,idxK]
 |k+1=>by
  rw[chK,chK_min f es k];by_cases h:k<es.length
  ·
   rw[show min (k+1) es.length=k+1 by omega,show min k es.length=k by omega,idxK];simp[tstE,h]
  ·
   rw[show min (k+1) es.length=min k es.length by omega];simp[tstE,h]
theorem chK_all (f:Ev→Bool)(es:List Ev)(k:Nat)(h:es.length≤k):chK f es k=idxK f es es.length:=by
 rw[chK_min,Nat.min_eq_right h]
theorem chK_len (f:Ev→Bool)(es:List Ev)(k:Nat):(chK f es k).length≤k:=by
 rw[chK_min];have:=idxK_len f es (min k es.length);omega
theorem isB_take {l:List Int}{n:Int}(h:∀i,i<l.length→l.getD i 0≠n):isB l n=false:=by
 unfold isB;rw[List.any_eq_false];intro x hx;obtain⟨i,hi,e⟩:=List.getElem_of_mem hx;have:=h i hi;rw[List.getD_eq_getElem?_getD,List.getElem?_eq_getElem hi] at this;simp only[Option.getD_some] at this;rw[←e]
 simpa using this
theorem isB_at {l:List Int}{n:Int}{i:Nat}(hi:i<l.length)(h:l.getD i 0=n):isB l n=true:=by
 unfold isB;rw[List.any_eq_true];refine⟨n,?_,by simp⟩;rw[←h,List.getD_eq_getElem?_getD,List.getElem?_eq_getElem hi];exact List.getElem_mem hi
def seatAt (l:List Int)(i:Nat):List Int:=if i=0 then l.take 1 else l.drop 1
def seatK (l:List Int)(i:Nat):List (List Int):=(List.range i).map (seatAt l)
theorem seatK_more (l:List Int)(i:Nat):seatK l (i+1)=seatK l i++[seatAt l i]:=by
 unfold seatK;rw[List.range_succ,List.map_append];rfl
def seatP (l:List Int):List (List Int):=seatK l l.length
theorem seatP_len (l:List Int):(seatP l).length=l.length:=by simp[seatP,seatK]
def seatsL (es:List Ev):List (List Int):=seatP (plcW es 0)++seatP (plcW es 1)++seatP (plcW es 2)
theorem isB_false {l:List Int}{x:Int}:isB l x=false↔x∉l:=by
 constructor
 ·
  intro h hm;rw[mem_isB hm] at h;cases h
 ·
  intro h;cases hb:isB l x
  · rfl
  · exact absurd (isB_mem hb) h
def sitK (ss:List (List Int))(rows:List Int):Nat→Bool
 | 0=>true
 |k+1=>sitK ss rows k&&(isB (ss.getD k []) (rows.getD k 0)&&!isB (rows.take k) (rows.getD k 0))
theorem sitK_false {ss:List (List Int)}{rows:List Int}{k:Nat}(h:sitK ss rows k=false):∀m:Nat,k≤m→sitK ss rows m=false
 | 0,hm=>by
  obtain rfl:k=0:=by omega
  exact h
 |m+1,hm=>by
  by_cases e:k=m+1
  · subst e;exact h
  · rw[sitK,sitK_false h m (by omega)];rfl
theorem sitK_iff {ss:List (List Int)}{rows:List Int}:∀k:Nat,sitK ss rows k=true↔∀i,i<k→rows.getD i 0∈ss.getD i []∧rows.getD i 0∉rows.take i
 | 0=>by simp[sitK]
 |k+1=>by
  rw[sitK,Bool.and_eq_true,sitK_iff k,Bool.and_eq_true,Bool.not_eq_true',isB_false];constructor
  ·
   rintro⟨h1,h2,h3⟩ i hi;by_cases e:i=k
   · subst e;exact⟨isB_mem h2,h3⟩
   · exact h1 i (by omega)
  ·
   intro h;exact⟨fun i hi=>h i (by omega),mem_isB (h k (by omega)).1,(h k (by omega)).2⟩
theorem getD_at {l:List Int}{i:Nat}(h:i<l.length):l.getD i 0=l[i]:=by
 rw[List.getD_eq_getElem?_getD,List.getElem?_eq_getElem h];rfl
theorem nodup_of_take {rows:List Int}(h:∀i,i<rows.length→rows.getD i 0∉rows.take i):rows.Nodup:=by
 rw[List.nodup_iff_pairwise_ne,List.pairwise_iff_getElem];intro i j hi hj hij e;refine h j hj ?_;rw[getD_at hj,←e];exact List.mem_take_iff_getElem.2 ⟨i,by omega,rfl⟩
theorem take_of_nodup {rows:List Int}(h:rows.Nodup){i:Nat}(hi:i<rows.length):rows.getD i 0∉rows.take i:=by
 intro hm;obtain⟨j,hj,e⟩:=List.mem_take_iff_getElem.1 hm;rw[getD_at hi] at e;have:=(List.getElem_inj h).1 e;omega
theorem part_sits {rows l:List Int}{at0 p:Nat}(hn:rows.Nodup)(hl:l.Nodup)(h0:0<l.length)(hf:l.getD 0 0=(p:Int))(hle:at0+l.length≤rows.length):
  okP rows at0 l p=true↔∀j,j<l.length→rows.getD (at0+j) 0∈seatAt l j:=by
 have hpl:((rows.drop at0).take l.length).length=l.length:=by rw[List.length_take,List.length_drop];omega
 have hpart:∀j,j<l.length→rows.getD (at0+j) 0∈(rows.drop at0).take l.length:=fun j hj=>by
  refine List.mem_take_iff_getElem.2 ⟨j,by rw[List.length_drop];omega,?_⟩;rw[List.getElem_drop,getD_at (by omega)]
 have hpn:((rows.drop at0).take l.length).Nodup:=(hn.sublist (List.drop_sublist at0 rows)).sublist (List.take_sublist _ _)
 have htk:l.take 1=[l.getD 0 0]:=by
  match l,h0 with
  |x::r,_=>simp
 have hcons:l=l.getD 0 0::l.drop 1:=by
  match l,h0 with
  |x::r,_=>simp
 constructor
 ·
  intro h j hj;have hperm:=(okP_perm hl h).2;have hm:=hperm.mem_iff.2 (hpart j hj);unfold okP at h;simp only[Bool.and_eq_true,decide_eq_true_eq,beq_iff_eq] at h;unfold seatAt;by_cases e:j=0
  ·
   subst e;rw[if_pos rfl,htk,hf,Nat.add_zero,h.1.2];simp
  ·
   rw[if_neg e];rw[hcons] at hm;rcases List.mem_cons.1 hm with hm|hm
   ·
    exfalso;rw[hf,←h.1.2,getD_at (by omega),getD_at (by omega)] at hm;have:=(List.getElem_inj hn).1 hm;omega
   · exact hm
 ·
  intro h
  have hin:∀x∈(rows.drop at0).take l.length,x∈l:=fun x hx=>by
   obtain⟨j,hj,e⟩:=List.mem_take_iff_getElem.1 hx;have hj2:j<l.length:=by omega
   have hs:=h j hj2;rw[List.getElem_drop] at e;rw[getD_at (by rw[List.length_drop] at hj;omega),e] at hs;unfold seatAt at hs;split at hs
   · exact List.mem_of_mem_take hs
   · exact List.mem_of_mem_drop hs
  have hperm:=perm_of hpn hin (by omega)
  have hfirst:rows.getD at0 0=(p:Int):=by
   have:=h 0 h0;rw[Nat.add_zero] at this;unfold seatAt at this;rw[if_pos rfl,htk,List.mem_singleton,hf] at this;exact this
  unfold okP;simp only[Bool.and_eq_true,decide_eq_true_eq,beq_iff_eq,List.all_eq_true];exact⟨⟨hle,hfirst⟩,fun x hx=>mem_isB (hperm.mem_iff.2 hx)⟩
theorem seatP_get {l:List Int}{j:Nat}(h:j<l.length):(seatP l).getD j []=seatAt l j:=by
 unfold seatP seatK;rw[List.getD_eq_getElem?_getD,List.getElem?_map,List.getElem?_range h];rfl
theorem seat_left {a b:List (List Int)}{i:Nat}(h:i<a.length):(a++b).getD i []=a.getD i []:=by
 rw[List.getD_eq_getElem?_getD,List.getElem?_append_left h,←List.getD_eq_getElem?_getD]
theorem seat_right {a b:List (List Int)}{i n:Nat}(h:n=a.length):(a++b).getD (n+i) []=b.getD i []:=by
 subst h;rw[List.getD_eq_getElem?_getD,List.getElem?_append_right (by omega),←List.getD_eq_getElem?_getD]
 congr 1
 omega
theorem seats_len (es:List Ev):(seatsL es).length=(plcW es 0).length+(plcW es 1).length+(plcW es 2).length:=by
 unfold seatsL;rw[List.length_append,List.length_append,seatP_len,seatP_len,seatP_len]
theorem seats_0 {es:List Ev}{j:Nat}(h:j<(plcW es 0).length):(seatsL es).getD (0+j) []=seatAt (plcW es 0) j:=by
 unfold seatsL;rw[Nat.zero_add,seat_left (by rw[List.length_append,seatP_len];omega),seat_left (by rw[seatP_len];omega),seatP_get h]
theorem seats_1 {es:List Ev}{j:Nat}(h:j<(plcW es 1).length):(seatsL es).getD ((plcW es 0).length+j) []=seatAt (plcW es 1) j:=by
 unfold seatsL;rw[seat_left (by rw[List.length_append,seatP_len,seatP_len];omega),seat_right (by rw[seatP_len]),seatP_get h]
theorem seats_2 {es:List Ev}{j:Nat}(h:j<(plcW es 2).length):(seatsL es).getD ((plcW es 0).length+(plcW es 1).length+j) []=seatAt (plcW es 2) j:=by
 unfold seatsL;rw[seat_right (by rw[List.length_append,seatP_len,seatP_len]),seatP_get h]
theorem sit_same {dss:List (List Dd)}(hb:workB dss=true)(rows:List Int):(decide (rows.length=(seatsL (eventsB dss)).length)&&sitK (seatsL (eventsB dss)) rows rows.length)=rowsL (eventsB dss) rows:=by
 obtain⟨p0,f0⟩:=plcW_first hb 0 (by decide);obtain⟨p1,f1⟩:=plcW_first hb 1 (by decide);obtain⟨p2,f2⟩:=plcW_first hb 2 (by decide);have h12:=eventsB_12 dss;generalize eventsB dss=es at *;rw[Bool.eq_iff_iff,Bool.and_eq_true,decide_eq_true_eq,sitK_iff,seats_len];constructor
 ·
  rintro⟨hl,hs⟩;have hn:=nodup_of_take (fun i hi=>(hs i hi).2);have o0:=(part_sits (at0:=0) hn (plcW_nodup h12 0) p0 f0 (by omega)).2 (fun j hj=>by rw[←seats_0 hj];exact (hs _ (by omega)).1);have o1:=(part_sits (at0:=(plcW es 0).length) hn (plcW_nodup h12 1) p1 f1 (by omega)).2 (fun j hj=>by rw[←seats_1 hj];exact (hs _ (by omega)).1);have o2:=(part_sits (at0:=(plcW es 0).length+(plcW es 1).length) hn (plcW_nodup h12 2) p2 f2 (by omega)).2 (fun j hj=>by rw[←seats_2 hj];exact (hs _ (by omega)).1);unfold rowsL;rw[o0,o1,o2];simp only[Bool.true_and,decide_eq_true_eq];omega
 ·
  intro h;have hn:=(rows_use h12 h).1;unfold rowsL at h;simp only[Bool.and_eq_true,decide_eq_true_eq] at h;obtain⟨⟨⟨o0,o1⟩,o2⟩,hl⟩:=h;refine⟨by omega,fun i hi=>⟨?_,take_of_nodup hn hi⟩⟩;have q0:=(part_sits (at0:=0) hn (plcW_nodup h12 0) p0 f0 (by omega)).1 o0;have q1:=(part_sits (at0:=(plcW es 0).length) hn (plcW_nodup h12 1) p1 f1 (by omega)).1 o1;have q2:=(part_sits (at0:=(plcW es 0).length+(plcW es 1).length) hn (plcW_nodup h12 2) p2 f2 (by omega)).1 o2;by_cases c0:i<(plcW es 0).length
  ·
   have:=q0 i c0;rw[←seats_0 c0,Nat.zero_add] at this;exact this
  ·
   by_cases c1:i<(plcW es 0).length+(plcW es 1).length
   ·
    obtain⟨j,rfl⟩:∃j,i=(plcW es 0).length+j:=⟨i-(plcW es 0).length,by omega⟩;have hj:j<(plcW es 1).length:=by omega
    have:=q1 j hj;rw[←seats_1 hj] at this;exact this
   ·
    obtain⟨j,rfl⟩:∃j,i=(plcW es 0).length+(plcW es 1).length+j:=⟨i-((plcW es 0).length+(plcW es 1).length),by omega⟩;have hj:j<(plcW es 2).length:=by omega
    have:=q2 j hj;rw[←seats_2 hj] at this;exact this
def pwIn (es:List Ev)(rows:List Int)(i:Nat)(st:List Int):Nat→List Int
 | 0=>st
 |k+1=>if (plE es (rows.getD k 0)==plE es (rows.getD i 0))=true then (pwIn es rows i st k).set (rows.getD k 0).toNat (gAdd ((pwIn es rows i st k).getD (rows.getD k 0).toNat 0) (rows.getD i 0)) else pwIn es rows i st k
def pwAll (es:List Ev)(rows:List Int):Nat→List Int
 | 0=>List.replicate es.length 0
 |i+1=>pwIn es rows i (pwAll es rows i) i
theorem web_pwIn {es:List Ev}{rows:List Int}{n i:Nat}{st:List Int}(hr:∀j,j<rows.length→0≤rows.getD j 0∧rows.getD j 0<(n:Int))(hi:i<rows.length)(hst:Web n st):∀m:Nat,m≤i →
  Web n (pwIn es rows i st m)∧∀a b:Nat,a<n→(line (pwIn es rows i st m) a b=true↔line st a b=true∨∃q,q<m∧plE es (rows.getD q 0)=plE es (rows.getD i 0)∧rows.getD q 0=(a:Int)∧rows.getD i 0=(b:Int))
 | 0,_=>⟨hst,fun a b _=>by simp[pwIn]⟩
 |m+1,hm=>by
  obtain⟨h1,h2⟩:=web_pwIn (es:=es) hr hi hst m (by omega);by_cases hp:plE es (rows.getD m 0)=plE es (rows.getD i 0)
  ·
   obtain⟨a0,ha0⟩:=Int.eq_ofNat_of_zero_le (hr m (by omega)).1;obtain⟨b0,hb0⟩:=Int.eq_ofNat_of_zero_le (hr i hi).1;have ha:a0<n:=by have:=(hr m (by omega)).2;omega
   have hb:b0<n:=by have:=(hr i hi).2;omega
   have e0:pwIn es rows i st (m+1)=(pwIn es rows i st m).set a0 (gAdd ((pwIn es rows i st m).getD a0 0) (b0:Int)):=by rw[pwIn,if_pos (by simpa using hp),ha0,hb0,Int.toNat_natCast]
   rw[e0];have hadd:=ok_add (h1.2.2 a0 ha) hb;refine⟨h1.set hadd.1,fun a b haa=>?_⟩;have e1:=h2 a b haa;unfold line at e1 ⊢;rw[getD_set _ _ _ _ (by rw[h1.2.1];exact ha)];by_cases e:a0=a
   ·
    subst e;simp only[if_true];rw[hadd.2 b,Bool.or_eq_true,e1,decide_eq_true_eq];constructor
    ·
     rintro ((h|⟨q,hq,r1,r2,r3⟩)|h)
     · exact .inl h
     · exact .inr ⟨q,by omega,r1,r2,r3⟩
     · exact .inr ⟨m,by omega,hp,ha0,by rw[hb0,h]⟩
    ·
     rintro (h|⟨q,hq,r1,r2,r3⟩)
     · exact .inl (.inl h)
     ·
      right;rw[hb0] at r3;omega
   ·
    simp only[e,if_false];rw[e1];constructor
    ·
     rintro (h|⟨q,hq,r1,r2,r3⟩)
     · exact .inl h
     · exact .inr ⟨q,by omega,r1,r2,r3⟩
    ·
     rintro (h|⟨q,hq,r1,r2,r3⟩)
     · exact .inl h
     ·
      by_cases eq:q=m
      · exfalso;subst eq;rw[ha0] at r2;omega
      · exact .inr ⟨q,by omega,r1,r2,r3⟩
  ·
   have e0:pwIn es rows i st (m+1)=pwIn es rows i st m:=by rw[pwIn,if_neg (by simpa using hp)]
   rw[e0];refine⟨h1,fun a b ha=>?_⟩;rw[h2 a b ha];constructor
   ·
    rintro (h|⟨q,hq,r⟩)
    · exact .inl h
    · exact .inr ⟨q,by omega,r⟩
   ·
    rintro (h|⟨q,hq,r⟩)
    · exact .inl h
    ·
     by_cases e:q=m
     · subst e;exact absurd r.1 hp
     · exact .inr ⟨q,by omega,r⟩
theorem web_pwAll {es:List Ev}{rows:List Int}(hx:es.length≤12)(hr:∀j,j<rows.length→0≤rows.getD j 0∧rows.getD j 0<(es.length:Int)):∀m:Nat,m≤rows.length →
  Web es.length (pwAll es rows m)∧∀a b:Nat,a<es.length→(line (pwAll es rows m) a b=true↔∃i q,i<m∧q<i∧plE es (rows.getD q 0)=plE es (rows.getD i 0)∧rows.getD q 0=(a:Int)∧rows.getD i 0=(b:Int))
 | 0,_=>⟨Web.zero hx,fun a b _=>by unfold pwAll;rw[line_zero];simp⟩
 |m+1,hm=>by
  obtain⟨h1,h2⟩:=web_pwAll hx hr m (by omega);obtain⟨g1,g2⟩:=web_pwIn (es:=es) hr (show m<rows.length by omega) h1 m (Nat.le_refl _);refine⟨g1,fun a b ha=>?_⟩;show line (pwIn es rows m (pwAll es rows m) m) a b=true↔_;rw[g2 a b ha,h2 a b ha];constructor
  ·
   rintro (⟨i,q,hi,r⟩|⟨q,hq,r⟩)
   · exact⟨i,q,by omega,r⟩
   · exact⟨m,q,by omega,hq,r⟩
  ·
   rintro⟨i,q,hi,hq,r⟩;by_cases e:i=m
   · subst e;exact .inr ⟨q,hq,r⟩
   · exact .inl ⟨i,q,by omega,hq,r⟩
theorem pw_same {es:List Ev}{rows:List Int}(hx:es.length≤12)(hr:∀j,j<rows.length→0≤rows.getD j 0∧rows.getD j 0<(es.length:Int)):pwAll es rows rows.length=rwL es rows:=by
 obtain⟨a1,a2⟩:=web_pwAll hx hr rows.length (Nat.le_refl _);obtain⟨b1,b2⟩:=web_rwAll hx hr rows.length (Nat.le_refl _);unfold rwL;refine Web.ext a1 b1 (fun a b ha _=>?_);rw[Bool.eq_iff_iff,a2 a b ha,b2 a b ha];unfold rwP;constructor
 ·
  rintro⟨i,q,hi,hq,h1,h2,h3⟩;exact⟨q,i,by omega,hi,by rw[decide_eq_true hq,h1];simp,h2,h3⟩
 ·
  rintro⟨i,q,hi,hq,h1,h2,h3⟩;rw[Bool.and_eq_true,decide_eq_true_eq,beq_iff_eq] at h1;exact⟨q,i,hq,h1.1,h1.2,h2,h3⟩
theorem seat_rises {es:List Ev}(hx:es.length≤12){i:Nat}(hi:i<(seatsL es).length):((seatsL es).getD i []).Pairwise (·<·)∧((seatsL es).getD i []).length≤12:=by
 have at1:∀(p j:Nat),(seatAt (plcW es p) j).Pairwise (·<·)∧(seatAt (plcW es p) j).length≤12:=fun p j=>by
  have h1:(plcW es p).Pairwise (·<·):=by
   unfold plcW idxB;rw[if_pos hx];exact idxK_rises _ _ _
  have h2:=plcW_len hx p;unfold seatAt;split
  · exact⟨h1.sublist (List.take_sublist _ _),by rw[List.length_take];omega⟩
  · exact⟨h1.sublist (List.drop_sublist _ _),by rw[List.length_drop];omega⟩
 rw[seats_len] at hi;by_cases c0:i<(plcW es 0).length
 ·
  have:=seats_0 c0;rw[Nat.zero_add] at this;rw[this];exact at1 0 i
 ·
  by_cases c1:i<(plcW es 0).length+(plcW es 1).length
  ·
   obtain⟨j,rfl⟩:∃j,i=(plcW es 0).length+j:=⟨i-(plcW es 0).length,by omega⟩;rw[seats_1 (by omega)];exact at1 1 j
  ·
   obtain⟨j,rfl⟩:∃j,i=(plcW es 0).length+(plcW es 1).length+j:=⟨i-((plcW es 0).length+(plcW es 1).length),by omega⟩;rw[seats_2 (by omega)];exact at1 2 j
theorem seats_36 {es:List Ev}(hx:es.length≤12):(seatsL es).length≤36:=by
 rw[seats_len];have:=plcW_len hx 0;have:=plcW_len hx 1;have:=plcW_len hx 2;omega
def sitS (rows:List Int):Nat→List Int
 | 0=>List.replicate 12 0
 |k+1=>(sitS rows k).set (rows.getD k 0).toNat (k:Int)
def pgK (rs f s:List Int):Nat→List Int
 | 0=>s
 |k+1=>(pgK rs f s k).set (rs.getD k 0).toNat ((pgK rs f s k).getD (f.getD k 0).toNat 0)
def pageL (es:List Ev)(f rows:List Int):List Int:=pgK (idxB rdE es) f (sitS rows rows.length) (idxB rdE es).length
def pageB (dss:List (List Dd))(f rows:List Int):List Int:=if taleB dss f rows=true then pageL (eventsB dss) f rows else List.replicate 12 0
theorem sitS_len (rows:List Int):∀k:Nat,(sitS rows k).length=12
 | 0=>by simp[sitS]
 |k+1=>by rw[sitS,List.length_set,sitS_len rows k]
theorem pgK_len (rs f s:List Int):∀k:Nat,(pgK rs f s k).length=s.length
 | 0=>rfl
 |k+1=>by rw[pgK,List.length_set,pgK_len rs f s k]
theorem pageL_len (es:List Ev)(f rows:List Int):(pageL es f rows).length=12:=by rw[pageL,pgK_len,sitS_len]
theorem pageB_len (dss:List (List Dd))(f rows:List Int):(pageB dss f rows).length=12:=by
 unfold pageB;split
 · exact pageL_len _ _ _
 · simp
theorem seat_get {rows:List Int}(hn:rows.Nodup)(hr:∀i,i<rows.length→0≤rows.getD i 0∧rows.getD i 0<12):∀(k i:Nat),k≤rows.length→i<k→(sitS rows k).getD (rows.getD i 0).toNat 0=(i:Int)
 | 0,i,_,h=>by omega
 |k+1,i,hk,h=>by
  have r1:=hr k (by omega);have r2:=hr i (by omega);rw[sitS,getD_set _ _ _ _ (by rw[sitS_len];omega)];by_cases e:i=k
  · subst e;rw[if_pos rfl]
  ·
   rw[if_neg (fun e2=>e (nodup_get hn (by omega) (by omega) (by omega)))];exact seat_get hn hr k i (by omega) (by omega)
theorem pg_other {rs f s:List Int}{a:Nat}(hs:s.length=12):∀k:Nat,(∀i,i<k→(rs.getD i 0).toNat<12∧(rs.getD i 0).toNat≠a)→(pgK rs f s k).getD a 0=s.getD a 0
 | 0,_=>rfl
 |k+1,h=>by
  rw[pgK,getD_set _ _ _ _ (by rw[pgK_len,hs];exact (h k (by omega)).1),if_neg (h k (by omega)).2];exact pg_other hs k (fun i hi=>h i (by omega))
theorem pg_read {rs f s:List Int}(hs:s.length=12)(hn:rs.Nodup)(hr:∀i,i<rs.length→0≤rs.getD i 0∧rs.getD i 0<12)(hf:∀i j,i<rs.length→j<rs.length→(rs.getD i 0).toNat≠(f.getD j 0).toNat):∀(k i:Nat),k≤rs.length→i<k→(pgK rs f s k).getD (rs.getD i 0).toNat 0=s.getD (f.getD i 0).toNat 0
 | 0,i,_,h=>by omega
 |k+1,i,hk,h=>by
  have r1:=hr k (by omega);have r2:=hr i (by omega);rw[pgK,getD_set _ _ _ _ (by rw[pgK_len,hs];omega)];by_cases e:i=k
  ·
   subst e;rw[if_pos rfl];exact pg_other hs i (fun j hj=>⟨by have:=hr j (by omega);omega,hf j i (by omega) (by omega)⟩)
  ·
   rw[if_neg (fun e2=>e (nodup_get hn (by omega) (by omega) (by omega)))];exact pg_read hs hn hr hf k i (by omega) (by omega)
theorem idx_all {es:List Ev}(hx:es.length≤12){t:Ev→Bool}{x:Int}(h:x∈idxB t es):(0≤x∧x<(es.length:Int))∧t (es.getD x.toNat zE)=true:=by
 unfold idxB at h;rw[if_pos hx] at h;exact⟨idxK_lt _ _ _ _ h,idxK_mem _ _ _ _ h⟩
theorem idx_nodup {es:List Ev}(hx:es.length≤12)(t:Ev→Bool):(idxB t es).Nodup:=by
 unfold idxB;rw[if_pos hx];exact rises_nodup _ (idxK_rises t _ _)
theorem idx_has {es:List Ev}(hx:es.length≤12){t:Ev→Bool}{i:Nat}(hi:i<es.length)(h:t (es.getD i zE)=true):(i:Int)∈idxB t es:=by
 unfold idxB;rw[if_pos hx];exact idxK_has _ _ h _ hi
theorem get_mem {l:List Int}{i:Nat}(h:i<l.length):l.getD i 0∈l:=by
 rw[List.getD_eq_getElem?_getD,List.getElem?_eq_getElem h];exact List.getElem_mem h
theorem mem_get {l:List Int}{x:Int}(h:x∈l):∃i,i<l.length∧l.getD i 0=x:=by
 obtain⟨k,hk,ek⟩:=List.getElem_of_mem h;exact⟨k,hk,by rw[List.getD_eq_getElem?_getD,List.getElem?_eq_getElem hk];exact ek⟩
theorem page_use {dss:List (List Dd)}{f rows:List Int}(h:taleB dss f rows=true):(eventsB dss).length≤12∧(idxB rdE (eventsB dss)).length=f.length∧f.length≤12∧rows.length≤36 ∧
  (∀i,i<rows.length→(pageL (eventsB dss) f rows).getD (rows.getD i 0).toNat 0=(i:Int)) ∧
  (∀i,i<f.length→∃q,q<rows.length∧rows.getD q 0=f.getD i 0∧(pageL (eventsB dss) f rows).getD ((idxB rdE (eventsB dss)).getD i 0).toNat 0=(q:Int)) ∧
  (∀i,i<rows.length→0≤rows.getD i 0∧rows.getD i 0<((eventsB dss).length:Int)) ∧
  (∀i,i<f.length→(0≤f.getD i 0∧f.getD i 0<((eventsB dss).length:Int))∧(0≤(idxB rdE (eventsB dss)).getD i 0∧(idxB rdE (eventsB dss)).getD i 0<((eventsB dss).length:Int))∧plE (eventsB dss) (f.getD i 0)=plE (eventsB dss) ((idxB rdE (eventsB dss)).getD i 0)) ∧
  (∀i,i<(eventsB dss).length→((eventsB dss).getD i zE).2.2.1=false→∃q,q<rows.length∧rows.getD q 0=(i:Int)):=by
 obtain⟨hb,hs,hr⟩:=tale_use h;have hx:=eventsB_12 dss
 have hall:∀i,i<(eventsB dss).length→((eventsB dss).getD i zE).2.2.1=false→∃q,q<rows.length∧rows.getD q 0=(i:Int):=fun i hi hrd=>by
  have plin:0≤((eventsB dss).getD i zE).2.2.2.1∧((eventsB dss).getD i zE).2.2.2.1≤2:=by
   have:=place_in hb i (by rw[eventsB,if_pos hb] at hi;exact hi);rw[eventsB,if_pos hb];exact this
  obtain⟨p,hp⟩:=Int.eq_ofNat_of_zero_le plin.1;have hmem:(i:Int)∈plcW (eventsB dss) p:=idx_has hx hi (by unfold toE;rw[hrd,hp];simp);refine mem_get ((rows_perm hx hr).mem_iff.1 ?_);unfold allW;have:p=0∨p=1∨p=2:=by omega
  rcases this with rfl|rfl|rfl
  · exact List.mem_append.2 (.inl (List.mem_append.2 (.inl hmem)))
  · exact List.mem_append.2 (.inl (List.mem_append.2 (.inr hmem)))
  · exact List.mem_append.2 (.inr hmem)
 obtain⟨rn,r36,ru⟩:=rows_use hx hr
 have hwr:∀i,i<rows.length→((eventsB dss).getD (rows.getD i 0).toNat zE).2.2.1=false:=fun i hi=>by
  have hm:=(rows_perm hx hr).mem_iff.2 (get_mem hi)
  have fin:∀p,rows.getD i 0∈plcW (eventsB dss) p→((eventsB dss).getD (rows.getD i 0).toNat zE).2.2.1=false:=fun p hp=>by
   have:=(idx_all hx hp).2;unfold toE at this;simp only[Bool.and_eq_true,Bool.not_eq_true'] at this;exact this.1
  unfold allW at hm;rcases List.mem_append.1 hm with hm|hm
  ·
   rcases List.mem_append.1 hm with hm|hm
   · exact fin _ hm
   · exact fin _ hm
  · exact fin _ hm
 obtain⟨sl,su⟩:=src_use hx hs
 have hf12:f.length≤12:=by
  rw[←sl];unfold idxB;rw[if_pos hx];have:=idxK_len rdE (eventsB dss) (eventsB dss).length;omega
 have fw:∀i,i<f.length→((eventsB dss).getD (f.getD i 0).toNat zE).2.2.1=false:=fun i hi=>by
  have hs2:=hs;unfold srcB at hs2;rw[Bool.and_eq_true,decide_eq_true_eq] at hs2;have hc:(chcL (eventsB dss)).length=(idxB rdE (eventsB dss)).length:=chcK_len _ _ _;have h3:=(srcK_iff (chcL (eventsB dss)).length).1 hs2.2 i (by omega);unfold chcL at h3;rw[chcK_get _ _ _ _ (by omega)] at h3;have:=(idx_all hx (isB_mem h3)).2;unfold toE at this;simp only[Bool.and_eq_true,Bool.not_eq_true'] at this;exact this.1
 have rd:∀i,i<f.length→(0≤(idxB rdE (eventsB dss)).getD i 0∧(idxB rdE (eventsB dss)).getD i 0<((eventsB dss).length:Int))∧((eventsB dss).getD ((idxB rdE (eventsB dss)).getD i 0).toNat zE).2.2.1=true:=fun i hi=>idx_all hx (get_mem (by omega))
 have r12:∀i,i<rows.length→0≤rows.getD i 0∧rows.getD i 0<12:=fun i hi=>by have:=ru i hi;omega
 refine⟨hx,sl,hf12,?_,fun i hi=>?_,fun i hi=>?_,ru,fun i hi=>⟨(su i (by omega)).1,(rd i hi).1,(su i (by omega)).2⟩,hall⟩
 · exact r36
 ·
  unfold pageL;rw[pg_other (sitS_len _ _) _ (fun j hj=>⟨by have:=(rd j (by omega)).1;omega,fun e=>by have a:=(rd j (by omega)).2;have b:=hwr i hi;rw[e,b] at a;cases a⟩)];exact seat_get rn r12 _ i (Nat.le_refl _) hi
 ·
  obtain⟨q,hq,eq⟩:=hall (f.getD i 0).toNat (by have:=(su i (by omega)).1;omega) (fw i hi);have eq':rows.getD q 0=f.getD i 0:=by have:=(su i (by omega)).1;omega
  refine⟨q,hq,eq',?_⟩;unfold pageL;rw[pg_read (sitS_len _ _) (idx_nodup hx _) (fun j hj=>by have:=(rd j (by omega)).1;omega) (fun a b ha hb e=>by have x:=(rd a (by omega)).2;have y:=fw b (by omega);rw[e,y] at x;cases x) _ i (Nat.le_refl _) (by omega),←eq'];exact seat_get rn r12 _ q (Nat.le_refl _) hq
theorem page_some {dss:List (List Dd)}{f rows:List Int}(h:taleB dss f rows=true):pageL (eventsB dss) f rows≠List.replicate 12 0:=fun e=>by
 obtain⟨hb,hs,hr⟩:=tale_use h;obtain⟨hx,-,-,-,pw,-,-,-,-⟩:=page_use h
 have z:∀p:Nat,p<3→∃q,q<rows.length∧rows.getD q 0=(p:Int):=fun p hp=>by
  obtain⟨f1,f2⟩:=plcW_first hb p hp;have hm:(p:Int)∈plcW (eventsB dss) p:=by rw[←f2];exact get_mem f1
  refine mem_get ((rows_perm hx hr).mem_iff.1 ?_);unfold allW;have:p=0∨p=1∨p=2:=by omega
  rcases this with rfl|rfl|rfl
  · exact List.mem_append.2 (.inl (List.mem_append.2 (.inl hm)))
  · exact List.mem_append.2 (.inl (List.mem_append.2 (.inr hm)))
  · exact List.mem_append.2 (.inr hm)
 have zero:∀a:Nat,(List.replicate 12 (0:Int)).getD a 0=0:=fun a=>by
  rw[List.getD_eq_getElem?_getD,List.getElem?_replicate];split<;>rfl
 obtain⟨a,ha,ea⟩:=z 0 (by omega);obtain⟨b,hb2,eb⟩:=z 1 (by omega);have pa:=pw a ha;have pb:=pw b hb2;rw[e,zero] at pa pb;have:a=b:=by omega
 subst this;omega
def blankB (p:List Int):Bool:=decide (p=List.replicate 12 0)
theorem page_blank (dss:List (List Dd))(f rows:List Int):blankB (pageB dss f rows)=!taleB dss f rows:=by
 unfold blankB pageB
 cases h:taleB dss f rows with
 |false=>simp
 |true=>rw[if_pos rfl,decide_eq_false (page_some h)];rfl
def agI (p:List Int)(r:Nat)(ws st:List Int):Nat→List Int
 | 0=>st
 |j+1=>if decide (p.getD r 0<p.getD (ws.getD j 0).toNat 0)=true then (agI p r ws st j).set r (gAdd ((agI p r ws st j).getD r 0) (ws.getD j 0)) else agI p r ws st j
def agO (es:List Ev)(p rs:List Int):Nat→List Int
 | 0=>List.replicate es.length 0
 |k+1=>agI p (rs.getD k 0).toNat (idxB (toE (plE es (rs.getD k 0))) es) (agO es p rs k) (idxB (toE (plE es (rs.getD k 0))) es).length
theorem web_agI {p ws st:List Int}{n r:Nat}(hw:∀j,j<ws.length→0≤ws.getD j 0∧ws.getD j 0<(n:Int))(hr:r<n)(hst:Web n st):∀m:Nat,m≤ws.length →
  Web n (agI p r ws st m)∧∀a b:Nat,a<n→(line (agI p r ws st m) a b=true↔line st a b=true∨(a=r∧∃q,q<m∧p.getD r 0<p.getD b 0∧ws.getD q 0=(b:Int)))
 | 0,_=>⟨hst,fun a b _=>by simp[agI]⟩
 |m+1,hm=>by
  obtain⟨h1,h2⟩:=web_agI (p:=p) hw hr hst m (by omega);obtain⟨b0,hb0⟩:=Int.eq_ofNat_of_zero_le (hw m (by omega)).1;have hb:b0<n:=by have:=(hw m (by omega)).2;omega
  by_cases hp:p.getD r 0<p.getD b0 0
  ·
   have e0:agI p r ws st (m+1)=(agI p r ws st m).set r (gAdd ((agI p r ws st m).getD r 0) (b0:Int)):=by rw[agI,hb0,Int.toNat_natCast,if_pos (decide_eq_true hp)]
   rw[e0];have hadd:=ok_add (h1.2.2 r hr) hb;refine⟨h1.set hadd.1,fun a b haa=>?_⟩;have e1:=h2 a b haa;unfold line at e1 ⊢;rw[getD_set _ _ _ _ (by rw[h1.2.1];exact hr)];by_cases e:r=a
   ·
    subst e;simp only[if_true];rw[hadd.2 b,Bool.or_eq_true,e1,decide_eq_true_eq];constructor
    ·
     rintro ((h|⟨-,q,hq,r1,r2⟩)|h)
     · exact .inl h
     · exact .inr ⟨trivial,q,by omega,r1,r2⟩
     · subst h;exact .inr ⟨trivial,m,by omega,hp,hb0⟩
    ·
     rintro (h|⟨-,q,hq,r1,r2⟩)
     · exact .inl (.inl h)
     ·
      by_cases eq:q=m
      ·
       subst eq;right;rw[hb0] at r2;omega
      · exact .inl (.inr ⟨rfl,q,by omega,r1,r2⟩)
   ·
    simp only[e,if_false];rw[e1];constructor
    ·
     rintro (h|⟨h,_⟩)
     · exact .inl h
     · exact absurd h.symm e
    ·
     rintro (h|⟨h,_⟩)
     · exact .inl h
     · exact absurd h.symm e
  ·
   have e0:agI p r ws st (m+1)=agI p r ws st m:=by rw[agI,hb0,Int.toNat_natCast,if_neg (by simpa using hp)]
   rw[e0];refine⟨h1,fun a b ha=>?_⟩;rw[h2 a b ha];constructor
   ·
    rintro (h|⟨h,q,hq,r⟩)
    · exact .inl h
    · exact .inr ⟨h,q,by omega,r⟩
   ·
    rintro (h|⟨h,q,hq,r1,r2⟩)
    · exact .inl h
    ·
     by_cases e:q=m
     ·
      subst e;rw[hb0] at r2;exfalso;obtain rfl:b0=b:=by omega
      exact hp r1
     · exact .inr ⟨h,q,by omega,r1,r2⟩
theorem web_agO {es:List Ev}{p rs:List Int}(hx:es.length≤12)(hr:∀j,j<rs.length→0≤rs.getD j 0∧rs.getD j 0<(es.length:Int)):∀m:Nat,m≤rs.length →
  Web es.length (agO es p rs m)∧∀a b:Nat,a<es.length→(line (agO es p rs m) a b=true↔∃i,i<m∧rs.getD i 0=(a:Int)∧p.getD a 0<p.getD b 0∧(b:Int)∈idxB (toE (plE es (a:Int))) es)
 | 0,_=>⟨Web.zero hx,fun a b _=>by unfold agO;rw[line_zero];simp⟩
 |m+1,hm=>by
  obtain⟨h1,h2⟩:=web_agO (p:=p) hx hr m (by omega);obtain⟨a0,ha0⟩:=Int.eq_ofNat_of_zero_le (hr m (by omega)).1;have hal:a0<es.length:=by have:=(hr m (by omega)).2;omega
  obtain⟨g1,g2⟩:=web_agI (p:=p) (ws:=idxB (toE (plE es (a0:Int))) es) (n:=es.length) (r:=a0) (fun j hj=>(idx_all hx (get_mem hj)).1) hal h1 _ (Nat.le_refl _);rw[agO,ha0,Int.toNat_natCast];refine⟨g1,fun a b ha=>?_⟩;rw[g2 a b ha,h2 a b ha];constructor
  ·
   rintro (⟨i,hi,r⟩|⟨rfl,q,hq,r1,r2⟩)
   · exact⟨i,by omega,r⟩
   · exact⟨m,by omega,ha0,r1,by rw[←r2];exact get_mem hq⟩
  ·
   rintro⟨i,hi,e1,r1,r2⟩;by_cases e:i=m
   ·
    subst e;have:a0=a:=by omega
    subst this;obtain⟨q,hq,eq⟩:=mem_get r2;exact .inr ⟨rfl,q,hq,r1,eq⟩
   · exact .inl ⟨i,by omega,e1,r1,r2⟩
theorem ag_same {dss:List (List Dd)}{f rows:List Int}(h:taleB dss f rows=true):agO (eventsB dss) (pageL (eventsB dss) f rows) (idxB rdE (eventsB dss)) (idxB rdE (eventsB dss)).length=agB dss f rows:=by
 obtain⟨hb,hs,hr⟩:=tale_use h;obtain⟨hx,sl,hf12,hr12,pw,pr,ru,fu,hall⟩:=page_use h;have rr:∀i,i<(idxB rdE (eventsB dss)).length→0≤(idxB rdE (eventsB dss)).getD i 0∧(idxB rdE (eventsB dss)).getD i 0<((eventsB dss).length:Int):=fun i hi=>(fu i (by omega)).2.1
 have e3:agB dss f rows=agK (eventsB dss).length (idxB rdE (eventsB dss)) f (rwL (eventsB dss) rows) (idxB rdE (eventsB dss)).length:=by rw[agB,if_pos h];rfl
 have wr:=web_rwAll hx ru rows.length (Nat.le_refl _);have wa:=web_ag hx (idx_nodup hx _) wr.1 (idxB rdE (eventsB dss)).length (Nat.le_refl _) rr (fun i hi=>(fu i (by omega)).1);have wo:=web_agO (p:=pageL (eventsB dss) f rows) hx rr _ (Nat.le_refl _);rw[e3];refine Web.ext wo.1 wa.1 (fun a j ha hj=>?_);rw[Bool.eq_iff_iff,wo.2 a j ha];have e4:=wa.2 a j ha;rw[show rwL (eventsB dss) rows=rwAll (eventsB dss) rows rows.length from rfl,e4];constructor
 ·
  rintro⟨i,hi,r1,r2,r3⟩;refine⟨i,hi,r1,?_⟩;obtain⟨q,hq,eq,pq⟩:=pr i (by omega);have fa:=fu i (by omega);rw[r1,Int.toNat_natCast] at pq;have t:=(idx_all hx r3).2;rw[Int.toNat_natCast] at t;unfold toE at t;simp only[Bool.and_eq_true,Bool.not_eq_true',beq_iff_eq] at t;obtain⟨k,hk,ek⟩:=hall j hj t.1;have pk:=pw k hk;rw[ek,Int.toNat_natCast] at pk;rw[wr.2 _ _ (by omega)];refine⟨q,k,hq,hk,?_,by omega,ek⟩;unfold rwP;rw[pq,pk] at r2;rw[decide_eq_true (show q<k by omega),eq,fa.2.2,r1,ek];show (true&&_)=true;rw[Bool.true_and,beq_iff_eq,←t.2];unfold plE;rw[Int.toNat_natCast]
 ·
  rintro⟨i,hi,r1,r2⟩;refine⟨i,hi,r1,?_⟩;have fa:=fu i (by omega);obtain⟨q,hq,eq,pq⟩:=pr i (by omega);rw[r1,Int.toNat_natCast] at pq;rw[wr.2 _ _ (by omega)] at r2;obtain⟨i',k,hi',hk,r3,r4,r5⟩:=r2;have pi:=pw i' hi';have pk:=pw k hk;have pq':=pw q hq;rw[r5,Int.toNat_natCast] at pk;have e5:rows.getD i' 0=rows.getD q 0:=by omega
  rw[e5,pq'] at pi;obtain rfl:q=i':=by omega
  unfold rwP at r3;rw[Bool.and_eq_true,decide_eq_true_eq,beq_iff_eq] at r3;refine⟨by rw[pq,pk];omega,idx_has hx hj ?_⟩;have hm:=(rows_perm hx hr).mem_iff.2 (get_mem hk)
  have fin:∀p,rows.getD k 0∈plcW (eventsB dss) p→((eventsB dss).getD (rows.getD k 0).toNat zE).2.2.1=false:=fun p hp=>by
   have:=(idx_all hx hp).2;unfold toE at this;simp only[Bool.and_eq_true,Bool.not_eq_true'] at this;exact this.1
  have hw:((eventsB dss).getD (rows.getD k 0).toNat zE).2.2.1=false:=by
   unfold allW at hm;rcases List.mem_append.1 hm with hm|hm
   ·
    rcases List.mem_append.1 hm with hm|hm
    · exact fin _ hm
    · exact fin _ hm
   · exact fin _ hm
  rw[r5,Int.toNat_natCast] at hw;have h3:=r3.2;rw[eq,fa.2.2,r1,r5] at h3;unfold toE;rw[hw,h3];unfold plE;rw[Int.toNat_natCast];simp
abbrev pgC (p:List Int):Array Value:=(p.map (Value.int .i64)).toArray
abbrev pgV (p:List Int):Value:= .agg (pgC p)
def Pg (w:World)(g:Nat)(p:List Int):Prop:=w.heap[g]? = some (.cells (pgC p) 109 (0,0))
theorem Pg.lt {w:World}{g:Nat}{p:List Int}(h:Pg w g p):g<w.heap.size:=(Array.getElem?_eq_some_iff.1 h).1
theorem Pg.row {w:World}{g:Nat}{p:List Int}(h:Pg w g p):RowAt w g p:=⟨_,_,h,by show List.take p.length (p.map _)=_;exact List.take_of_length_le (by simp)⟩
theorem Pg.cell {w:World}{g:Nat}{p:List Int}(h:Pg w g p){j:Nat}(hj:j<p.length):w.cell? ⟨g,j,none⟩=some (.int .i64 (p.getD j 0)):=h.row.cell hj
theorem Pg.free {w:World}{g:Nat}{p:List Int}(h:Pg w g p)(j:Nat):w.frozen? ⟨g,j,none⟩=false:=frozen_of_row w g j _ _ h
theorem Pg.kept {w w':World}{g:Nat}{p:List Int}{row:Option Nat}(h:Pg w g p)(hg:w.grownBy w' row)(hne:row≠some g):Pg w' g p:=by
 unfold Pg;rw[hg.block g h.lt (fun e=>hne e.symm)];exact h
theorem Pg.keep {w w':World}{g:Nat}{p:List Int}(h:Pg w g p)(k:Keep w w'):Pg w' g p:=h.kept k.grownBy (by simp)
theorem Pg.set {w:World}{g:Nat}{p:List Int}(h:Pg w g p)(j:Nat)(x:Int):Pg (w.setCell ⟨g,j,none⟩ (.int .i64 x)) g (p.set j x):=by
 unfold Pg at h ⊢;rw[heap_setCell_same w g j _ _ _ h]
 congr 2
 apply Array.ext';rw[Array.toList_setIfInBounds];simp[List.map_set]
theorem Pg.new {w:World}(p:List Int):Pg (w.alloc (.cells (pgC p) 109 (0,0))) w.heap.size p:=heap_alloc_new w _
theorem pg_size {p:List Int}(h:p.length=12):(pgC p).size=12:=by simp[pgC,h]
theorem pg_one (p:List Int):(pgC p).all (·.oneCell')=true:=by
 rw[Array.all_eq_true_iff_forall_mem];intro x hx;simp only[pgC,List.mem_toArray,List.mem_map] at hx;obtain⟨a,_,rfl⟩:=hx;rfl
theorem heap_setRow_same (w:World)(g:Nat)(t:TypeId)(old cs:Array Value)(hg:w.heap[g]? = some (.cells old t (0,0))):(w.setRow g cs).heap[g]? = some (.cells cs t (0,0)):=by
 unfold World.setRow;have hl:=(Array.getElem?_eq_some_iff.1 hg).1;rw[Array.getElem?_modify];simp[hg]
theorem grown_setRow (w:World)(g:Nat)(cs:Array Value):w.grownBy (w.setRow g cs) (some g):=
 ⟨rfl,rfl,rfl,by simp,fun k _ hk=>by
  unfold World.setRow;have hk':k≠g:=fun e=>hk (by rw[e])
  rw[Array.getElem?_modify]
  simp[hk'.symm]⟩
theorem page_info:(Tryz.prog.info? 109).map (·.size)=some 12:=by kernel_rfl
abbrev nilV:Value:= .slice none 0 0
abbrev taleC (x y:Value):Obj:= .cells #[x,y] 31
def StT (w1 wr:World)(D:Nat)(x y:Value):Prop:=wr.heap[D]? = some (taleC x y)∧w1.grownBy wr (some D)
theorem StT.start {w1:World}(x y:Value):StT w1 (w1.alloc (taleC x y)) w1.heap.size x y:=
 ⟨heap_alloc_new w1 _,World.grownBy_alloc w1 _ (some w1.heap.size)⟩
theorem StT.size {w1 wr:World}{D:Nat}{x y:Value}(h:StT w1 wr D x y):D<wr.heap.size:=(Array.getElem?_eq_some_iff.1 h.1).1
theorem StT.keep {w1 wr wr':World}{D:Nat}{x y:Value}(h:StT w1 wr D x y)(hk:Keep wr wr'):StT w1 wr' D x y:=
 ⟨(Below.block hk D h.size).trans h.1,grown_trans h.2 ⟨Below.os hk,Below.tape hk,Below.output hk,Below.size hk,fun i hi _=>Below.block hk i hi⟩⟩
theorem StT.cells {w1 wr:World}{D:Nat}{x y:Value}(h:StT w1 wr D x y):
  wr.cell? ⟨D,0,none⟩=some x∧wr.cell? ⟨D,1,none⟩=some y:=
 ⟨cell_of_row wr D 0 _ _ (0,0) h.1,cell_of_row wr D 1 _ _ (0,0) h.1⟩
theorem StT.free {w1 wr:World}{D:Nat}{x y:Value}(h:StT w1 wr D x y)(i:Nat):wr.frozen? ⟨D,i,none⟩=false:=frozen_of_row wr D i _ _ h.1
theorem StT.set0 {w1 wr:World}{D:Nat}{x y:Value}(h:StT w1 wr D x y)(z:Value):StT w1 (wr.setCell ⟨D,0,none⟩ z) D z y:=
 ⟨by rw[heap_setCell_same wr D 0 _ _ _ h.1];rfl,grown_trans h.2 ⟨rfl,rfl,rfl,by simp,fun i _ hi=>heap_setCell_other wr ⟨D,0,none⟩ i _ (fun e=>hi (by simp[e]))⟩⟩
theorem StT.set1 {w1 wr:World}{D:Nat}{x y:Value}(h:StT w1 wr D x y)(z:Value):StT w1 (wr.setCell ⟨D,1,none⟩ z) D x z:=
 ⟨by rw[heap_setCell_same wr D 1 _ _ _ h.1];rfl,grown_trans h.2 ⟨rfl,rfl,rfl,by simp,fun i _ hi=>heap_setCell_other wr ⟨D,1,none⟩ i _ (fun e=>hi (by simp[e]))⟩⟩
theorem StT.keep1 {w1 wr:World}{x y:Value}(h:StT w1 wr w1.heap.size x y):Keep w1 wr:=
 (Keep.refl w1).grown h.2 (fun k hk=>by simp at hk;omega)
theorem grown_setT (w:World)(g j:Nat)(v:Value):w.grownBy (w.setCell ⟨g,j,none⟩ v) (some g):=
 ⟨rfl,rfl,rfl,by simp,fun i _ hi=>heap_setCell_other w ⟨g,j,none⟩ i _ (fun e=>hi (by simp[e]))⟩
theorem Own.other {wr wr':World}{base D:Nat}{v:Value}{zs:List Int}(h:Own wr base v zs)(hb:D<base)(hg:wr.grownBy wr' (some D)):Own wr' base v zs:=
 h.kept hg (by
  cases hu:v.ownBlock with
  |none=>exact .inl rfl
  |some k=>exact .inr (fun e=>by have:=h.ge k hu;have:=Option.some.inj e;omega))
theorem rwB_len (dss:List (List Dd))(f:List Int):(rwB dss f).length≤12:=by
 unfold rwB;split
 ·
  rename_i h;rw[rowsB,Bool.and_eq_true] at h;have hx:=eventsB_12 dss;obtain⟨_,_,hr⟩:=rows_use hx h.2;have:=(web_rwAll hx hr f.length (Nat.le_refl _)).1.2.1;unfold rwL;omega
 · simp
theorem agB_len (dss:List (List Dd))(f rows:List Int):(agB dss f rows).length≤12:=by
 unfold agB;split
 ·
  rename_i h;have hb:=(tale_use h).1;rw[agL,agK_len,eventsB,if_pos hb];exact (events_law hb).1
 · simp
theorem clsB_len (es:List Ev):(clsB es).length≤12:=by
 unfold clsB;split
 · simpa
 · simp
theorem apart_of {v v':Value}{m:Nat}(h1:∀k,v'.ownBlock=some k→k<m)(h2:∀k,v.ownBlock=some k→m≤k):v.ownBlock=none∨v.ownBlock≠v'.ownBlock:=by
 cases hv:v.ownBlock with
 |none=>exact .inl rfl
 |some k=>
  refine .inr fun e=>?_
  have a:=h1 k e.symm;have b:=h2 k hv;omega
theorem new_one (w:World)(u:Value)(n:Nat)(hn:w.heap.size=n):∀j y,([u]:List Value)[j]? = some y→(w.alloc (.cells #[u] 23)).cell? ((⟨n,0,none⟩:Addr).add j)=some y:=by
 subst hn;intro j y hj
 match j,hj with
 | 0,hj=>simp at hj;subst hj;simp[Addr.add]
theorem workB_useQ {dss:List (List Dd)}(h:workB dss=true):dss.length≤3∧∀i,i<dss.length→okL (dss.getD i [])=true:=by
 simp only[workB,Bool.and_eq_true,decide_eq_true_eq] at h;obtain⟨⟨⟨⟨h1,h2⟩,_⟩,_⟩,_⟩:=h;exact⟨h1.2,fun i hi=>all_get [] h2 i hi⟩
theorem plcW_pos {dss:List (List Dd)}(hb:workB dss=true):∀p,p<3→0<(plcW (evsW dss dss.length) p).length:=fun p hp=>by
 have:=(plcW_first hb p hp).1;rw[eventsB,if_pos hb] at this;exact this
theorem workB_useR {dss:List (List Dd)}(h:workB dss=true):dss.length≤3∧∀i,i<dss.length→okL (dss.getD i [])=true:=by
 simp only[workB,Bool.and_eq_true,decide_eq_true_eq] at h;obtain⟨⟨⟨⟨h1,h2⟩,_⟩,_⟩,_⟩:=h;exact⟨h1.2,fun i hi=>all_get [] h2 i hi⟩
theorem evsW_9 {dss:List (List Dd)}(h:workB dss=true):(evsW dss dss.length).length≤9:=by
 simp only[workB,Bool.and_eq_true,decide_eq_true_eq] at h;obtain⟨⟨⟨⟨_,h2⟩,_⟩,h4⟩,_⟩:=h;have:=evsW_len (fun i hi=>all_get [] h2 i hi) dss.length (Nat.le_refl _);omega
end Go.Proofs.YtgikcfdckddgpabGreat
