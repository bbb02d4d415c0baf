/- Gathered texts. -/
import Derived.Test.YtgakfkjjkobpiabGreatMD
import Derived.Maps.AppendAt
import Derived.RegionTactic
set_option maxRecDepth 100000
set_option maxHeartbeats 8000000
namespace Go.Proofs.YtgakfkjjkobpiabGreat
open Go.ChangeShapes Go.WideShapes Go.ChangeAt Go.RowKit
open Go.RowKit
def rowS (v:Value)(n:Nat)(a:Addr):Prop:=∃b o l c i,v = .slice (some ⟨b,o,none⟩) l c∧i<n∧a=⟨b,o+i,none⟩
def Wb (w:World)(a:Addr):Prop:=∃cur t,w.heap[a.block]? = some (.cells cur t (0,0))∧a.off<cur.size
structure Wrt (S:Addr→Prop)(w w':World):Prop where
 os:w'.os=w.os
 tape:w'.tape=w.tape
 output:w'.output=w.output
 size:w.heap.size≤w'.heap.size
 cell:∀a,a.block<w.heap.size→¬S a→w'.cell? a=w.cell? a
 shape:∀(b:Nat) (cur:Array Value) (t:TypeId),w.heap[b]? = some (Obj.cells cur t (0,0))→∃cur':Array Value,w'.heap[b]? = some (Obj.cells cur' t (0,0))∧cur'.size=cur.size
 block:∀b,b<w.heap.size→(∀a,S a→a.block≠b)→w'.heap[b]? = w.heap[b]?
def Mkd (w:World)(v:Value)(n:Nat)(k:Int):Prop:=∀b o l c i,v = .slice (some ⟨b,o,none⟩) l c→i<n→w.cell? ⟨b,o+i,none⟩=some (.int .i64 (k+i))
theorem Wb.lt {w:World}{a:Addr}(h:Wb w a):a.block<w.heap.size:=by
 obtain⟨cur,t,h,_⟩:=h;exact (Array.getElem?_eq_some_iff.1 h).1
theorem Wb.free {w:World}{b o:Nat}(h:Wb w ⟨b,o,none⟩):w.frozen? ⟨b,o,none⟩=false:=by
 obtain⟨cur,t,h,_⟩:=h;exact frozen_of_row w b o cur t h
theorem Wb.cell {w:World}{b o:Nat}(h:Wb w ⟨b,o,none⟩):∃u,w.cell? ⟨b,o,none⟩=some u:=by
 obtain⟨cur,t,h,hn⟩:=h;exact⟨cur[o],by rw[cell_of_row w b o cur t (0,0) h,Array.getElem?_eq_getElem hn]⟩
theorem Wb.kept {S:Addr→Prop}{w w':World}{a:Addr}(h:Wb w a)(k:Wrt S w w'):Wb w' a:=by
 obtain⟨cur,t,h,hn⟩:=h;obtain⟨cur',h',e⟩:=k.shape _ _ _ h;exact⟨cur',t,h',by rw[e];exact hn⟩
theorem Wb.keep {w w':World}{a:Addr}(h:Wb w a)(k:Keep w w'):Wb w' a:=by
 have hl:=h.lt;obtain⟨cur,t,h,hn⟩:=h;exact⟨cur,t,(Below.block k _ hl).trans h,hn⟩
theorem Wrt.refl (S:Addr→Prop)(w:World):Wrt S w w:=⟨rfl,rfl,rfl,Nat.le_refl _,fun _ _ _=>rfl,fun _ cur _ h=>⟨cur,h,rfl⟩,fun _ _ _=>rfl⟩
theorem Wrt.trans {S:Addr→Prop}{a b c:World}(h:Wrt S a b)(k:Wrt S b c):Wrt S a c:=
  ⟨k.os.trans h.os,k.tape.trans h.tape,k.output.trans h.output,Nat.le_trans h.size k.size,
   fun x hx hn=>(k.cell x (Nat.lt_of_lt_of_le hx h.size) hn).trans (h.cell x hx hn),
   fun q cur t hq=>by
    obtain⟨c1,h1,e1⟩:=h.shape q cur t hq;obtain⟨c2,h2,e2⟩:=k.shape q c1 t h1
    exact⟨c2,h2,e2.trans e1⟩,
   fun q hq hn=>(k.block q (Nat.lt_of_lt_of_le hq h.size) hn).trans (h.block q hq hn)⟩
theorem Wrt.more {S T:Addr→Prop}{w w':World}(h:Wrt S w w')(hs:∀a,S a→T a):Wrt T w w':=
 ⟨h.os,h.tape,h.output,h.size,fun a ha hn=>h.cell a ha (fun hS=>hn (hs a hS)),h.shape,fun b hb hn=>h.block b hb (fun a ha=>hn a (hs a ha))⟩
theorem Keep.wrt {w w':World}(k:Keep w w')(S:Addr→Prop):Wrt S w w':=
 ⟨Below.os k,Below.tape k,Below.output k,Below.size k,fun a ha _=>World.cell?_of_block (Below.block k a.block ha),fun b cur _ h=>⟨cur,(Below.block k b (Array.getElem?_eq_some_iff.1 h).1).trans h,rfl⟩,fun b hb _=>Below.block k b hb⟩
theorem Wrt.set {S:Addr→Prop}{a w:World}(h:Wrt S a w){b o:Nat}(x:Value)(hb:Wb w ⟨b,o,none⟩)(hS:S ⟨b,o,none⟩):Wrt S a (w.setCell ⟨b,o,none⟩ x):=by
 refine h.trans ⟨rfl,rfl,rfl,by simp,fun q _ hn=>World.cell?_setCell_other _ _ _ _ (fun e=>hn (e ▸ hS)),fun q cur t hq=>?_,fun q _ hn=>heap_setCell_other w ⟨b,o,none⟩ q x (fun e=>hn _ hS e.symm)⟩;by_cases e:q=b
 ·
  subst e;exact⟨cur.setIfInBounds o x,heap_setCell_same w q o cur t x hq,by simp⟩
 · exact⟨cur,(heap_setCell_other w ⟨b,o,none⟩ q x e).trans hq,rfl⟩
theorem set_cell {w:World}{b o:Nat}(x:Value)(h:Wb w ⟨b,o,none⟩):(w.setCell ⟨b,o,none⟩ x).cell? ⟨b,o,none⟩=some x:=by
 obtain⟨u,hu⟩:=h.cell;exact World.cell?_setCell_same _ _ _ hu
theorem set_other {w:World}{b o q:Nat}(x:Value)(h:q≠o):(w.setCell ⟨b,o,none⟩ x).cell? ⟨b,q,none⟩=w.cell? ⟨b,q,none⟩:=
 World.cell?_setCell_other _ _ _ _ (by intro e;injection e with _ e2;first|exact h e2|exact h e2.symm)
theorem Wb.set {w:World}{a:Addr}{b o:Nat}(x:Value)(h:Wb w a):Wb (w.setCell ⟨b,o,none⟩ x) a:=by
 obtain⟨cur,t,h,hn⟩:=h;by_cases e:a.block=b
 ·
  refine⟨cur.setIfInBounds o x,t,?_,by simpa using hn⟩;rw[e] at h ⊢;exact heap_setCell_same w b o cur t x h
 · exact⟨cur,t,(heap_setCell_other w ⟨b,o,none⟩ a.block x e).trans h,hn⟩
theorem Mkd.kept {S:Addr→Prop}{w w':World}{v:Value}{n:Nat}{k:Int}(h:Mkd w v n k)(g:Wrt S w w')(hd:∀a,rowS v n a→¬S a)(hw:∀a,rowS v n a→a.block<w.heap.size):Mkd w' v n k:=
 fun b o l c i e hi=>(g.cell _ (hw _ ⟨b,o,l,c,i,e,hi,rfl⟩) (hd _ ⟨b,o,l,c,i,e,hi,rfl⟩)).trans (h b o l c i e hi)
theorem Mkd.keep {w w':World}{v:Value}{n:Nat}{k:Int}(h:Mkd w v n k)(g:Keep w w')(hw:∀a,rowS v n a→a.block<w.heap.size):Mkd w' v n k:=
 fun b o l c i e hi=>(g.cell (hw _ ⟨b,o,l,c,i,e,hi,rfl⟩)).trans (h b o l c i e hi)
def rowsS (rs:List (Value×Nat))(a:Addr):Prop:=∃r∈rs,rowS r.1 r.2 a
def totR:List (Value×Nat)→Nat
 | []=>0
 |r::rs=>r.2+totR rs
def mkR (w:World)(k:Int):List (Value×Nat)→Prop
 | []=>True
 |r::rs=>Mkd w r.1 r.2 k∧mkR w (k+r.2) rs
structure Loose (w:World)(rs:List (Value×Nat)):Prop where
 wb:∀a,rowsS rs a→Wb w a
 ap:rs.Pairwise (fun r s=>∀a,rowS r.1 r.2 a→¬rowS s.1 s.2 a)
theorem totR_append (a b:List (Value×Nat)):totR (a++b)=totR a+totR b:=by
 induction a with
 |nil=>simp[totR]
 |cons r rs ih=>simp[totR,ih];omega
theorem mkR_append (w:World)(a b:List (Value×Nat)):∀k:Int,mkR w k (a++b)↔mkR w k a∧mkR w (k+totR a) b:=by
 induction a with
 |nil=>intro k;simp[mkR,totR]
 |cons r rs ih=>
  intro k;simp only[List.cons_append,mkR,totR];rw[ih,and_assoc];have e:k+(r.2:Int)+(totR rs:Int)=k+((r.2+totR rs:Nat):Int):=by rw[Int.natCast_add];omega
  rw[e]
theorem mkR_kept {S:Addr→Prop}{w w':World}(g:Wrt S w w'):∀(rs:List (Value×Nat)) (k:Int),mkR w k rs→(∀a,rowsS rs a→¬S a)→(∀a,rowsS rs a→a.block<w.heap.size)→mkR w' k rs
 | [],_,_,_,_=>trivial
 |r::rs,k,h,hd,hw=>⟨h.1.kept g (fun a ha=>hd a ⟨r,List.mem_cons_self,ha⟩) (fun a ha=>hw a ⟨r,List.mem_cons_self,ha⟩),
   mkR_kept g rs (k+r.2) h.2 (fun a ⟨s,hs,ha⟩=>hd a ⟨s,List.mem_cons_of_mem _ hs,ha⟩) (fun a ⟨s,hs,ha⟩=>hw a ⟨s,List.mem_cons_of_mem _ hs,ha⟩)⟩
theorem Loose.kept {S:Addr→Prop}{w w':World}{rs:List (Value×Nat)}(h:Loose w rs)(g:Wrt S w w'):Loose w' rs:=⟨fun a ha=>(h.wb a ha).kept g,h.ap⟩
theorem Loose.keep {w w':World}{rs:List (Value×Nat)}(h:Loose w rs)(g:Keep w w'):Loose w' rs:=⟨fun a ha=>(h.wb a ha).keep g,h.ap⟩
theorem Loose.sub {w:World}{rs ts:List (Value×Nat)}(h:Loose w rs)(hs:ts.Sublist rs):Loose w ts:=
 ⟨fun a ⟨r,hr,ha⟩=>h.wb a ⟨r,hs.subset hr,ha⟩,h.ap.sublist hs⟩
theorem rowsS_append {a b:List (Value×Nat)}{x:Addr}:rowsS (a++b) x↔rowsS a x∨rowsS b x:=by
 unfold rowsS;constructor
 ·
  rintro⟨r,hr,h⟩;rcases List.mem_append.1 hr with h1|h1
  · exact .inl ⟨r,h1,h⟩
  · exact .inr ⟨r,h1,h⟩
 ·
  rintro (⟨r,hr,h⟩|⟨r,hr,h⟩)
  · exact⟨r,List.mem_append.2 (.inl hr),h⟩
  · exact⟨r,List.mem_append.2 (.inr hr),h⟩
theorem Loose.apart {w:World}{a b:List (Value×Nat)}(h:Loose w (a++b)):∀x,rowsS a x→¬rowsS b x:=by
 rintro x ⟨r,hr,h1⟩ ⟨s,hs,h2⟩;exact (List.pairwise_append.1 h.ap).2.2 r hr s hs x h1 h2
theorem mk_then {w0 w1 w2:World}{a b:List (Value×Nat)}{k:Int}(h:Loose w0 (a++b))(g1:Wrt (rowsS a) w0 w1)(m1:mkR w1 k a)(g2:Wrt (rowsS b) w1 w2)(m2:mkR w2 (k+totR a) b):
  Wrt (rowsS (a++b)) w0 w2∧mkR w2 k (a++b):=by
 refine⟨(g1.more (fun x hx=>rowsS_append.2 (.inl hx))).trans (g2.more (fun x hx=>rowsS_append.2 (.inr hx))),(mkR_append w2 a b k).2 ⟨?_,m2⟩⟩;exact mkR_kept g2 a k m1 (fun x hx=>h.apart x hx) (fun x hx=>((h.wb x (rowsS_append.2 (.inl hx))).kept g1).lt)
theorem board_all {dss:List (List Dd)}{b:Bd}(h:boardB dss b=true):workB dss=true∧b.plc.length=3∧b.lst.length=3∧b.rws.length=3∧b.nts.length=dss.length∧b.nxt.length=dss.length∧b.sn.length≤12∧b.fr.length≤12∧(∀i,i<3→(b.rws.getD i []).length≤20)∧∀i,i<dss.length→(b.nts.getD i []).length≤8:=by
 unfold boardB shapeB fillB rowsBd at h;simp only[Bool.and_eq_true,decide_eq_true_eq] at h;obtain⟨⟨h1,h2,h3,h4,h5,h6⟩,⟨_,_,_,_,h7,h8⟩,h9,h10⟩:=h;unfold allB at h7 h8;simp only[Bool.and_eq_true,decide_eq_true_eq] at h7 h8;refine⟨h1,h2,h3,h4,h5,h6,h7.2,h8.2,fun i hi=>?_,fun i hi=>?_⟩
 ·
  have:=List.all_eq_true.1 h9 i (List.mem_range.2 hi);unfold allB at this;simp only[Bool.and_eq_true,decide_eq_true_eq] at this;exact this.2
 ·
  have:=List.all_eq_true.1 h10 i (List.mem_range.2 hi);unfold ckB at this;simp only[Bool.and_eq_true,decide_eq_true_eq] at this;exact this.2.1
theorem work_small {dss:List (List Dd)}(h:workB dss=true):dss.length≤3∧∀i,i<dss.length→(dss.getD i []).length≤1048576:=by
 obtain⟨h1,h2⟩:=workB_useR h;refine⟨h1,fun i hi=>?_⟩;have hq:=h2 i hi;unfold okL at hq;rw[Bool.and_eq_true,decide_eq_true_eq] at hq;omega
theorem Own.lit {w:World}{base:Nat}{v:Value}{zs:List Int}(h:Own w base v zs){k:Nat}(hk:k<zs.length):∃g cap,v = .slice (some ⟨g,0,none⟩) zs.length cap∧g<w.heap.size∧(∀i,i<zs.length→w.cell? ⟨g,i,none⟩=some (.int .i64 (zs.getD i 0)))∧∀i,w.frozen? ⟨g,i,none⟩=false:=by
 have h':=h;have hlt:=World.ownsRow.lt h;rcases h.2 with ⟨_,hn⟩|⟨g,cap,cur,rfl,_⟩
 · omega
 ·
  refine⟨g,cap,rfl,(hlt g rfl).2,fun i hi=>?_,fun i=>World.ownsRow.frozenAt h' i⟩;rw[World.ownsRow.cellAt h' i (by simpa using hi),List.getElem?_map,List.getElem?_eq_getElem hi,List.getD_eq_getElem?_getD,List.getElem?_eq_getElem hi];rfl
theorem step_append_at {P:Program}{w:World}{ops:Array Oper}{o:Oper}{a:Act}{K:Act→World→Prop}{Q:Exit→Act→World→Prop}{E:Prop}(hgd:o.guard=none)(s x:Operand)(t:TypeId)
  (ho:o.op = .call { callee:= .builtin .append,args:=#[s,x],argTypes:=#[t,t] })
  (base:Nat) (e:TypeId) (i:TypeInfo) (z:Value) (size bytes:Nat) (ht:P.underlying t=some (.slice e)) (hi:P.info? e=some i) (hz:i.zero=some z)
  (hsize:i.size=size) (hby:i.bytes=bytes) (hzs:z.cells.size=size) (hsz:0<size)
  (v:Value) (n:Nat) (xs:List Value) (hs:a.eval s=v) (hown:w.ownsRow base e size v n xs)
  (ad:Addr) (m c:Nat) (news:List Value) (hx:a.eval x = .slice (some ad) m c) (hl:news.length=m*size) (hnews:∀j u,news[j]? = some u→w.cell? (ad.add j)=some u) (h1:∀u∈news,u.oneCell'=true)
  (h63:n+m≤maxLen) (hbytes:(n+m)*bytes≤140737488355328) (hbase:base≤w.heap.size)
  (h:∀v' w',w'.ownsRow base e size v' (n+m) (xs++news)→w.grownBy w' v.ownBlock→(v'.ownBlock=v.ownBlock∨v'.ownBlock=some w.heap.size)→K (a.put o.dst v') w'):
  if Region.wanted o (yielded ops a.tmps)=true then Oper.wp P o a w K Q else E:=by
 have hw:Region.wanted o (yielded ops a.tmps)=true:=by simp[Region.wanted,hgd]
 rw[if_pos hw];obtain⟨v',w',hr,h2,h3,h4,h5⟩:=run_append_own_at (P:=P) w base t o.type e i z size bytes ht hi hz hsize hby hzs hsz v n xs hown ad m c news hl hnews h1 h63 hbytes hbase;unfold Oper.wp execOp;simp only[ho,resolve,invoke,builtin,Sem.run_bind,Sem.run_pure,Result.andThen_ok,List.map_toArray,List.map_cons,List.map_nil,hs,hx,hr];exact h v' w' h2 h3 h5
def seenK (ns:List Nt)(p:Int)(y:Nt)(k:Nat):Nt:=((ns.take k).reverse.find? (fun x=>x.1==p)).getD y
theorem seenK_more (ns:List Nt)(p:Int)(y:Nt)(k:Nat)(h:k<ns.length):seenK ns p y (k+1)=if (ns.getD k (0,0,0)).1=p then ns.getD k (0,0,0) else seenK ns p y k:=by
 have e:ns.take (k+1)=ns.take k++[ns.getD k (0,0,0)]:=by
  rw[List.take_add_one,List.getD_eq_getElem?_getD,List.getElem?_eq_getElem h];rfl
 unfold seenK;rw[e,List.reverse_append];simp only[List.reverse_cons,List.reverse_nil,List.nil_append,List.cons_append,List.find?_cons];by_cases q:(ns.getD k (0,0,0)).1=p
 ·
  rw[if_pos q];have:((ns.getD k (0,0,0)).1==p)=true:=by simpa using q
  rw[this];rfl
 ·
  rw[if_neg q];have:((ns.getD k (0,0,0)).1==p)=false:=by simpa using q
  rw[this]
theorem seenK_all (b:Bd)(c p:Nat):(seenK (b.nts.getD c []) (p:Int) ((p:Int),b.plc.getD p 0,b.lst.getD p 0) (b.nts.getD c []).length).2=rdgM b c p:=by
 unfold seenK rdgM;rw[List.take_length];cases (b.nts.getD c []).reverse.find? (fun x=>x.1==(p:Int))<;>rfl
theorem isB_take {l:List Int}{n:Int}(h:∀i,i<l.length→l.getD i 0≠n):isB l n=false:=by
 unfold isB;rw[List.any_eq_false];intro x hx;obtain⟨i,hi,e⟩:=List.getElem_of_mem hx;have:=h i hi;rw[List.getD_eq_getElem?_getD,List.getElem?_eq_getElem hi] at this;simp only[Option.getD_some] at this;rw[←e]
 simpa using this
theorem isB_at {l:List Int}{n:Int}{i:Nat}(hi:i<l.length)(h:l.getD i 0=n):isB l n=true:=by
 unfold isB;rw[List.any_eq_true];refine⟨n,?_,by simp⟩;rw[←h,List.getD_eq_getElem?_getD,List.getElem?_eq_getElem hi];exact List.getElem_mem hi
theorem poss_cases {dss:List (List Dd)}(h3:dss.length≤3){b:Bd}{s:Int}(h:isB (possM dss b) s=true):
  (∃c:Nat,s=10+(c:Int)∧c<dss.length∧∃x r,b.nts.getD c []=x::r)∨(∃c:Nat,s=(c:Int)∧c<dss.length∧c<10∧canM dss b c=true):=by
 have:=isB_mem h;unfold possM at this;rcases List.mem_append.1 this with h|h
 ·
  obtain⟨c,hc,rfl⟩:=List.mem_map.1 h;obtain⟨h1,h2⟩:=List.mem_filter.1 hc;have:=List.mem_range.1 h1;exact .inr ⟨c,rfl,this,by omega,h2⟩
 ·
  obtain⟨c,hc,rfl⟩:=List.mem_map.1 h;obtain⟨h1,h2⟩:=List.mem_filter.1 hc;refine .inl ⟨c,rfl,List.mem_range.1 h1,?_⟩
  cases e:b.nts.getD c [] with
  |nil=>rw[e] at h2;simp at h2
  |cons x r=>exact⟨x,r,rfl⟩
def lenG {α:Type}:List (List α)→Nat
 | []=>0
 |d::r=>d.length+lenG r
theorem lenG_app {α:Type}:∀(l r:List (List α)),lenG (l++r)=lenG l+lenG r
 | [],r=>by simp[lenG]
 |d::l,r=>by rw[List.cons_append,lenG,lenG,lenG_app l r];omega
theorem lenG_take {α:Type}(dss:List (List α))(k:Nat)(h:k<dss.length):lenG (dss.take (k+1))=lenG (dss.take k)+(dss.getD k []).length:=by
 rw[List.take_add_one,List.getElem?_eq_getElem h,lenG_app,List.getD_eq_getElem?_getD,List.getElem?_eq_getElem h];simp[lenG]
theorem lenG_get {α:Type}:∀(dss:List (List α)) (i:Nat),i<dss.length→(dss.getD i []).length≤lenG dss
 | [],i,h=>by simp at h
 |d::r,0,_=>by simp[lenG]
 |d::r,i+1,h=>by
  have:=lenG_get r i (by simpa using h);rw[lenG];simp only[List.getD_cons_succ];omega
def SumBd (dss:List (List Dd))(b:Bd):Prop:=lenW dss≤1048576∧lenG b.nts≤1048576∧lenG b.rws≤1048576
theorem sub_of_idx {l:List Int}{i q:Nat}(hi:i<q)(hq:q<l.length):[l.getD i 0,l.getD q 0].Sublist l:=by
 have h1:[l.getD i 0].Sublist (l.take q):=by
  rw[List.singleton_sublist,List.mem_take_iff_getElem];refine⟨i,by omega,?_⟩;rw[List.getD_eq_getElem?_getD,List.getElem?_eq_getElem (by omega)];rfl
 have h2:[l.getD q 0].Sublist (l.drop q):=by
  rw[List.singleton_sublist,List.mem_drop_iff_getElem];refine⟨0,by omega,?_⟩;rw[List.getD_eq_getElem?_getD,List.getElem?_eq_getElem hq];simp
 have:=h1.append h2
 rwa [List.take_append_drop] at this
theorem bef_idx {L:List Nat}(hn:L.Nodup){x y:Nat}(h:Bef L x y):L.idxOf x<L.idxOf y:=by
 induction L with
 |nil=>cases h
 |cons c L ih=>
  rw[List.nodup_cons] at hn
  have hxy:x≠y:=by
   have:=h.nodup (by rw[List.nodup_cons];exact hn);intro e;rw[e] at this;simp at this
  cases h with
  |cons _ h'=>
   have hm:=bef_mem h';have hx:c≠x:=fun e=>hn.1 (by rw[e];exact hm.1)
   have hy:c≠y:=fun e=>hn.1 (by rw[e];exact hm.2)
   rw[List.idxOf_cons,List.idxOf_cons,beq_eq_false_iff_ne.2 hx,beq_eq_false_iff_ne.2 hy];exact Nat.succ_lt_succ (ih hn.2 h')
  |cons_cons _ h'=>
   rw[List.idxOf_cons_self,List.idxOf_cons,beq_eq_false_iff_ne.2 hxy];exact Nat.succ_pos _
structure Fin (dss:List (List Dd))(a:Ab)(τ:Nat→Nat)(T:Nat)(z:Int)(b:Bd):Prop where
 inv:AInv (sysW dss) (stA dss a τ) T z
 rep:Rep dss b a
 none:∀c,(stA dss a τ).N c=[]
 all:∀j,j<(eventsB dss).length→(stA dss a τ).D (sysW dss) j
theorem Fin.frs {dss:List (List Dd)}{a:Ab}{τ:Nat→Nat}{T:Nat}{z:Int}{b:Bd}(h:Fin dss a τ T z b):b.fr=(idxB rdE (eventsB dss)).map (fun r=>(a.F r.toNat:Int))∧b.sn=(idxB rdE (eventsB dss)).map (fun r=>vlN dss (a.F r.toNat)):=by
 have hx:=eventsB_12 dss;rw[h.rep.fr,h.rep.sn]
 constructor <;>
 ·
  refine List.map_congr_left (fun r hr=>?_);obtain⟨j,rfl,hj,_⟩:=rs_in hx hr;rw[Int.toNat_natCast,if_pos (h.all j hj).1.2]
theorem Fin.rd {dss:List (List Dd)}{a:Ab}{τ:Nat→Nat}{T:Nat}{z:Int}{b:Bd}(h:Fin dss a τ T z b){i:Nat}(hi:i<(idxB rdE (eventsB dss)).length):∃r:Nat,r<(eventsB dss).length∧(idxB rdE (eventsB dss)).getD i 0=(r:Int)∧b.fr.getD i 0=(a.F r:Int)∧(sysW dss).rd r=true:=by
 have hx:=eventsB_12 dss;obtain⟨r,e,hr,hrd⟩:=rs_in hx (getD_mem hi);refine⟨r,hr,e,?_,hrd⟩;rw[h.frs.1,List.getD_eq_getElem?_getD,List.getElem?_map];rw[List.getD_eq_getElem?_getD,List.getElem?_eq_getElem hi] at e;rw[List.getElem?_eq_getElem hi];simp only[Option.getD_some] at e;simp[e]
theorem Fin.src {dss:List (List Dd)}{a:Ab}{τ:Nat→Nat}{T:Nat}{z:Int}{b:Bd}(hb:workB dss=true)(h:Fin dss a τ T z b):srcB (chcL (eventsB dss)) b.fr=true:=by
 have hx:=eventsB_12 dss;have hc:(chcL (eventsB dss)).length=(idxB rdE (eventsB dss)).length:=chcK_len _ _ _;unfold srcB;rw[Bool.and_eq_true,decide_eq_true_eq];refine⟨by rw[hc,h.frs.1,List.length_map],(srcK_iff _).2 (fun i hi=>?_)⟩;rw[hc] at hi;obtain⟨r,hr,e1,e2,e3⟩:=h.rd hi;obtain⟨q1,q2,q3,_⟩:=h.inv.src r (h.all r hr).1 e3;unfold chcL;rw[chcK_get _ _ _ _ hi,e1,e2];refine mem_isB ?_;unfold idxB;rw[if_pos hx];refine idxK_has _ _ ?_ _ (h.inv.lt _ q1);unfold toE plE;have p1:0≤((eventsB dss).getD (a.F r) zE).2.2.2.1∧((eventsB dss).getD (a.F r) zE).2.2.2.1≤2:=place_ev hb (h.inv.lt _ q1);have p2:=place_ev hb hr;have q3':((eventsB dss).getD (a.F r) zE).2.2.2.1.toNat=((eventsB dss).getD r zE).2.2.2.1.toNat:=q3;have q2':((eventsB dss).getD (a.F r) zE).2.2.1=false:=q2;rw[q2',Int.toNat_natCast];have:((eventsB dss).getD (a.F r) zE).2.2.2.1=((eventsB dss).getD r zE).2.2.2.1:=by omega
 rw[this];simp
theorem Fin.head {dss:List (List Dd)}{a:Ab}{τ:Nat→Nat}{T:Nat}{z:Int}{b:Bd}(h:Fin dss a τ T z b){p:Nat}(hp:p<3):(a.R p).head? = some p:=by
 obtain⟨h1,h2,h3,h4,h5,h6⟩:=h.inv.beg p hp;have hm:p∈a.R p:=(h.inv.rows p p).2 ⟨h.all p (h.inv.lt p h1),h2,h3⟩;have ho:=h.inv.rord p
 cases hl:a.R p with
 |nil=>rw[hl] at hm;cases hm
 |cons x r=>
  change (a.R p).Pairwise _ at ho;rw[hl] at ho hm;rw[List.pairwise_cons] at ho;rcases List.mem_cons.1 hm with e|hr
  · rw[e];rfl
  ·
   exfalso;have hx:=(h.inv.rows p x).1 (show x∈a.R p by rw[hl];simp);have ht:=ho.1 p hr;change τ x≤τ p at ht;change τ p=0 at h5;have hnd:=h.inv.rnod p;change (a.R p).Nodup at hnd;rw[hl,List.nodup_cons] at hnd;have hne:x≠p:=fun e=>hnd.1 (by rw[e];exact hr)
   by_cases h3x:3≤x
   ·
    have:=h.inv.tpos x hx.1 h3x;change 1≤τ x at this;omega
   ·
    have:=(h.inv.beg x (by omega)).2.2.1;rw[hx.2.2] at this;exact hne this.symm
theorem Fin.perm {dss:List (List Dd)}{a:Ab}{τ:Nat→Nat}{T:Nat}{z:Int}{b:Bd}(hb:workB dss=true)(h:Fin dss a τ T z b)(p:Nat):((a.R p).map Int.ofNat).Perm (plcW (eventsB dss) p):=by
 have hx:=eventsB_12 dss
 have hn1:((a.R p).map Int.ofNat).Nodup:=by
  have:=h.inv.rnod p;exact List.Pairwise.map _ (fun x y hxy e=>hxy (Int.ofNat.inj e)) this
 have hn2:=plcW_nodup hx p
 have hm:∀y,y∈(a.R p).map Int.ofNat↔y∈plcW (eventsB dss) p:=by
  intro y;rw[List.mem_map];unfold plcW idxB;rw[if_pos hx];constructor
  ·
   rintro⟨x,hx',rfl⟩;obtain⟨q1,q2,q3⟩:=(h.inv.rows p x).1 hx';refine idxK_has _ _ ?_ _ (h.inv.lt x q1.1);have p1:=place_ev hb (h.inv.lt x q1.1);have q2':((eventsB dss).getD x zE).2.2.1=false:=q2;have q3':((eventsB dss).getD x zE).2.2.2.1.toNat=p:=q3;unfold toE;rw[q2'];have:((eventsB dss).getD x zE).2.2.2.1=(p:Int):=by omega
   rw[this];simp
  ·
   intro hy;have h1:=idxK_lt _ _ _ _ hy;have h2:=idxK_mem _ _ _ _ hy;obtain⟨x,rfl⟩:=Int.eq_ofNat_of_zero_le h1.1;rw[Int.toNat_natCast] at h2;unfold toE at h2;simp only[Bool.and_eq_true,Bool.not_eq_true',beq_iff_eq] at h2;refine⟨x,(h.inv.rows p x).2 ⟨h.all x (by omega),h2.1,?_⟩,rfl⟩;show ((eventsB dss).getD x zE).2.2.2.1.toNat=p;rw[h2.2,Int.toNat_natCast]
 refine perm_of hn1 (fun y hy=>(hm y).1 hy) (nodup_sub_len hn2 (fun y hy=>(hm y).2 hy))
def rowsOf (b:Bd):List Int:=b.rws.getD 0 []++b.rws.getD 1 []++b.rws.getD 2 []
theorem Fin.rowsE {dss:List (List Dd)}{a:Ab}{τ:Nat→Nat}{T:Nat}{z:Int}{b:Bd}(h:Fin dss a τ T z b):rowsOf b=(a.R 0).map Int.ofNat++(a.R 1).map Int.ofNat++(a.R 2).map Int.ofNat:=by
 unfold rowsOf;rw[(lst_at h.rep (show 0<3 by omega)).2.2,(lst_at h.rep (show 1<3 by omega)).2.2,(lst_at h.rep (show 2<3 by omega)).2.2]
theorem Fin.rows {dss:List (List Dd)}{a:Ab}{τ:Nat→Nat}{T:Nat}{z:Int}{b:Bd}(hb:workB dss=true)(h:Fin dss a τ T z b):rowsL (eventsB dss) (rowsOf b)=true:=by
 rw[h.rowsE];have hl:∀p,((a.R p).map Int.ofNat).length=(plcW (eventsB dss) p).length:=fun p=>(h.perm hb p).length_eq
 have hd:∀p,p<3→((a.R p).map Int.ofNat).getD 0 0=(p:Int):=by
  intro p hp;have:=h.head hp;rw[List.head?_eq_getElem?] at this;rw[List.getD_eq_getElem?_getD,List.getElem?_map,this];rfl
 have h0:∀p,p<3→0<(plcW (eventsB dss) p).length:=fun p hp=>(plcW_first hb p hp).1
 have k0:=okP_mk (A:=[]) (P:=(a.R 0).map Int.ofNat) (C:=(a.R 1).map Int.ofNat++(a.R 2).map Int.ofNat) (i:=0) (hl 0) (h.perm hb 0) (h0 0 (by omega)) (hd 0 (by omega));have k1:=okP_mk (A:=(a.R 0).map Int.ofNat) (P:=(a.R 1).map Int.ofNat) (C:=(a.R 2).map Int.ofNat) (i:=1) (hl 1) (h.perm hb 1) (h0 1 (by omega)) (hd 1 (by omega));have k2:=okP_mk (A:=(a.R 0).map Int.ofNat++(a.R 1).map Int.ofNat) (P:=(a.R 2).map Int.ofNat) (C:=[]) (i:=2) (hl 2) (h.perm hb 2) (h0 2 (by omega)) (hd 2 (by omega));simp only[List.nil_append,List.append_nil,List.length_nil,List.length_append,hl,←List.append_assoc] at k0 k1 k2;unfold rowsL;rw[k0,k1,k2];simp only[Bool.true_and,decide_eq_true_eq,List.length_append,hl]
theorem fil_own {dss:List (List Dd)}{a:Ab}{τ:Nat→Nat}{T:Nat}{z:Int}{b:Bd}(hb:workB dss=true)(h:Fin dss a τ T z b)(p q:Nat):((a.R q).map Int.ofNat).filter (fun x=>plE (eventsB dss) x==(p:Int))=if q=p then (a.R q).map Int.ofNat else []:=by
 have hq:∀x,x∈(a.R q).map Int.ofNat→plE (eventsB dss) x=(q:Int):=by
  intro x hx;obtain⟨y,hy,rfl⟩:=List.mem_map.1 hx;obtain⟨q1,q2,q3⟩:=(h.inv.rows q y).1 hy;have p1:=place_ev hb (h.inv.lt y q1.1);have q3':((eventsB dss).getD y zE).2.2.2.1.toNat=q:=q3;show ((eventsB dss).getD ((y:Int)).toNat zE).2.2.2.1=_;rw[Int.toNat_natCast];omega
 split
 ·
  rename_i e;rw[List.filter_eq_self];intro x hx;rw[hq x hx,e];simp
 ·
  rename_i e;rw[List.filter_eq_nil_iff];intro x hx;rw[hq x hx];simp;omega
theorem row_bef {dss:List (List Dd)}{a:Ab}{τ:Nat→Nat}{T:Nat}{z:Int}{b:Bd}(hb:workB dss=true)(h:Fin dss a τ T z b)(W:Webs (eventsB dss) b.fr (rowsOf b)){x y:Nat}(hx:x<(eventsB dss).length)(hl:line (rwL (eventsB dss) (rowsOf b)) x y=true):
  Bef (a.R ((sysW dss).pl x)) x y:=by
 obtain⟨i,q,hi,hq,hp,e1,e2⟩:=(W.rwl x y hx).1 hl;unfold rwP at hp;simp only[Bool.and_eq_true,decide_eq_true_eq,beq_iff_eq] at hp;have hs:=sub_of_idx hp.1 hq
 have px:plE (eventsB dss) ((rowsOf b).getD i 0)=(((sysW dss).pl x:Nat):Int):=by
  rw[e1];have:=place_ev hb hx;show ((eventsB dss).getD ((x:Int)).toNat zE).2.2.2.1=((((eventsB dss).getD x zE).2.2.2.1.toNat:Nat):Int);rw[Int.toNat_natCast];omega
 have hf:=hs.filter (fun u=>plE (eventsB dss) u==(((sysW dss).pl x:Nat):Int));rw[List.filter_cons_of_pos (by rw[px];simp),List.filter_cons_of_pos (by rw[←hp.2,px];simp),List.filter_nil,e1,e2,h.rowsE,List.filter_append,List.filter_append,fil_own hb h,fil_own hb h,fil_own hb h] at hf
 have hp3:(sysW dss).pl x<3:=by
  have:=place_ev hb hx;show ((eventsB dss).getD x zE).2.2.2.1.toNat<3;omega
 have key:[(x:Int),(y:Int)].Sublist ((a.R ((sysW dss).pl x)).map Int.ofNat):=by
  rcases (by omega:(sysW dss).pl x=0∨(sysW dss).pl x=1∨(sysW dss).pl x=2) with e|e|e<;>(rw[e] at hf ⊢;simpa using hf)
 have h2:=key.map Int.toNat;simp only[List.map_cons,List.map_nil,Int.toNat_natCast,List.map_map] at h2
 have e3:(a.R ((sysW dss).pl x)).map (Int.toNat ∘ Int.ofNat)=a.R ((sysW dss).pl x):=by
  have:(Int.toNat ∘ Int.ofNat)=id:=by funext u;simp
  rw[this,List.map_id]
 rw[e3] at h2;exact h2
theorem Fin.tale {dss:List (List Dd)}{a:Ab}{τ:Nat→Nat}{T:Nat}{z:Int}{b:Bd}(hb:workB dss=true)(h:Fin dss a τ T z b):taleB dss b.fr (rowsOf b)=true:=by
 unfold taleB sourceB rowsB;rw[hb,h.src hb,h.rows hb];rfl
def posA (dss:List (List Dd))(a:Ab)(x:Nat):Nat:=(a.R ((sysW dss).pl x)).idxOf x
def keyA (dss:List (List Dd))(a:Ab)(i:Nat):Nat:=if (sysW dss).rd i=true then 2*posA dss a (a.F i)+1 else 2*posA dss a i
theorem key_lt {n k k' i j:Nat}(hi:i<n)(h:k<k'∨(k=k'∧i<j)):k*n+i<k'*n+j:=by
 rcases h with h|⟨rfl,h⟩
 ·
  have:=Nat.mul_le_mul_right n h;rw[Nat.succ_mul] at this;omega
 · omega
theorem Fin.each {dss:List (List Dd)}{a:Ab}{τ:Nat→Nat}{T:Nat}{z:Int}{b:Bd}(hb:workB dss=true)(h:Fin dss a τ T z b):roundB (pwL (eventsB dss) b.fr (rowsOf b))=false:=by
 have W:=told_of (h.tale hb);have hx:=W.twelve
 have hpos:∀ {p x y:Nat},(sysW dss).pl x=p→(sysW dss).pl y=p→Bef (a.R p) x y→posA dss a x<posA dss a y:=by
  intro p x y e1 e2 hB;unfold posA;rw[e1,e2];exact bef_idx (h.inv.rnod p) hB
 have hsrc:∀ {r:Nat},r<(eventsB dss).length→(sysW dss).rd r=true→a.F r<(eventsB dss).length∧(sysW dss).rd (a.F r)=false∧(sysW dss).pl (a.F r)=(sysW dss).pl r:=by
  intro r hr hrd;obtain⟨q1,q2,q3,_⟩:=h.inv.src r (h.all r hr).1 hrd;exact⟨h.inv.lt _ q1,q2,q3⟩
 have hrow:∀ {x y:Nat},x<(eventsB dss).length→line (rwL (eventsB dss) (rowsOf b)) x y=true→posA dss a x<posA dss a y∧(sysW dss).rd x=false∧(sysW dss).rd y=false:=by
  intro x y hx' hl;have hB:=row_bef hb h W.webs hx' hl;have m1:=(h.inv.rows _ _).1 (bef_mem hB).1;have m2:=(h.inv.rows _ _).1 (bef_mem hB).2;exact⟨hpos rfl m2.2.2 hB,m1.2.1,m2.2.1⟩
 refine up_round W.pw (fun i=>keyA dss a i*(eventsB dss).length+i) (fun i j hi hj hl=>?_);refine key_lt hi ?_;rw[W.pwl i j hi] at hl;simp only[Bool.or_eq_true] at hl;rcases hl with (g|g)|(g|g)
 ·
  rw[(plc_line hx).2 i j hi] at g;simp only[Bool.and_eq_true,Bool.not_eq_true'] at g;obtain⟨⟨_,g2⟩,g3⟩:=g;have hlt:=behP_lt g2
  have hpl:(sysW dss).pl i=(sysW dss).pl j:=by
   unfold plcP at g3;rw[bne_eq_false_iff_eq] at g3;show ((eventsB dss).getD i zE).2.2.2.1.toNat=((eventsB dss).getD j zE).2.2.2.1.toNat;rw[g3]
  unfold behP at g2;simp only[Bool.and_eq_true,Bool.or_eq_true,decide_eq_true_eq,beq_iff_eq] at g2;rcases g2.2 with ⟨g4,g5⟩|⟨g4,g5⟩
  ·
   left;obtain⟨_,b2,b3,_⟩:=h.inv.beg i g4
   have k0:keyA dss a i=0:=by
    unfold keyA posA;rw[b2,b3];have hh:=h.head g4
    cases hl:a.R i with
    |nil=>rw[hl] at hh;cases hh
    |cons y r=>
     rw[hl] at hh;simp only[List.head?_cons,Option.some.injEq] at hh;rw[hh,List.idxOf_cons_self];rfl
   rw[k0];unfold keyA;split
   · omega
   ·
    rename_i hr
    have hr':(sysW dss).rd j=false:=by cases hq:(sysW dss).rd j with
     |false=>rfl
     |true=>exact absurd hq hr
    have hm:j∈a.R i:=(h.inv.rows i j).2 ⟨h.all j hj,hr',by rw[←hpl,b3]⟩;unfold posA;rw[←hpl,b3];have hh:=h.head g4
    cases hl:a.R i with
    |nil=>rw[hl] at hh;cases hh
    |cons y r=>
     rw[hl] at hh;simp only[List.head?_cons,Option.some.injEq] at hh;rw[List.idxOf_cons,hh,beq_eq_false_iff_ne.2 (show i≠j by omega)];exact Nat.mul_pos (by omega) (Nat.succ_pos _)
  ·
   have hcoh:=h.inv.coh i j (h.all i hi).1 (h.all j hj).1 g4 hlt g5 hpl
   have hL:(stA dss a τ).L (sysW dss) ((sysW dss).ck i) ((sysW dss).pl i)=a.R ((sysW dss).pl i):=by
    unfold AbsSt.L;rw[h.none,List.filter_nil,List.append_nil];rfl
   rw[hL] at hcoh
   have vplace:∀x,x<(eventsB dss).length→(sysW dss).pl ((stA dss a τ).v (sysW dss) x)=(sysW dss).pl x:=by
    intro x hx';unfold AbsSt.v;split
    · rename_i hr;exact (hsrc hx' hr).2.2
    · rfl
   have hle:(stA dss a τ).v (sysW dss) i=(stA dss a τ).v (sysW dss) j∨posA dss a ((stA dss a τ).v (sysW dss) i)<posA dss a ((stA dss a τ).v (sysW dss) j):=
    hcoh.imp id (fun hB=>hpos (vplace i hi) ((vplace j hj).trans hpl.symm) hB)
   have hw:=h.inv.cohw i j (h.all i hi).1 (h.all j hj).1 g4 hlt g5 hpl;unfold AbsSt.v at hle;unfold keyA
   cases ri:(sysW dss).rd i with
   |true=>
    rw[ri,if_pos rfl] at hle;rw[if_pos rfl]
    cases rj:(sysW dss).rd j with
    |true=>
     rw[rj,if_pos rfl] at hle;rw[if_pos rfl];rcases hle with e|e
     ·
      right;change a.F i=a.F j at e;rw[e];exact⟨rfl,hlt⟩
     ·
      left;change posA dss a (a.F i)<posA dss a (a.F j) at e;omega
    |false=>
     rw[rj,if_neg (by simp)] at hle;rw[if_neg (by simp)];rcases hle with e|e
     · exact absurd e (hw ri rj)
     ·
      left;change posA dss a (a.F i)<posA dss a j at e;omega
   |false=>
    rw[ri,if_neg (by simp)] at hle;rw[if_neg (by simp)]
    cases rj:(sysW dss).rd j with
    |true=>
     rw[rj,if_pos rfl] at hle;rw[if_pos rfl];rcases hle with e|e
     ·
      left;change i=a.F j at e;rw[←e];omega
     ·
      left;change posA dss a i<posA dss a (a.F j) at e;omega
    |false=>
     rw[rj,if_neg (by simp)] at hle;rw[if_neg (by simp)];rcases hle with e|e
     · omega
     · left;omega
 ·
  obtain⟨q,hq1,hq2,hq3⟩:=(W.webs.fwl i j hi).1 g;obtain⟨r,hr,e1,e2,e3⟩:=h.rd hq1;have er:r=j:=by omega
  subst er;have ei:a.F r=i:=by omega
  have hs:=hsrc hr e3;rw[ei] at hs;left;unfold keyA;rw[e3,hs.2.1,if_pos rfl,if_neg (by simp),ei];omega
 ·
  obtain⟨p1,p2,p3⟩:=hrow hi g;left;unfold keyA;rw[p2,p3,if_neg (by simp),if_neg (by simp)];omega
 ·
  obtain⟨q,hq1,hq2,hq3⟩:=(W.webs.agl i j hi).1 g;obtain⟨r,hr,e1,e2,e3⟩:=h.rd hq1;have er:r=i:=by omega
  subst er;rw[e2,Int.toNat_natCast] at hq3;obtain⟨p1,p2,p3⟩:=hrow (hsrc hr e3).1 hq3;left;unfold keyA;rw[e3,p3,if_pos rfl,if_neg (by simp)];omega
def fromN (dss:List (List Dd))(f:List Int)(r:Nat):Nat:=(f.getD ((idxB rdE (eventsB dss)).idxOf (r:Int)) 0).toNat
abbrev rowlt (dss:List (List Dd))(rows:List Int)(x y:Nat):Prop:=line (rwL (eventsB dss) rows) x y=true
structure CI (dss:List (List Dd))(f rows:List Int)(Q:Int→Prop)(κ:Int)(b:Bd)(a:Ab)(τ:Nat→Nat)(T:Nat)(z:Int):Prop where
 mi:MI dss b a τ T z
 dq:∀j,j<(eventsB dss).length→((stA dss a τ).D (sysW dss) j↔Q ((sysW dss).cs j)∨((sysW dss).cs j=κ∧(stA dss a τ).X j))
 ro:∀p,(a.R p).Pairwise (rowlt dss rows)
 fo:∀r,(stA dss a τ).X r→(sysW dss).rd r=true→a.F r=fromN dss f r
def goesM (dss:List (List Dd))(es:List Ev):List Int→Bd→Bool
 | [],_=>true
 |s::r,b=>isB (possM dss b) s&&goesM dss es r (stepM dss es b s)
theorem goes_snoc {dss:List (List Dd)}{es:List Ev}:∀(l:List Int) (b:Bd) (s:Int),goesM dss es l b=true→isB (possM dss (runM dss es b l)) s=true→goesM dss es (l++[s]) b=true∧runM dss es b (l++[s])=stepM dss es (runM dss es b l) s
 | [],b,s,_,h2=>by
  have h2':isB (possM dss b) s=true:=h2;refine⟨by show (isB (possM dss b) s&&true)=true;rw[h2'];rfl,?_⟩;show (if isB (possM dss b) s=true then stepM dss es b s else b)=stepM dss es b s;rw[if_pos h2']
 |x::l,b,s,h1,h2=>by
  rw[goesM,Bool.and_eq_true] at h1;rw[runM,if_pos h1.1] at h2;obtain⟨e1,e2⟩:=goes_snoc l (stepM dss es b x) s h1.2 h2;rw[List.cons_append,goesM,runM,h1.1,e1,if_pos rfl,e2,runM,if_pos h1.1];exact⟨rfl,rfl⟩
structure Way0 (dss:List (List Dd))(p:Bd×List Int):Prop where
 goes:goesM dss (eventsB dss) p.2 (newM dss)=true
 run:runM dss (eventsB dss) (newM dss) p.2=p.1
theorem Way0.step {dss:List (List Dd)}{p:Bd×List Int}(h:Way0 dss p){s:Int}(hs:isB (possM dss p.1) s=true):Way0 dss (stepM dss (eventsB dss) p.1 s,p.2++[s]):=by
 obtain⟨e1,e2⟩:=goes_snoc p.2 (newM dss) s h.goes (by rw[h.run];exact hs);exact⟨e1,by rw[e2,h.run]⟩
theorem run_app (dss:List (List Dd))(es:List Ev):∀(l r:List Int) (b:Bd),runM dss es b (l++r)=runM dss es (runM dss es b l) r
 | [],r,b=>rfl
 |s::l,r,b=>by rw[List.cons_append,runM,runM];exact run_app dss es l r _
def Run (dss:List (List Dd))(b:Bd):Prop:=∃a τ T z,MI dss b a τ T z∧BD dss a
theorem Run.new {dss:List (List Dd)}(hb:workB dss=true):Run dss (newM dss):=⟨_,_,_,_,new_sim hb⟩
theorem Run.step {dss:List (List Dd)}(hb:workB dss=true){b:Bd}(h:Run dss b){s:Int}(hs:isB (possM dss b) s=true):Run dss (stepM dss (eventsB dss) b s):=by
 obtain⟨a,τ,T,z,M,B⟩:=h;obtain⟨a',τ',z',M',B'⟩:=step_sim hb M B hs;exact⟨a',τ',_,z',M',B'⟩
theorem Run.board {dss:List (List Dd)}(hb:workB dss=true){b:Bd}(h:Run dss b):boardB dss b=true:=by
 obtain⟨a,τ,T,z,M,_⟩:=h;exact mi_board hb M
theorem run_hit {dss:List (List Dd)}{es:List Ev}{b:Bd}{steps:List Int}{k:Nat}(hk:k<steps.length)(h:isB (possM dss (runM dss es b (steps.take k))) (steps.getD k 0)=true):runM dss es b (steps.take (k+1))=stepM dss es (runM dss es b (steps.take k)) (steps.getD k 0):=by
 rw[List.take_add_one,List.getElem?_eq_getElem hk,run_app];have e:steps.getD k 0=steps[k]:=by rw[List.getD_eq_getElem?_getD,List.getElem?_eq_getElem hk];rfl
 rw[e] at h ⊢;show runM dss es _ [steps[k]]=_;rw[runM,if_pos h];rfl
theorem run_miss {dss:List (List Dd)}{es:List Ev}{b:Bd}{steps:List Int}{k:Nat}(hk:k<steps.length)(h:isB (possM dss (runM dss es b (steps.take k))) (steps.getD k 0)=false):runM dss es b (steps.take (k+1))=runM dss es b (steps.take k):=by
 rw[List.take_add_one,List.getElem?_eq_getElem hk,run_app];have e:steps.getD k 0=steps[k]:=by rw[List.getD_eq_getElem?_getD,List.getElem?_eq_getElem hk];rfl
 rw[e] at h;show runM dss es _ [steps[k]]=_;rw[runM,if_neg (by rw[h];simp)];rfl
theorem rd_cells {w:World}{b off:Nat}{zs:List Int}(hc:∀i,i<zs.length→w.cell? ⟨b,off+i,none⟩=some (.int .i64 (zs.getD i 0))):
  ∀j u,(zs.map (Value.int .i64))[j]? = some u→w.cell? ((⟨b,off,none⟩:Addr).add j)=some u:=by
 intro j u hj;rw[List.getElem?_map] at hj
 have hjl:j<zs.length:=by
  apply Classical.byContradiction;intro hno;rw[List.getElem?_eq_none (by omega)] at hj;cases hj
 have e1:(⟨b,off,none⟩:Addr).add j=⟨b,off+j,none⟩:=by unfold Addr.add;split<;>simp_all
 rw[e1,hc j hjl,List.getD_eq_getElem?_getD];rw[List.getElem?_eq_getElem hjl] at hj ⊢
 simpa using hj
theorem ints_one (zs:List Int):∀u∈zs.map (Value.int .i64),u.oneCell'=true:=by
 intro u hu;obtain⟨y,_,rfl⟩:=List.mem_map.1 hu;rfl
end Go.Proofs.YtgakfkjjkobpiabGreat
