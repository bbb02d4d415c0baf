/- Gathered texts. -/
import Derived.Test.YtnmelakgmgenjaaGreatMV
import Derived.Defers
import Derived.Recover
import Derived.Lib.Hide
import Derived.Laws.Rows
import Derived.Deep.Cut
import Derived.Deep.RegionHeld3
import Derived.Deep.QuietTactic
import Derived.BigQuiet
set_option maxRecDepth 100000
set_option maxHeartbeats 8000000
namespace Go.Proofs.YtnmelakgmgenjaaGreat
open Go.ChangeMaps (setBlock heap_setBlock_same heap_setBlock_other)
open Go.ChangeShapes Go.WideShapes Go.ChangeAt Go.RowKit
open Go.ChangeShapes Go.WideShapes Go.ChangeAt Go.RowKit Go.Shelf Go.Sort
open Go.MapKept (stamped_iff stamped_empty)
open Go.WideElems (Fit)
section
theorem C4.other {w w':World}{m x:Nat}{v:Value}{hs:List Value}{E:List (List Int)}(h:C4 28 Bk w m v hs E)(hg:w.grownBy w' (some x))(hx:∀c t f,w.heap[x]?≠some (.cells c t f)):C4 28 Bk w' m v hs E:=by
 refine⟨h.Ag.far hg (fun i hi=>?_),h.len⟩;by_cases e:(LI 28 Bk v hs E i).v.ownBlock=some x
 ·
  exfalso;rcases (h.Ag.own i hi).2 with ⟨q,_⟩|⟨g,cap,cur,q,_,hc,_⟩
  . rw[q] at e;cases e
  ·
   rw[q] at e;have:=Option.some.inj e;simp only at this;subst this;exact hx _ _ _ hc
 . exact .inr e
structure L9 (w0 w:World)(ds:List (List Dd))(P:Nat->Prop)(ve:Value)(hs:List Value)(E:List (List Int))(bn bx r:Nat)(es:Array MapEntry)(l:List (BV×Bd))(On:Array MapEntry)(lx:List (BV×Bd))(seen:Array Nat):Prop where
 low:∀g,P g->w0.heap.size<=g/\g<w.heap.size
 en:C4 28 Bk w w0.heap.size ve hs E
 nE:∀g,ve.ownBlock=some g->¬P g
 nz:ve≠.slice none 0 0
 K:AC w0 w
 wn:Wv w bn es l
 wx:Wv w bx On lx
 ne:bn≠bx
 gn:w0.heap.size<=bn/\¬P bn
 gx:w0.heap.size<=bx/\¬P bx
 gr:w0.heap.size<=r/\¬P r
 held:∀p∈l,C7 w P p.1 ds p.2
 Sc:∀p∈lx,C7 w P p.1 ds p.2
 it:∃since c0 ck,w.heap[r]? = some (.mapIter (some bn) since seen c0)/\(∀x∈es.toList,x.born<since)/\since<=c0/\w.heap[bn]? = some (.map es ck)/\since<=ck
structure Mv (w0 w:World)(ds:List (List Dd))(P:Nat->Prop)(ve:Value)(hs:List Value)(E:List (List Int))(bn bx:Nat)(es:Array MapEntry)(l:List (BV×Bd)):Prop where
 low:∀g,P g->w0.heap.size<=g/\g<w.heap.size
 en:C4 28 Bk w w0.heap.size ve hs E
 nE:∀g,ve.ownBlock=some g->¬P g
 nz:ve≠.slice none 0 0
 K:AC w0 w
 wn:Wv w bn es l
 wx:Wv w bx #[] []
 ne:bn≠bx
 gn:w0.heap.size<=bn/\¬P bn
 gx:w0.heap.size<=bx/\¬P bx
 held:∀p∈l,C7 w P p.1 ds p.2
section
variable {w0 w w':World} {ds:List (List Dd)} {P:Nat->Prop} {ve:Value} {hs:List Value} {E:List (List Int)} {bn bx r:Nat} {es:Array MapEntry} {l:List (BV×Bd)} {On:Array MapEntry} {lx:List (BV×Bd)} {seen:Array Nat}
theorem Wv.Kl {g:Nat}(h:Wv w g es l):∀c t f,w.heap[g]?≠some (.cells c t f):=fun c t f e=>by
 obtain⟨k,h1,_⟩:=h.ex;rw[h1] at e;cases e
theorem L9.zA (h:L9 w0 w ds P ve hs E bn bx r es l On lx seen):r<w.heap.size:=by
 obtain⟨_,_,_,h1,_⟩:=h.it;exact (Array.getElem?_eq_some_iff.1 h1).1
theorem L9.rn (h:L9 w0 w ds P ve hs E bn bx r es l On lx seen):r≠bn/\r≠bx:=by
 obtain⟨_,_,_,h1,_⟩:=h.it;obtain⟨_,h2,_⟩:=h.wn.ex;obtain⟨_,h3,_⟩:=h.wx.ex;exact⟨fun e=>by rw[e,h2] at h1;(cases h1),fun e=>by rw[e,h3] at h1;(cases h1)⟩
theorem L9.TP (h:L9 w0 w ds P ve hs E bn bx r es l On lx seen):∀c t f,w.heap[r]?≠some (.cells c t f):=fun c t f e=>by
 obtain⟨_,_,_,h1,_⟩:=h.it;rw[h1] at e;cases e
theorem L9.wide {P':Nat->Prop}(h:L9 w0 w ds P ve hs E bn bx r es l On lx seen)(k:AC w w')(hP:∀g,P' g->w.heap.size<=g/\g<w'.heap.size):L9 w0 w' ds (fun g=>P g\/P' g) ve hs E bn bx r es l On lx seen:=by
 have z:=k.size
 have no:∀ {g},g<w.heap.size->¬P g->¬(P g\/P' g):=fun hg hn hp=>by
  rcases hp with hp|hp
  . exact hn hp
  . have:=(hP _ hp).1;omega
 obtain⟨s,c0,ck,i1,i2,i3,i4,i5⟩:=h.it;refine⟨fun g hg=>?_,⟨h.en.Ag.keep k,h.en.len⟩,fun g hg=>no (h.en.Ag.lt (i:=none) trivial g hg).2 (h.nE g hg),h.nz,h.K.trans k,h.wn.keep k,h.wx.keep k,h.ne,⟨h.gn.1,no h.wn.lt h.gn.2⟩,⟨h.gx.1,no h.wx.lt h.gx.2⟩,⟨h.gr.1,no h.zA h.gr.2⟩,fun p hp=>((h.held p hp).on (Aw.B0 k)).mono (fun _ => .inl),fun p hp=>((h.Sc p hp).on (Aw.B0 k)).mono (fun _ => .inl),⟨s,c0,ck,(Below.block k r h.zA).trans i1,i2,i3,(Below.block k bn h.wn.lt).trans i4,i5⟩⟩;rcases hg with hg|hg
 . have:=h.low g hg;omega
 ·
  have:=hP g hg;have:=h.K.size;omega
theorem L9.keep (h:L9 w0 w ds P ve hs E bn bx r es l On lx seen)(k:AC w w'):L9 w0 w' ds P ve hs E bn bx r es l On lx seen:=by
 have q:=h.wide (P':=fun _=>False) k (fun _ hg=>hg.elim);have e:(fun g=>P g\/False)=P:=by funext g;simp
 rwa [e] at q
theorem L9.push {w1 w2:World}{v' u:Value}{xs:List Int}(h:L9 w0 w ds P ve hs E bn bx r es l On lx seen)(k:AC w w1)(ou:BO w1 w.heap.size u xs)(hg:w1.grownBy w2 ve.ownBlock)(hb:v'.ownBlock=ve.ownBlock\/v'.ownBlock=some w1.heap.size)(ho:w2.ownsRow w0.heap.size 28 1 v' (hs.length+1) (hs++[u]))(hz:v'≠.slice none 0 0):
  L9 w0 w2 ds P v' (hs++[u]) (E++[xs]) bn bx r es l On lx seen:=by
 have h1:=h.keep k
 have hne:∀ {g},(∀c t f,w1.heap[g]?≠some (.cells c t f))->ve.ownBlock≠some g:=fun hc e=>by
  rcases (h1.en.Ag.own none trivial).2 with ⟨q,_⟩|⟨g',cap,cur,q,_,hh,_⟩
  ·
   rw[show (LI 28 Bk ve hs E none).v=ve from rfl] at q;rw[q] at e;cases e
  ·
   rw[show (LI 28 Bk ve hs E none).v=ve from rfl] at q;rw[q] at e;have:=Option.some.inj e;simp only at this;subst this;exact hc _ _ _ hh
 have st:Aw P w1 w2:=Aw.DQ hg (fun g hv=>h1.nE g hv);obtain⟨s,c0,ck,i1,i2,i3,i4,i5⟩:=h1.it;have z:=hg.size;refine⟨fun g hp=>⟨(h1.low g hp).1,Nat.lt_of_lt_of_le (h1.low g hp).2 z⟩,h.en.push (fun _ _=>rfl) k (BO.BM ou h.K.size) (fun b hb=>ou.ge b hb) hg hb (by show w2.ownsRow _ _ _ _ (hs++[u]).length _;rw[List.length_append];exact ho),fun g hv=>?_,hz,h1.K.grown hg (fun g hv=>(h1.en.Ag.lt (i:=none) trivial g hv).1),h1.wn.kept hg (hne h1.wn.Kl),h1.wx.kept hg (hne h1.wx.Kl),h1.ne,h1.gn,h1.gx,h1.gr,fun p hp=>(h1.held p hp).on st,fun p hp=>(h1.Sc p hp).on st,⟨s,c0,ck,(hg.block r h1.zA (fun e=>hne h1.TP e.symm)).trans i1,i2,i3,(hg.block bn h1.wn.lt (fun e=>hne h1.wn.Kl e.symm)).trans i4,i5⟩⟩;rcases hb with e|e
 . rw[e] at hv;exact h1.nE g hv
 ·
  rw[e] at hv;have:=Option.some.inj hv;intro hp;have:=(h1.low g hp).2;omega
theorem L9.put {vJ:Array MapEntry}{lx':List (BV×Bd)}(h:L9 w0 w ds P ve hs E bn bx r es l On lx seen)(hg:w.grownBy w' (some bx))(hW:Wv w' bx vJ lx')(hl:∀p∈lx',C7 w P p.1 ds p.2):L9 w0 w' ds P ve hs E bn bx r es l vJ lx' seen:=by
 have st:Aw P w w':=Aw.DQ hg (fun g e hp=>by have:=Option.some.inj e;subst this;exact h.gx.2 hp);obtain⟨s,c0,ck,i1,i2,i3,i4,i5⟩:=h.it;exact⟨fun g hp=>⟨(h.low g hp).1,Nat.lt_of_lt_of_le (h.low g hp).2 hg.size⟩,h.en.other hg h.wx.Kl,h.nE,h.nz,h.K.grown hg (fun g e=>by have:=Option.some.inj e;subst this;exact h.gx.1),h.wn.kept hg (fun e=>h.ne (Option.some.inj e).symm),hW,h.ne,h.gn,h.gx,h.gr,fun p hp=>(h.held p hp).on st,fun p hp=>(hl p hp).on st,⟨s,c0,ck,(hg.block r h.zA (fun e=>h.rn.2 (Option.some.inj e))).trans i1,i2,i3,(hg.block bn h.wn.lt (fun e=>h.ne (Option.some.inj e))).trans i4,i5⟩⟩
theorem Mv.range (h:Mv w0 w ds P ve hs E bn bx es l):∃c,w.heap[bn]? = some (.map es c)/\L9 w0 (w.alloc (.mapIter (some bn) c #[] c)) ds P ve hs E bn bx w.heap.size es l #[] [] #[]:=by
 obtain⟨c,hb,F⟩:=h.wn.ex;have k:AC w (w.alloc (.mapIter (some bn) c #[] c)):=(AC.refl w).alloc _;exact⟨c,hb,fun g hg=>⟨(h.low g hg).1,Nat.lt_of_lt_of_le (h.low g hg).2 k.size⟩,⟨h.en.Ag.keep k,h.en.len⟩,h.nE,h.nz,h.K.trans k,h.wn.keep k,h.wx.keep k,h.ne,h.gn,h.gx,⟨h.K.size,fun hp=>by have:=(h.low _ hp).2;omega⟩,fun p hp=>(h.held p hp).on (Aw.B0 k),fun p hp=>(by cases hp),⟨c,c,c,heap_alloc_new w _,((stamped_iff es c).1 F.stamped).1,Nat.le_refl _,(Below.block k bn h.wn.lt).trans hb,Nat.le_refl _⟩⟩
theorem L9.next (h:L9 w0 w ds P ve hs E bn bx r es l On lx seen):
  ((leftOf es seen).size=0/\∀ty,(Instr.next (.pointer (some ⟨r,0,none⟩)) false ty).run Tryz.prog w = .ok (.tuple #[.bool false]) w) \/
  ∃(x:MapEntry) (p:BV×Bd) (w1:World),x∈es.toList/\seen.contains x.born=false/\p∈l/\x.key=Hb p.2/\(leftOf es (seen.push x.born)).size<(leftOf es seen).size/\(∀ty,(Instr.next (.pointer (some ⟨r,0,none⟩)) false ty).run Tryz.prog w = .ok (.tuple #[.bool true,Hb p.2,p.1.agg]) w1) /\
   (Instr.entry (.pointer (some ⟨r,0,none⟩))).run Tryz.prog w1 = .ok (.tuple #[Hb p.2,p.1.agg]) w1/\L9 w0 w1 ds P ve hs E bn bx r es l On lx (seen.push x.born):=by
 obtain⟨s,c0,ck,i1,i2,i3,i4,i5⟩:=h.it;obtain⟨c,hb,F⟩:=h.wn.ex;rcases run_next_at (P:=Tryz.prog) w 0 r bn s c0 seen es c i1 hb i2 i3 with ⟨h0,hrun⟩|⟨x,hx,w1,hal,hrun⟩
 . exact .inl ⟨h0,fun ty=>hrun⟩
 ·
  obtain⟨hxe,hxs⟩:=mem_left hx;obtain⟨p,hp,e1,e2⟩:=h.wn.qB x hxe;have hr1:w1.heap[r]? = some (.mapIter (some bn) s seen c0):=by rcases hal with rfl|rfl<;>exact i1
  have hz:w1.heap=w.heap:=by rcases hal with rfl|rfl<;>rfl
  have hg:w.grownBy (setBlock w1 r (.mapIter (some bn) s (seen.push x.born) c)) (some r):=by
   rcases hal with rfl|rfl
   . exact⟨rfl,rfl,rfl,by simp[setBlock],fun i _ hi=>(MapKept.heap_set i1).2 i (fun e=>hi (by rw[e]))⟩
   . exact⟨rfl,rfl,rfl,by simp[setBlock],fun i _ hi=>(MapKept.heap_set (w:=w.drew) i1).2 i (fun e=>hi (by rw[e]))⟩
  have hself:(setBlock w1 r (.mapIter (some bn) s (seen.push x.born) c)).heap[r]? = some (.mapIter (some bn) s (seen.push x.born) c):=(MapKept.heap_set hr1).1;have st:Aw P w (setBlock w1 r (.mapIter (some bn) s (seen.push x.born) c)):=Aw.DQ hg (fun g e hp=>by have:=Option.some.inj e;subst this;exact h.gr.2 hp);have hwn:=h.wn.kept hg (fun e=>h.rn.1 (Option.some.inj e));obtain⟨c',hb',_⟩:=hwn.ex
  have hcc:c'=c:=by
   have q:=(hg.block bn h.wn.lt (fun e=>h.rn.1 (Option.some.inj e).symm)).trans hb;rw[hb'] at q
   simpa using q
  subst hcc;refine .inr ⟨x,p,_,hxe,hxs,hp,e1,left_shrinks es seen x hx,fun ty=>?_,?_,⟨fun g hp=>⟨(h.low g hp).1,Nat.lt_of_lt_of_le (h.low g hp).2 hg.size⟩,h.en.other hg h.TP,h.nE,h.nz,h.K.grown hg (fun g e=>by have:=Option.some.inj e;subst this;exact h.gr.1),hwn,h.wx.kept hg (fun e=>h.rn.2 (Option.some.inj e)),h.ne,h.gn,h.gx,h.gr,fun p hp=>(h.held p hp).on st,fun p hp=>(h.Sc p hp).on st,?_⟩⟩
  . rw[<-e1,<-e2];exact hrun
  ·
   rw[<-e1,<-e2];exact run_entry_at _ r bn s seen es c' x hself hb' hxe ((stamped_iff es c').1 F.stamped).2.1
  ·
   have e4:ck=c':=by rw[hb] at i4;simpa using i4.symm
   exact⟨s,c',c',hself,i2,by omega,hb',by omega⟩
theorem L9.clear (h:L9 w0 w ds P ve hs E bn bx r es l On lx seen):∃w',(∀ty,(Builtin.clear_ #[85] ty #[.map (some bn)]).run Tryz.prog w = .ok (.tuple #[]) w')/\Mv w0 w' ds P ve hs E bx bn On lx:=by
 obtain⟨c,hb,F⟩:=h.wn.ex;have hg:w.grownBy (setBlock w bn (.map #[] c)) (some bn):=⟨rfl,rfl,rfl,by simp[setBlock],fun i _ hi=>heap_setBlock_other hb _ (fun e=>hi (by rw[e]))⟩;have st:Aw P w (setBlock w bn (.map #[] c)):=Aw.DQ hg (fun g e hp=>by have:=Option.some.inj e;subst this;exact h.gn.2 hp);refine⟨_,fun ty=>?_,⟨fun g hp=>⟨(h.low g hp).1,Nat.lt_of_lt_of_le (h.low g hp).2 hg.size⟩,h.en.other hg h.wn.Kl,h.nE,h.nz,h.K.grown hg (fun g e=>by have:=Option.some.inj e;subst this;exact h.gn.1),h.wx.kept hg (fun e=>h.ne (Option.some.inj e)),⟨⟨c,heap_setBlock_same hb _,⟨by simp,⟨by simp,by simp,by simp⟩,by simp⟩⟩,fun x hx=>by simp at hx,fun p hp=>by cases hp⟩,fun e=>h.ne e.symm,h.gx,h.gn,fun p hp=>(h.Sc p hp).on st⟩⟩;simp[Builtin.clear_,run_underlying Tryz.underlying85,MapKept.run_getObj_map hb,MapKept.run_setObj_map _ hb,Result.andThen,setBlock]
theorem Wv.len {g:Nat}(h:Wv w g es l):∀ty,(Builtin.len_ #[85] ty #[.map (some g)]).run Tryz.prog w = .ok (.int .i64 es.size) w:=by
 obtain⟨c,hb,F⟩:=h.ex;intro ty;simp[Builtin.len_,run_underlying Tryz.underlying85,MapKept.run_getObj_map hb,goInt,Result.andThen]
theorem Wv.pw {g:Nat}(h:Wv w g es l):es.toList.Pairwise (fun x y=>x.key≠y.key):=by
 obtain⟨c,hb,F⟩:=h.ex;exact ((stamped_iff es c).1 F.stamped).2.2
theorem Wv.nd {g:Nat}(h:Wv w g es l):(es.toList.map (·.born)).Nodup:=by
 obtain⟨c,hb,F⟩:=h.ex;exact ((stamped_iff es c).1 F.stamped).2.1
end
structure Tu (S:Sy)(n:Int)(es:Array MapEntry)(l:List (BV×Bd))(seen:Array Nat)(dn:List Bd)(lx:List (BV×Bd))(E:List (List Int)):Prop where
 nn:0<=n
 full:Fx S n (l.map (·.2))
 done:E4 S n dn (lx.map (·.2)) E
 sd:∀x∈es.toList,seen.contains x.born=true->∃b∈dn,x.key=Hb b
 ds:∀b∈dn,∃x∈es.toList,seen.contains x.born=true/\x.key=Hb b
theorem qo {b b':Bd}(h:Bl b b'):Hb b=Hb b':=by unfold Hb U7;rw[eu h]
theorem Tu.new {S:Sy}{n:Int}{es:Array MapEntry}{l:List (BV×Bd)}{E:List (List Int)}(hn:0<=n)(F:Fx S n (l.map (·.2)))(D:E4 S n [] [] E):Tu S n es l #[] [] [] E:=
 ⟨hn,F,D,fun x hx h=>by simp at h,fun b hb=>by cases hb⟩
theorem Tu.one {S:Sy}{n:Int}{es:Array MapEntry}{l lx:List (BV×Bd)}{seen:Array Nat}{dn:List Bd}{E:List (List Int)}(h:Tu S n es l seen dn lx E){p:BV×Bd}(hp:p∈l):S.R p.2/\S.tm p.2=n:=h.full.of _ (List.mem_map.2 ⟨p,hp,rfl⟩)
theorem Tu.AK {S:Sy}(ok:LM S){n:Int}{es:Array MapEntry}{l lx:List (BV×Bd)}{seen:Array Nat}{dn:List Bd}{E:List (List Int)}(h:Tu S n es l seen dn lx E){p:BV×Bd}(hp:p∈lx):S.R p.2:=by
 obtain⟨b,hb,hx⟩:=h.done.of _ (List.mem_map.2 ⟨p,hp,rfl⟩);exact (ok.step (h.done.dns b hb).1 hx).1
theorem Tu.step {S:Sy}(ok:LM S){n:Int}{es:Array MapEntry}{l lx lq:List (BV×Bd)}{seen:Array Nat}{dn:List Bd}{E:List (List Int)}(h:Tu S n es l seen dn lx E)(pw:es.toList.Pairwise (fun x y=>x.key≠y.key))(nd:(es.toList.map (·.born)).Nodup){x:MapEntry}{p:BV×Bd}(hx:x∈es.toList)(hs:seen.contains x.born=false)(hp:p∈l)(hk:x.key=Hb p.2)(hq:lq.map (·.2)=S.nx p.2):
  Tu S n es l (seen.push x.born) (dn++[p.2]) (lx++lq) (if S.en p.2=true then E++[As p.2] else E):=by
 obtain⟨hR,ht⟩:=h.one hp
 have hno:∀b'∈dn,¬Bl b' p.2:=fun b' hb' he=>by
  obtain⟨y,hy,hys,hyk⟩:=h.ds b' hb';have e:y=x:=entry_eq_of_key pw hy hx (by rw[hyk,hk,qo he]);rw[e,hs] at hys;cases hys
 have cp:∀y:Nat,(seen.push x.born).contains y=true↔seen.contains y=true\/y=x.born:=fun y=>by
  rw[contains_push,Bool.or_eq_true,beq_iff_eq]
 refine⟨h.nn,h.full,?_,fun y hy hys=>?_,fun b hb=>?_⟩
 ·
  rw[List.map_append,hq];exact h.done.one ok hR ht hno
 ·
  rcases (cp _).1 hys with q|q
  ·
   obtain⟨b,hb,e⟩:=h.sd y hy q;exact⟨b,List.mem_append_left _ hb,e⟩
  ·
   have:y=x:=born_inj nd hy hx q;exact⟨p.2,by simp,by rw[this,hk]⟩
 ·
  rcases List.mem_append.1 hb with q|q
  ·
   obtain⟨y,hy,hys,hyk⟩:=h.ds b q;exact⟨y,hy,(cp _).2 (.inl hys),hyk⟩
  ·
   rw[List.mem_singleton] at q;subst q;exact⟨x,hx,(cp _).2 (.inr rfl),hk⟩
theorem Tu.end {ds:List (List Dd)}{S:Sy}(ok:LM S)(Z:Rp ds S){w:World}{g:Nat}{n:Int}{es:Array MapEntry}{l lx:List (BV×Bd)}{seen:Array Nat}{dn:List Bd}{E:List (List Int)}(h:Tu S n es l seen dn lx E)(hW:Wv w g es l)(h0:(leftOf es seen).size=0):Fx S (n+1) (lx.map (·.2))/\E4 S (n+1) [] [] E:=by
 refine h.done.next ok h.nn h.full (fun b hb=>?_);obtain⟨p,hp,rfl⟩:=List.mem_map.1 hb;obtain⟨x,hx,hk⟩:=hW.yZ p hp;obtain⟨b',hb',e⟩:=h.sd x hx (all_seen es seen h0 x hx);refine⟨b',hb',Z.stand (h.one hp).1 (h.done.dns b' hb').1 (lH (by rw[<-hk,e]))⟩
def Yl (w:World):Nat:=w.heap.size
def bE (w:World):World:=w.alloc (.map #[] 0)
theorem qV (t:TypeId)(w:World):(Instr.makeMap t none).run Tryz.prog w = .ok (.map (some (Yl w))) (bE w):=rfl
theorem AW (w:World):AC w (bE w):=(AC.refl w).alloc _
theorem DC (w:World):(bE w).heap.size=w.heap.size+1:=by unfold bE;rw[AD]
theorem Wv.mk' (w:World):Wv (bE w) (Yl w) #[] []:=Wv.new w
structure yM (ds:List (List Dd))(S:Sy):Prop where
 sz:∀ {b},S.R b->JQ ds b
 en:∀ {b},S.R b->JX ds b=S.en b
 sh:∀ {b},S.R b->S.en b=true->Lq ds b=As b
 sl:∀ {b},S.R b->S.en b=true->(As b).length<=15
 nl:∀ {b},S.R b->(S.nx b).length<=1000
 fe:∀L:List (List Int),L.Nodup->(∀z∈L,∃b,S.R b/\S.en b=true/\z=As b)->L.length<=78125
def Ty (g:Nat)(ds:List (List Dd))(S:Sy):Prop:=∀(w:World) (v:BV) (b:Bd),S.R b->Cf w v ds b->Calls Tryz.prog g #[v.agg] w fun e w'=>∃v',e = .returned v'/\iH w w' v' ds (S.nx b)/\AC w w'
theorem Mv.new {w w1 w2 w3 wx:World}{ds:List (List Dd)}{b:Bd}{bv:BV}{bn bx:Nat}{es:Array MapEntry}(K1:AC w w1)(hE:w1.heap[w.heap.size]? = some (.cells #[] 28 (0,0)))(s1:w1.heap.size=w.heap.size+1)(k2:AC w1 w2)(F:CX w2 w1.heap.size w2.heap.size bv ds b)(k3:AC w2 w3)(kx:AC w3 wx)(hn:Wv wx bn es [(bv,b)])(hx:Wv wx bx #[] [])(hne:bn≠bx)(hbn:w3.heap.size<=bn)(hbx:w3.heap.size<=bx):
  Mv w wx ds (fun g=>w1.heap.size<=g/\g<w2.heap.size) (.slice (some ⟨w.heap.size,0,none⟩) 0 0) [] [] bn bx es [(bv,b)]:=by
 have z2:=k2.size;have z3:=k3.size;have zx:=kx.size;have kk:=k2.trans (k3.trans kx);refine⟨fun g hg=>by omega,⟨⟨fun o ho=>?_,fun o o' ho ho' hne=>?_⟩,rfl⟩,fun g hg hp=>?_,by simp,K1.trans kk,hn,hx,hne,⟨by omega,by omega⟩,⟨by omega,by omega⟩,fun p hp=>?_⟩
 ·
  cases o with
  |none=>exact⟨by simp[LI],.inr ⟨w.heap.size,0,#[],rfl,Nat.le_refl _,(Below.block kk _ (by omega)).trans hE,Nat.le_refl _,by decide,by simp,by simp[LI]⟩⟩
  |some i=>exact absurd (show i<0 from ho) (by omega)
 ·
  cases o with
  |none=>
   cases o' with
   |none=>exact absurd rfl hne
   |some i=>exact absurd (show i<0 from ho') (by omega)
  |some i=>exact absurd (show i<0 from ho) (by omega)
 ·
  have:=Option.some.inj hg;simp only at this;omega
 ·
  rw[List.mem_singleton] at hp;subst hp;exact F.held.on (Aw.B0 (k3.trans kx))
end
abbrev D6 (hs:List Value)(i:Nat):Value:=hs.getD i AE
abbrev jK (E:List (List Int))(i j:Nat):Int:=GG (E.getD i []) (E.getD j [])
theorem y7 (E:List (List Int))(i j:Nat):ltOf (jK E) i j=Bx (E.getD i []) (E.getD j []):=PR _ _
theorem swoE (E:List (List Int)):SWO (ltOf (jK E)) where
 irrefl x:=by rw[y7];exact EP _
 trans x y z h1 h2:=by rw[y7] at *;exact FK _ _ _ h1 h2
 ntrans x y z h1 h2:=by
  rw[y7] at *
  cases h:Bx (E.getD x []) (E.getD z []) with
  |false=>rfl
  |true=>
   rcases Gg (E.getD y []) (E.getD z []) with e|e|e
   . rw[e] at h1;rw[h] at h1;cases h1
   . rw[e] at h2;cases h2
   . rw[FK _ _ _ h e] at h1;cases h1
theorem OT {α:Type}[Inhabited α](enc:α->Value)(w:World)(g m:Nat)(d:Array α)(os:Array Obj):w.grownBy (sortWorld enc w g 0 m d os) (some g):=by
 unfold sortWorld;refine⟨rfl,rfl,rfl,?_,fun i hi hne=>?_⟩
 ·
  show w.heap.size<=((putRow enc (Sort.ahead w m) g 0 d).heap++os).size;rw[Array.size_append,size_putRow];exact Nat.le_add_right _ _
 ·
  show ((putRow enc (Sort.ahead w m) g 0 d).heap++os)[i]? = _;rw[Array.getElem?_append_left (by rw[size_putRow];exact hi)];show ((Sort.ahead w m).heap.modify g (onCells (putCells enc 0 d)))[i]? = _;rw[Array.getElem?_modify,if_neg (fun e=>hne (by rw[e]))];rfl
theorem fU {α:Type}[Inhabited α](enc:α->Value)(cur:Array Value)(d:Array α)(h:d.size<=cur.size):(putCells enc 0 d cur).toList.take d.size=d.toList.map enc:=by
 apply List.ext_getElem?;intro i;rw[List.getElem?_take,List.getElem?_map];by_cases hi:i<d.size
 ·
  rw[if_pos hi];unfold putCells;rw[Array.getElem?_toList,Array.getElem?_mapIdx,Array.getElem?_eq_getElem (by omega),Array.getElem?_toList,Array.getElem?_eq_getElem hi];simp[hi]
 ·
  rw[if_neg hi,Array.getElem?_toList,Array.getElem?_eq_none (by omega)];rfl
theorem fH {α:Type}[Inhabited α](enc:α->Value)(w:World)(g m:Nat)(d:Array α)(os:Array Obj)(cur:Array Value)(t:TypeId)(h:w.heap[g]? = some (.cells cur t (0,0))):(sortWorld enc w g 0 m d os).heap[g]? = some (.cells (putCells enc 0 d cur) t (0,0)):=by
 have hl:=(Array.getElem?_eq_some_iff.1 h).1;unfold sortWorld;show ((putRow enc (Sort.ahead w m) g 0 d).heap++os)[g]? = _;rw[Array.getElem?_append_left (by rw[size_putRow];exact hl)];show ((Sort.ahead w m).heap.modify g (onCells (putCells enc 0 d)))[g]? = _;rw[Array.getElem?_modify,if_pos rfl];show Option.map _ (w.heap[g]?)=_;rw[h];rfl
theorem RR (w:World)(m:Nat)(v:Value)(hs:List Value)(E:List (List Int))(h:C4 28 Bk w m v hs E)(hz:v≠.slice none 0 0)(hn:E.length<=1048576)(hm:∀i,i<E.length->(E.getD i []).length<=1048576):
  Calls Tryz.prog 67 #[v,.func (Fn.func 68) #[] #[]] w fun e w'=>e = .returned (.tuple #[])/\∃hs' E',C4 28 Bk w' m v hs' E'/\E'.Perm E/\(∀i j,i<j->j<E'.length->Bx (E'.getD j []) (E'.getD i [])=false)/\w.grownBy w' v.ownBlock:=by
 have own0:=h.Ag.own none trivial;have hl:=h.len;rcases own0.2 with ⟨q,_⟩|⟨g,cap,cur,q,hb,hh,hc,hmx,hsz,ht⟩
 . exact absurd q hz
 have q:v = .slice (some ⟨g,0,none⟩) hs.length cap:=q;subst q;have hh:w.heap[g]? = some (.cells cur 28 (0,0)):=hh;have ht:cur.toList.take (hs.length*1)=hs:=ht;rw[Nat.mul_one] at ht
 have hcur:hs.length<=cur.size:=by
  have:=congrArg List.length ht;rw[List.length_take,Array.length_toList] at this;exact Nat.le_trans (Nat.le_of_eq this.symm) (Nat.min_le_right _ _)
 have hg:(Value.slice (some ⟨g,0,none⟩) hs.length cap).ownBlock=some g:=rfl
 have ne:∀i,i<hs.length->∀b,(hs.getD i AE).ownBlock=some b->b≠g:=fun i hi b hb e=>by
  rcases h.Ag.apart (some i) none hi trivial (by simp) with h1|h1
  . rw[show (LI 28 Bk (.slice (some ⟨g,0,none⟩) hs.length cap) hs E (some i)).v=hs.getD i AE from rfl,hb] at h1;cases h1
  ·
   apply h1;rw[show (LI 28 Bk (.slice (some ⟨g,0,none⟩) hs.length cap) hs E (some i)).v=hs.getD i AE from rfl,hb,e];exact hg.symm
 have out:∀i,¬i<hs.length->hs.getD i AE=AE/\E.getD i []=[]:=fun i hi=>⟨by rw[List.getD_eq_getElem?_getD,List.getElem?_eq_none (by omega)];rfl,by rw[List.getD_eq_getElem?_getD,List.getElem?_eq_none (by omega)];rfl⟩
 have wW:∀(W:World),w.grownBy W (some g)->∀i,i<hs.length->(Bk (E.getD i []) (hs.getD i AE)).own W m:=fun W hW i hi=>ES (h.Ag.own (some i) hi) (fun b hb=>hW.block b (h.Ag.lt (i:=some i) hi b hb).2 (fun e=>ne i hi b hb (Option.some.inj e)))
 have Kt:∀(W:World),w.grownBy W (some g)->∀i,Rd W (hs.getD i AE) (E.getD i []):=fun W hW i=>by
  by_cases hi:i<hs.length
  . exact BO.rd (wW W hW i hi)
  ·
   obtain⟨e1,e2⟩:=out i hi;rw[e1,e2];exact⟨none,0,rfl,.inl rfl⟩
 have hm':∀i,(E.getD i []).length<=1048576:=fun i=>by
  by_cases hi:i<hs.length
  . exact hm i (by omega)
  . rw[(out i hi).2];simp
 have one:OneCell (D6 hs):=fun i=>by
  obtain⟨a,c,e,_⟩:=Kt w (World.grownBy.refl _ _) i;show (hs.getD i AE).oneCell'=true;rw[e];rfl
 have sD:(Array.range hs.length).size=hs.length:=Array.size_range
 have hold:Holds (D6 hs) w g 0 (Array.range hs.length):=fun j hj=>by
  rw[sD] at hj;refine⟨?_,frozen_of_row w g (0+j) _ _ hh⟩;rw[cell_of_row w g (0+j) _ _ _ hh,Nat.zero_add,getElem!_pos _ j (by rw[sD];exact hj),Array.getElem_range];have e1:(cur.toList.take hs.length)[j]? = hs[j]?:=by rw[ht]
  rw[List.getElem?_take,if_pos hj,Array.getElem?_toList] at e1;rw[e1,List.getElem?_eq_getElem hj];show _=some (hs.getD j AE);rw[List.getD_eq_getElem?_getD,List.getElem?_eq_getElem hj];rfl
 have lays:CmpLays1 Tryz.prog 68 #[] (D6 hs) (jK E) g 0 (Array.range hs.length).size w:=fun mm os dk _ x y=>by
  have hW:=OT (D6 hs) w g mm dk os;refine (Zf _ _ _ (E.getD x []) (E.getD y []) (Kt _ hW x) (Kt _ hW y) (hm' x) (hm' y)).mono ?_;rintro e w' ⟨rfl,rfl⟩;exact⟨rfl,0,#[],by rw[grow_empty];rfl⟩
 have eg:∀args w,(callFunc 68 args).run Tryz.prog w = .ok (.enter 68 args) w:=enters_of Tryz.func68 (by kernel_rfl) rfl;have C:=Any.slices_SortFunc Tryz.srt (D6 hs) one (jK E) (swoE E) 68 #[] g 0 cap (Array.range hs.length) w eg lays hold (Array.getElem?_eq_some_iff.1 hh).1 (by rw[sD];omega);rw[sD] at C;refine Calls.mono C ?_;rintro e w' ⟨rfl,d',mm,os,hp,hs',rfl⟩;obtain⟨p1,-,p3⟩:=hp;rw[sD] at p1;have hW:=OT (D6 hs) w g mm d' os;have hrow:=fH (D6 hs) w g mm d' os cur _ hh
 have hperm:d'.toList.Perm (List.range hs.length):=by
  have e1:(d'.extract 0 hs.length).toList=d'.toList:=by rw[<-p1,Array.extract_size]
  have e2:((Array.range hs.length).extract 0 hs.length).toList=List.range hs.length:=by
   have:(Array.range hs.length).extract 0 hs.length=Array.range hs.length:=by
    have q:=Array.extract_size (xs:=Array.range hs.length)
    rwa [sD] at q
   rw[this,Array.toList_range]
  rw[e1,e2] at p3;exact p3
 have Zj:d'.toList.length=hs.length:=by rw[Array.length_toList,p1]
 have dnd:d'.toList.Nodup:=hperm.nodup_iff.2 List.nodup_range
 have vH:∀i,i<hs.length->d'.toList.getD i 0<hs.length:=fun i hi=>by
  have:d'.toList.getD i 0∈d'.toList:=by rw[List.getD_eq_getElem?_getD,List.getElem?_eq_getElem (by omega)];exact List.getElem_mem _
  exact List.mem_range.1 (hperm.mem_iff.1 this)
 have Zy:∀i,i<hs.length->(d'.toList.map (D6 hs)).getD i AE=hs.getD (d'.toList.getD i 0) AE:=fun i hi=>by
  rw[List.getD_eq_getElem?_getD,List.getElem?_map,List.getElem?_eq_getElem (by omega),List.getD_eq_getElem?_getD (l:=d'.toList),List.getElem?_eq_getElem (by omega)];rfl
 have qD:∀i,i<hs.length->(d'.toList.map (fun i=>E.getD i [])).getD i []=E.getD (d'.toList.getD i 0) []:=fun i hi=>by
  rw[List.getD_eq_getElem?_getD,List.getElem?_map,List.getElem?_eq_getElem (by omega),List.getD_eq_getElem?_getD (l:=d'.toList),List.getElem?_eq_getElem (by omega)];rfl
 refine⟨rfl,d'.toList.map (D6 hs),d'.toList.map (fun i=>E.getD i []),⟨⟨fun o ho=>?_,fun o o' ho ho' hne=>?_⟩,by rw[List.length_map,List.length_map]⟩,?_,fun i j hij hj=>?_,by simpa [Value.ownBlock] using hW⟩
 ·
  cases o with
  |none=>
   refine⟨by show (d'.toList.map (D6 hs)).length=_;exact (Nat.mul_one _).symm,.inr ⟨g,cap,_,?_,hb,hrow,?_,hmx,?_,?_⟩⟩
   ·
    show Value.slice (some ⟨g,0,none⟩) hs.length cap = .slice _ (d'.toList.map (D6 hs)).length cap;rw[List.length_map,Zj]
   ·
    show (d'.toList.map (D6 hs)).length<=cap;rw[List.length_map,Zj];exact hc
   ·
    show (putCells (D6 hs) 0 d' cur).size=cap*1;unfold putCells;rw[Array.size_mapIdx];exact hsz
   ·
    show (putCells (D6 hs) 0 d' cur).toList.take ((d'.toList.map (D6 hs)).length*1)=d'.toList.map (D6 hs);rw[Nat.mul_one,List.length_map,Array.length_toList];exact fU (D6 hs) cur d' (by omega)
  |some i=>
   have hi:i<hs.length:=by have:i<(d'.toList.map (D6 hs)).length:=ho;rwa [List.length_map,Zj] at this
   show (Bk ((d'.toList.map (fun i=>E.getD i [])).getD i []) ((d'.toList.map (D6 hs)).getD i AE)).own _ m;rw[Zy i hi,qD i hi];exact wW _ hW _ (vH i hi)
 ·
  have key:∀i j,i<hs.length->j<hs.length->i≠j->(hs.getD (d'.toList.getD i 0) AE).ownBlock=none\/(hs.getD (d'.toList.getD i 0) AE).ownBlock≠(hs.getD (d'.toList.getD j 0) AE).ownBlock:=fun i j hi hj hne=>by
   have hd:d'.toList.getD i 0≠d'.toList.getD j 0:=fun e=>by
    rw[List.getD_eq_getElem?_getD,List.getD_eq_getElem?_getD,List.getElem?_eq_getElem (by omega),List.getElem?_eq_getElem (by omega)] at e;exact hne ((List.getElem_inj dnd).1 e)
   exact h.Ag.apart (some _) (some _) (vH i hi) (vH j hj) (by simpa using hd)
  have lv:∀i,ED (d'.toList.map (D6 hs)).length (some i)->i<hs.length:=fun i ho=>by
   have:i<(d'.toList.map (D6 hs)).length:=ho
   rwa [List.length_map,Zj] at this
  cases o with
  |none=>
   cases o' with
   |none=>exact absurd rfl hne
   |some j=>
    have hj:=lv j ho';refine .inr (fun e=>?_);have e:(Value.slice (some ⟨g,0,none⟩) hs.length cap).ownBlock=((d'.toList.map (D6 hs)).getD j AE).ownBlock:=e;rw[Zy j hj,hg] at e;exact ne _ (vH j hj) g e.symm rfl
  |some i=>
   have hi:=lv i ho
   cases o' with
   |none=>
    show ((d'.toList.map (D6 hs)).getD i AE).ownBlock=none\/((d'.toList.map (D6 hs)).getD i AE).ownBlock≠(Value.slice (some ⟨g,0,none⟩) hs.length cap).ownBlock;rw[Zy i hi,hg]
    cases hq:(hs.getD (d'.toList.getD i 0) AE).ownBlock with
    |none=>exact .inl rfl
    |some b=>exact .inr (fun e=>ne _ (vH i hi) b hq (Option.some.inj e))
   |some j=>
    have hj:=lv j ho';show ((d'.toList.map (D6 hs)).getD i AE).ownBlock=none\/((d'.toList.map (D6 hs)).getD i AE).ownBlock≠((d'.toList.map (D6 hs)).getD j AE).ownBlock;rw[Zy i hi,Zy j hj];exact key i j hi hj (fun e=>hne (by rw[e]))
 ·
  have e1:(List.range hs.length).map (fun i=>E.getD i [])=E:=by
   apply List.ext_getElem (by simp[hl]);intro i h1 h2;rw[List.getElem_map,List.getElem_range,List.getD_eq_getElem?_getD,List.getElem?_eq_getElem h2];rfl
  have:=hperm.map (fun i=>E.getD i [])
  rwa [e1] at this
 ·
  have hj':j<hs.length:=by rwa [List.length_map,Zj] at hj
  have q:=hs' i j (Nat.zero_le _) hij hj';rw[y7] at q;rw[qD j hj',qD i (by omega)]
  have gd:∀k,k<hs.length->d'[k]! = d'.toList.getD k 0:=fun k hk=>by
   rw[getElem!_pos _ k (by omega),List.getD_eq_getElem?_getD,Array.getElem?_toList,Array.getElem?_eq_getElem (by omega)];rfl
  rw[gd j hj',gd i (by omega)] at q;exact q
theorem Sg (w:World)(v:BV)(AA:List (List Dd))(b:Bd)(h:Cf w v AA b)(hd:AA.length<=1048576)(hx:AA.length<=b.AK.length)(hn:AA.length<=b.AG.length):
  Calls Tryz.prog 95 #[v.agg] w fun e w'=>e = .returned (.bool (NK AA b))/\AC w w':=by
 obtain⟨aW,aP,aL,aN,aX,aS,aF,aR,cW,cP,cL,cN,cX,cS,cF,cR,rfl⟩:=h.shapes;have KW:AC w (w.alloc (.cells #[.slice aW AA.length cW,.slice aP b.AM.length cP,.slice aL b.AQ.length cL,.slice aN b.AG.length cN,.slice aX b.AK.length cX,.slice aS b.sn.length cS,.slice aF b.fr.length cF,.slice aR b.rws.length cR] 36)):=(AC.refl w).alloc _;have c0:(w.alloc (.cells #[.slice aW AA.length cW,.slice aP b.AM.length cP,.slice aL b.AQ.length cL,.slice aN b.AG.length cN,.slice aX b.AK.length cX,.slice aS b.sn.length cS,.slice aF b.fr.length cF,.slice aR b.rws.length cR] 36)).cell? ⟨w.heap.size,0,none⟩=some (.slice aW AA.length cW):=AZ (AC.refl _) 0;have c3:(w.alloc (.cells #[.slice aW AA.length cW,.slice aP b.AM.length cP,.slice aL b.AQ.length cL,.slice aN b.AG.length cN,.slice aX b.AK.length cX,.slice aS b.sn.length cS,.slice aF b.fr.length cF,.slice aR b.rws.length cR] 36)).cell? ⟨w.heap.size,3,none⟩=some (.slice aN b.AG.length cN):=AZ (AC.refl _) 3;have c4:(w.alloc (.cells #[.slice aW AA.length cW,.slice aP b.AM.length cP,.slice aL b.AQ.length cL,.slice aN b.AG.length cN,.slice aX b.AK.length cX,.slice aS b.sn.length cS,.slice aF b.fr.length cF,.slice aR b.rws.length cR] 36)).cell? ⟨w.heap.size,4,none⟩=some (.slice aX b.AK.length cX):=AZ (AC.refl _) 4;have h':=h.keep KW;go_enter Tryz.func95,Tryz.ntmps95
 go_wp2;generalize (w.alloc (.cells #[.slice aW AA.length cW,.slice aP b.AM.length cP,.slice aL b.AQ.length cL,.slice aN b.AG.length cN,.slice aX b.AK.length cX,.slice aS b.sn.length cS,.slice aF b.fr.length cF,.slice aR b.rws.length cR] 36))=w1 at *;have HH:=Lib.hid h';clear h h';go_loopw [3,4,8] (fun _ _ i wr=>∃k:Nat,k<=AA.length/\i = .int .i64 k/\Hid (∀j,j<k->(decide (((AA.getD j []).length:Int)<=b.AK.getD j 0)&&(b.AG.getD j []).isEmpty)=true)/\wr=w1) (fun _ _ i _=>AA.length-(intOf i).toNat)
 case atStart=>exact⟨0,Nat.zero_le _,rfl,Lib.hid (fun j hj=>absurd hj (Nat.not_lt_zero _)),rfl⟩
 case round=>
  obtain⟨k,hk,rfl,hno,rfl⟩:=hrel;by_cases hlt:k<AA.length
  ·
   have lX:k<b.AK.length:=by omega
   have lN:k<b.AG.length:=by omega
   obtain⟨a',c',he',hX⟩:=HH.out.X;simp only[Value.slice.injEq,true_and] at he';obtain⟨rfl,rfl⟩:=he';rcases hX with h0|⟨bx,ox,rfl,hbx,hcx⟩
   . exfalso;rw[h0] at lX;simp at lX
   obtain⟨a',c',he',hW⟩:=HH.out.W;simp only[Value.slice.injEq,true_and] at he';obtain⟨rfl,rfl⟩:=he';rcases hW with h0|⟨bw,ow,rfl,hbw,hcw⟩
   . exfalso;rw[h0] at hlt;simp at hlt
   obtain⟨a',c',he',hN⟩:=HH.out.N;simp only[Value.slice.injEq,true_and] at he';obtain⟨rfl,rfl⟩:=he';rcases hN with h0|⟨bn,on,rfl,hbn,hcn⟩
   . exfalso;rw[h0] at lN;simp at lN
   have d1:=hcx k lX;obtain⟨vw,d2,r2⟩:=hcw k hlt;obtain⟨vn,d3,r3⟩:=hcn k lN;have HF:(decide (((AA.getD k []).length:Int)<=b.AK.getD k 0)&&(b.AG.getD k []).isEmpty)=false->Hid (NK AA b=false):=fun e=>Lib.hid (EX hlt e)
   have HT:(decide (((AA.getD k []).length:Int)<=b.AK.getD k 0)&&(b.AG.getD k []).isEmpty)=true->Hid (∀j,j<k+1->(decide (((AA.getD j []).length:Int)<=b.AK.getD j 0)&&(b.AG.getD j []).isEmpty)=true):=fun e=>Lib.hid (fun j hj=>by
    by_cases e':j=k
    . rw[e'];exact e
    . exact hno.out j (by omega))
   obtain⟨aw,cw,rfl,-⟩:=r2;obtain⟨an,cn,rfl,-⟩:=r3;generalize b.AK.getD k 0=x at d1 HF HT;generalize (AA.getD k []).length=wl at d2 HF HT;generalize b.AG.getD k []=ns at d3 HF HT;have j1:(0:Int)<=(k:Int):=Int.natCast_nonneg _;have j2:(k:Int)<(AA.length:Int):=by omega
   have j3:(k:Int)<(b.AK.length:Int):=by omega
   have j4:(k:Int)<(b.AG.length:Int):=by omega
   clear hcx hcw hcn hno HH;by_cases t1:x<(wl:Int)
   ·
    have HE:=HF (by rw[decide_eq_false (by omega)];rfl);clear HF HT;go_wp2;go_ret;exact⟨by rw[HE.out];rfl,KW⟩
   have t1':decide (x<(wl:Int))=false:=decide_eq_false t1;by_cases t2:0<ns.length
   ·
    have HE:=HF (by
     have:ns.isEmpty=false:=by cases ns with|nil=>simp at t2|cons _ _=>rfl
     rw[this];simp)
    have t2':decide (0<ns.length)=true:=decide_eq_true t2;clear HF HT t1;go_wp2;go_ret;exact⟨by rw[HE.out];rfl,KW⟩
   ·
    have HE:=HT (by
     have:ns.isEmpty=true:=by cases ns with|nil=>rfl|cons _ _=>simp at t2
     rw[this,decide_eq_true (by omega)];rfl)
    have t2':decide (0<ns.length)=false:=decide_eq_false t2;clear HF HT t1 t2;go_wp2;go_roundw;case rel=>exact⟨k+1,by omega,by go_num,HE,trivial⟩
    case measure=>simp[intOf];omega
  ·
   obtain rfl:k=AA.length:=by omega
   have HE:Hid (NK AA b=true):=Lib.hid (FB hno.out);go_wp2;go_ret;exact⟨by rw[HE.out];rfl,KW⟩
theorem US (p0:Addr)(w:World):CallsD Tryz.prog 93 #[.pointer (some p0)] .returning w fun e u' w'=>e = .returned (.tuple #[])/\u' = .returning/\w'=w:=by
 refine callsD_of_wpS Tryz.func93 rfl fun c₀ cs hu=>?_
 apply wpS_seq;apply wpS_region;have hn:∀w:World,(binOp BinOp.neq 20 .nilIface .nilIface).run Tryz.prog w = .ok (.bool false) w:=fun _=>by kernel_rfl
 simp[wpOpsS,go_sem,recoverD,hu,Tryz.ntmps93,Exit.thenS,hn];refine wpS_cond (t:=false) (by simp[Act.eval,Array.replicate]) ?_;simp only[Bool.false_eq_true,if_false];refine wpS_of_wp (wp_skip ?_);cases c₀;simp_all [bodyPostS,results,Tryz.results93]
theorem Xe (g:Nat)(w:World)(x:Value)(hg:w.heap[g]? = some (.cells #[x] 4 (0,0))):CallsD Tryz.prog 93 #[.pointer (some ⟨g,0,none⟩)] (.panicking [{ v:=YI,recovered:=false }]) w fun e u' w'=>e = .returned (.tuple #[])/\u' = .panicking [{ v:=YI,recovered:=true }]/\w'=w.setCell ⟨g,0,none⟩ (.bool false):=by
 have hc:w.cell? ⟨g,0,none⟩=some x:=by rw[cell_of_row w g 0 _ _ _ hg];rfl
 have hf:w.frozen? ⟨g,0,none⟩=false:=frozen_of_row w g 0 _ _ hg;have hv:∀w:World,(binOp BinOp.neq 20 YI .nilIface).run Tryz.prog w = .ok (.bool true) w:=fun _=>by kernel_rfl
 refine callsD_of_wpS Tryz.func93 rfl fun c₀ cs hu=>?_
 apply wpS_seq;apply wpS_region;simp[wpOpsS,go_sem,recoverD,hu,Tryz.ntmps93,Exit.thenS,hv];refine wpS_cond (t:=true) (by simp[Act.eval,Array.replicate]) ?_;simp only[if_true];refine wpS_of_wp ?_;go_wp2;cases c₀;simp_all [bodyPostS,results,Tryz.results93]
theorem Oy (w:World)(v:BV)(AA:List (List Dd))(b:Bd)(h:Cf w v AA b)(hz:JQ AA b):
  Calls Tryz.prog 64 #[v.agg] w fun e w'=>e = .returned (.bool (JX AA b))/\AC w w':=by
 obtain⟨aW,aP,aL,aN,aX,aS,aF,aR,cW,cP,cL,cN,cX,cS,cF,cR,rfl⟩:=h.shapes;have C:=fun (W:World) (kW:AC w W)=>Fq W _ AA b (h.keep kW) hz
 have HH:=Lib.hid h;have HZ:=Lib.hid hz;clear h hz;have hmf:∀(fn:Fn) (first cap:Array Value) (w:World),(Instr.makeFunc fn first cap).run Tryz.prog w = .ok (.func fn first cap) w:=fun _ _ _ _=>rfl
 obtain⟨w1,hw1⟩:∃W:World,W=((w.alloc (.cells #[.slice aW AA.length cW,.slice aP b.AM.length cP,.slice aL b.AQ.length cL,.slice aN b.AG.length cN,.slice aX b.AK.length cX,.slice aS b.sn.length cS,.slice aF b.fr.length cF,.slice aR b.rws.length cR] 36)).alloc (.cells #[.bool false] 4)):=⟨_,rfl⟩;have K1:AC w w1:=by rw[hw1];exact ((AC.refl w).alloc _).alloc _
 have s1:w1.heap.size=w.heap.size+2:=by rw[hw1,AD,AD]
 have hR1:w1.heap[w.heap.size+1]? = some (.cells #[.bool false] 4 (0,0)):=by
  rw[hw1,<-AD w (.cells #[.slice aW AA.length cW,.slice aP b.AM.length cP,.slice aL b.AQ.length cL,.slice aN b.AG.length cN,.slice aX b.AK.length cX,.slice aS b.sn.length cS,.slice aF b.fr.length cF,.slice aR b.rws.length cR] 36)];exact heap_alloc_new _ _
 have hB1:w1.heap[w.heap.size]? = some (.cells #[.slice aW AA.length cW,.slice aP b.AM.length cP,.slice aL b.AQ.length cL,.slice aN b.AG.length cN,.slice aX b.AK.length cX,.slice aS b.sn.length cS,.slice aF b.fr.length cF,.slice aR b.rws.length cR] 36 (0,0)):=by rw[hw1];exact (Below.block ((AC.refl _).alloc _) _ (by rw[AD];omega)).trans (heap_alloc_new _ _)
 go_enter_defers Tryz.func64,Tryz.ntmps64
 go_upto_region 2 with fail
 rw[<-hw1];clear hw1;go_wp2_with (first|refine wpList_load_row rfl 36 _ rfl w.heap.size rfl 36 _ (0,0) _ hB1 Tryz.underlying36 rfl AL ?_|fail)
 refine (C _ K1).mono ?_;rintro e w2 ⟨rfl,k2⟩;have K2:=K1.trans k2;have hR2:=(Below.block k2 (w.heap.size+1) (by omega)).trans hR1;cases hb:Ac AA b
 ·
  rw[Af rfl];have hS:=heap_setCell_same w2 (w.heap.size+1) 0 _ _ (.bool false) hR2;have hc:(w2.setCell ⟨w.heap.size+1,0,none⟩ (.bool false)).cell? ⟨w.heap.size+1,0,none⟩=some (.bool false):=by rw[cell_of_row _ _ 0 _ _ _ hS];rfl
  have KZ:=K2.grown (Ae w2 (w.heap.size+1) 0 (.bool false)) (fun k hk=>by have:=Option.some.inj hk;omega);go_wp2;refine leaves_cons (f:=93) (args:=#[.pointer (some ⟨w.heap.size+1,0,none⟩)]) (by simp) (by simp[go_sem]) ?_;refine (Xe _ _ _ hR2).mono ?_;rintro e u' w9 ⟨rfl,rfl,rfl⟩;simp[Leaves,settle,results,Tryz.results64,go_sem,hc];exact⟨by unfold JX;rw[hb];rfl,KZ⟩
 ·
  rw[Au rfl];have hB2:=(Below.block k2 w.heap.size (by omega)).trans hB1;obtain⟨l1,l2⟩:=UN hb;have CI:=Sg w2 _ AA b (HH.out.keep K2) HZ.out.w1 (by omega) (by omega);clear l1 l2;go_wp2_with (first|refine wpList_load_row rfl 36 _ rfl w.heap.size rfl 36 _ (0,0) _ hB2 Tryz.underlying36 rfl AL ?_|fail)
  refine CI.mono ?_;rintro e w3 ⟨rfl,k3⟩;have K3:=K2.trans k3;have hR3:=(Below.block k3 (w.heap.size+1) (by have:=k2.size;omega)).trans hR2;have HE:Hid (JX AA b=NK AA b):=Lib.hid (by unfold JX;rw[hb];rfl);clear hR2 hR1;generalize NK AA b=Z at *;have hc0:w3.cell? ⟨w.heap.size+1,0,none⟩=some (.bool false):=by rw[cell_of_row w3 _ 0 _ _ _ hR3];rfl
  have hf:w3.frozen? ⟨w.heap.size+1,0,none⟩=false:=frozen_of_row w3 _ 0 _ _ hR3;have hS:=heap_setCell_same w3 (w.heap.size+1) 0 _ _ (.bool Z) hR3;have hc:(w3.setCell ⟨w.heap.size+1,0,none⟩ (.bool Z)).cell? ⟨w.heap.size+1,0,none⟩=some (.bool Z):=by rw[cell_of_row _ _ 0 _ _ _ hS];rfl
  have KZ:=K3.grown (Ae w3 (w.heap.size+1) 0 (.bool Z)) (fun k hk=>by have:=Option.some.inj hk;omega);go_wp2;refine leaves_cons (f:=93) (args:=#[.pointer (some ⟨w.heap.size+1,0,none⟩)]) (by simp) (by simp[go_sem]) ?_;refine (US _ _).mono ?_;rintro e u' w9 ⟨rfl,rfl,rfl⟩;simp[Leaves,settle,results,Tryz.results64,go_sem,hc];exact⟨HE.out.symm,KZ⟩
theorem fG (p0:Addr)(w:World):CallsD Tryz.prog 96 #[.pointer (some p0)] .returning w fun e u' w'=>e = .returned (.tuple #[])/\u' = .returning/\w'=w:=by
 refine callsD_of_wpS Tryz.func96 rfl fun c₀ cs hu=>?_
 apply wpS_seq;apply wpS_region;have hn:∀w:World,(binOp BinOp.neq 20 .nilIface .nilIface).run Tryz.prog w = .ok (.bool false) w:=fun _=>by kernel_rfl
 simp[wpOpsS,go_sem,recoverD,hu,Tryz.ntmps96,Exit.thenS,hn];refine wpS_cond (t:=false) (by simp[Act.eval,Array.replicate]) ?_;simp only[Bool.false_eq_true,if_false];refine wpS_of_wp (wp_skip ?_);cases c₀;simp_all [bodyPostS,results,Tryz.results96]
theorem lK (g:Nat)(w:World)(x:Value)(hg:w.heap[g]? = some (.cells #[x] 28 (0,0))):CallsD Tryz.prog 96 #[.pointer (some ⟨g,0,none⟩)] (.panicking [{ v:=YI,recovered:=false }]) w fun e u' w'=>e = .returned (.tuple #[])/\u' = .panicking [{ v:=YI,recovered:=true }]/\w'=(w.alloc (.cells #[] 2)).setCell ⟨g,0,none⟩ (.slice (some ⟨w.heap.size,0,none⟩) 0 0):=by
 have hl:g<w.heap.size:=(Array.getElem?_eq_some_iff.1 hg).1;have hg2:=(Below.block ((AC.refl w).alloc (.cells #[] 2)) g hl).trans hg;have hc:(w.alloc (.cells #[] 2)).cell? ⟨g,0,none⟩=some x:=by rw[cell_of_row _ g 0 _ _ _ hg2];rfl
 have hf:(w.alloc (.cells #[] 2)).frozen? ⟨g,0,none⟩=false:=frozen_of_row _ g 0 _ _ hg2;have hv:∀w:World,(binOp BinOp.neq 20 YI .nilIface).run Tryz.prog w = .ok (.bool true) w:=fun _=>by kernel_rfl
 refine callsD_of_wpS Tryz.func96 rfl fun c₀ cs hu=>?_
 apply wpS_seq;apply wpS_region;simp[wpOpsS,go_sem,recoverD,hu,Tryz.ntmps96,Exit.thenS,hv];refine wpS_cond (t:=true) (by simp[Act.eval,Array.replicate]) ?_;simp only[if_true];refine wpS_of_wp ?_;go_wp2;cases c₀;simp_all [bodyPostS,results,Tryz.results96];exact (World.setCell_alloc_past _ _ _ _ hl).symm
theorem RQ {w wr:World}{v:Value}{zs:List Int}{x:Value}(O:BO wr (w.heap.size+2) v zs)(K:AC w wr)(hg:wr.heap[w.heap.size+1]? = some (.cells #[x] 28 (0,0))):
  (wr.setCell ⟨w.heap.size+1,0,none⟩ v).cell? ⟨w.heap.size+1,0,none⟩=some v/\(wr.setCell ⟨w.heap.size+1,0,none⟩ v).heap[w.heap.size+1]? = some (.cells #[v] 28 (0,0))/\BO (wr.setCell ⟨w.heap.size+1,0,none⟩ v) (w.heap.size+2) v zs/\AC w (wr.setCell ⟨w.heap.size+1,0,none⟩ v)/\wr.cell? ⟨w.heap.size+1,0,none⟩=some x/\wr.frozen? ⟨w.heap.size+1,0,none⟩=false:=by
 have hS:=heap_setCell_same wr (w.heap.size+1) 0 _ _ v hg;refine⟨by rw[cell_of_row _ _ 0 _ _ _ hS];rfl,hS,World.ownsRow.kept O (Ae wr (w.heap.size+1) 0 v) ?_,K.grown (Ae wr (w.heap.size+1) 0 v) (fun k hk=>by have:=Option.some.inj hk;omega),by rw[cell_of_row _ _ 0 _ _ _ hg];rfl,frozen_of_row wr _ 0 _ _ hg⟩
 cases e:v.ownBlock with
 |none=>exact .inl rfl
 |some k=>exact .inr (fun e'=>by have:=O.ge k e;have:=Option.some.inj e';omega)
theorem Jd (w:World)(v:BV)(AA:List (List Dd))(b:Bd)(h:Cf w v AA b)(hz:JQ AA b):
  Calls Tryz.prog 65 #[v.agg] w fun e w'=>∃v',e = .returned v'/\BO w' w.heap.size v' (Lq AA b)/\AC w w':=by
 obtain⟨aW,aP,aL,aN,aX,aS,aF,aR,cW,cP,cL,cN,cX,cS,cF,cR,rfl⟩:=h.shapes;have C:=fun (W:World) (kW:AC w W)=>Fq W _ AA b (h.keep kW) hz
 have HS:=Lib.hid h.S;have HP:=Lib.hid h.P;have z1:=hz.sn;have z2:=hz.AM;clear h hz;have HD:Hid (Lq AA b=if Ac AA b=true then b.sn++b.AM else []):=Lib.hid rfl;have hmf:∀(fn:Fn) (first cap:Array Value) (w:World),(Instr.makeFunc fn first cap).run Tryz.prog w = .ok (.func fn first cap) w:=fun _ _ _ _=>rfl
 obtain⟨w1,hw1⟩:∃W:World,W=((w.alloc (.cells #[.slice aW AA.length cW,.slice aP b.AM.length cP,.slice aL b.AQ.length cL,.slice aN b.AG.length cN,.slice aX b.AK.length cX,.slice aS b.sn.length cS,.slice aF b.fr.length cF,.slice aR b.rws.length cR] 36)).alloc (.cells #[.slice none 0 0] 28)):=⟨_,rfl⟩;have K1:AC w w1:=by rw[hw1];exact ((AC.refl w).alloc _).alloc _
 have s1:w1.heap.size=w.heap.size+2:=by rw[hw1,AD,AD]
 have hR1:w1.heap[w.heap.size+1]? = some (.cells #[.slice none 0 0] 28 (0,0)):=by
  rw[hw1,<-AD w (.cells #[.slice aW AA.length cW,.slice aP b.AM.length cP,.slice aL b.AQ.length cL,.slice aN b.AG.length cN,.slice aX b.AK.length cX,.slice aS b.sn.length cS,.slice aF b.fr.length cF,.slice aR b.rws.length cR] 36)];exact heap_alloc_new _ _
 have hB1:w1.heap[w.heap.size]? = some (.cells #[.slice aW AA.length cW,.slice aP b.AM.length cP,.slice aL b.AQ.length cL,.slice aN b.AG.length cN,.slice aX b.AK.length cX,.slice aS b.sn.length cS,.slice aF b.fr.length cF,.slice aR b.rws.length cR] 36 (0,0)):=by rw[hw1];exact (Below.block ((AC.refl _).alloc _) _ (by rw[AD];omega)).trans (heap_alloc_new _ _)
 go_enter_defers Tryz.func65,Tryz.ntmps65
 go_upto_region 2 with fail
 rw[<-hw1];clear hw1;go_wp2_with (first|refine wpList_load_row rfl 36 _ rfl w.heap.size rfl 36 _ (0,0) _ hB1 Tryz.underlying36 rfl AL ?_|fail)
 refine (C _ K1).mono ?_;rintro e w2 ⟨rfl,k2⟩;have K2:=K1.trans k2;have hsz:=k2.size;have hR2:=(Below.block k2 (w.heap.size+1) (by omega)).trans hR1;have hB2:=(Below.block k2 w.heap.size (by omega)).trans hB1;have k3:AC w2 (w2.alloc (.cells #[] 2)):=(AC.refl w2).alloc _;have O3:BO (w2.alloc (.cells #[] 2)) (w.heap.size+2) (.slice (some ⟨w2.heap.size,0,none⟩) 0 0) []:=World.ownsRow_lit w2 #[] 0 (by omega) (by decide) rfl;have hR3:=(Below.block k3 (w.heap.size+1) (by omega)).trans hR2;have hB3:=(Below.block k3 w.heap.size (by omega)).trans hB2;have K3:=K2.trans k3;have hsz3:=k3.size;clear hR1 hB1 hB2 C;cases hb:Ac AA b
 ·
  rw[Af rfl];have HE:Hid (Lq AA b=[]):=Lib.hid (by rw[HD.out,hb];rfl);obtain⟨hc,-,OZ,KZ,-,-⟩:=RQ O3 K3 hR3;go_wp2;refine leaves_cons (f:=96) (args:=#[.pointer (some ⟨w.heap.size+1,0,none⟩)]) (by simp) (by simp[go_sem]) ?_;refine (lK _ _ _ hR2).mono ?_;rintro e u' w9 ⟨rfl,rfl,rfl⟩;simp[Leaves,settle,results,Tryz.results65,go_sem,hc];exact⟨by rw[HE.out];exact OZ.BM (by omega),KZ⟩
 ·
  rw[Au rfl];have HE:Hid (Lq AA b=b.sn++b.AM):=Lib.hid (by rw[HD.out,hb];rfl);clear HD hb hR2;obtain⟨w3,hw3⟩:∃W:World,W=w2.alloc (.cells #[] 2):=⟨_,rfl⟩;rw[<-hw3] at O3 hR3 hB3 K3 k3 hsz3;have f5:w3.cell? ⟨w.heap.size,5,none⟩=some (.slice aS b.sn.length cS):=by rw[cell_of_row w3 _ 5 _ _ _ hB3];rfl
  have f5':(w2.alloc (.cells #[] 2)).cell? ⟨w.heap.size,5,none⟩=some (.slice aS b.sn.length cS):=by rw[<-hw3];exact f5
  go_wp2_with (at_builtin;rw[<-hw3];refine A6 rfl _ _ rfl (w.heap.size+2) _ [] rfl O3 _ rfl b.sn (HS.out.keep K3) (by simp) z1 (by omega) ?_)
  intro v4 w4 O4 g4 _;rw[<-hw3] at g4;have hge:∀k,some w2.heap.size=some k->w.heap.size+2<=k:=fun k hk=>by have:=Option.some.inj hk;omega
  have K4:AC w w4:=K3.grown g4 (fun k hk=>by have:=hge k hk;omega);have hR4:w4.heap[w.heap.size+1]? = some (.cells #[.slice none 0 0] 28 (0,0)):=(g4.block _ (by omega) (fun e=>by have:=hge _ e.symm;omega)).trans hR3;have hB4:=(g4.block w.heap.size (by omega) (fun e=>by have:=hge _ e.symm;omega)).trans hB3;have hsz4:=g4.size;clear hR3 hB3 O3 f5 f5' hw3 g4;obtain⟨a4,x4,rfl,-⟩:=id O4.rd;obtain⟨hc4,hS5,O5,K5,c4,fr4⟩:=RQ O4 K4 hR4;have hB5:=(heap_setCell_other w4 ⟨w.heap.size+1,0,none⟩ w.heap.size (.slice a4 b.sn.length x4) (by show w.heap.size≠w.heap.size+1;omega)).trans hB4;have hsz5:w4.heap.size=(w4.setCell ⟨w.heap.size+1,0,none⟩ (.slice a4 b.sn.length x4)).heap.size:=by simp
  go_upto_region 4 with fail
  generalize w4.setCell ⟨w.heap.size+1,0,none⟩ (.slice a4 b.sn.length x4)=w5 at *;have f1:w5.cell? ⟨w.heap.size,1,none⟩=some (.slice aP b.AM.length cP):=by rw[cell_of_row w5 _ 1 _ _ _ hB5];rfl
  clear c4 fr4 O4 hR4 hB4;go_wp2_with (at_builtin;refine A6 rfl _ _ rfl (w.heap.size+2) _ b.sn rfl O5 _ rfl b.AM (HP.out.keep K5) z1 z2 (by omega) ?_)
  intro v6 w6 O6 g6 _;have K6:AC w w6:=K5.grown g6 (fun k hk=>by have:=O5.ge k hk;omega);have hR6:w6.heap[w.heap.size+1]? = some (.cells #[.slice a4 b.sn.length x4] 28 (0,0)):=(g6.block _ (by omega) (fun e=>by have:=O5.ge _ e.symm;omega)).trans hS5;clear hS5 hB5 O5 f1 g6 hc4;generalize b.sn++b.AM=out at O6 HE;obtain⟨a6,x6,rfl,-⟩:=id O6.rd;obtain⟨hc,-,O7,K7,c6,fr6⟩:=RQ O6 K6 hR6;clear hR6 O6;go_wp2;refine leaves_cons (f:=96) (args:=#[.pointer (some ⟨w.heap.size+1,0,none⟩)]) (by simp) (by simp[go_sem]) ?_;refine (fG _ _).mono ?_;rintro e u' w9 ⟨rfl,rfl,rfl⟩;simp[Leaves,settle,results,Tryz.results65,go_sem,hc];exact⟨by rw[HE.out];exact O7.BM (by omega),K7⟩
noncomputable def Qo (w:World) (g:Nat) (k x:Value):World:=match (Instr.mapUpdate 85 (.map (some g)) k x).run Tryz.prog w with | .ok _ w'=>w'|_=>w
theorem KX {w:World}{g:Nat}{b:Bd}(hk:∃kl,keyOf Tryz.prog 82 (Hb b)=some kl)(bv:BV)(hW:Wv w g #[] []):(Instr.mapUpdate 85 (.map (some g)) (Hb b) bv.agg).run Tryz.prog w = .ok () (Qo w g (Hb b) bv.agg)/\(∃es',Wv (Qo w g (Hb b) bv.agg) g es' [(bv,b)])/\w.grownBy (Qo w g (Hb b) bv.agg) (some g):=by
 obtain⟨w',es',hrun,h1,h2⟩:=hW.put (by decide) hk bv;have e:Qo w g (Hb b) bv.agg=w':=by unfold Qo;rw[hrun]
 rw[e];exact⟨hrun,⟨es',h1⟩,h2⟩
theorem Xn {w w':World}{r:Option Nat}(h:w.grownBy w' r){g j:Nat}(hg:g<w.heap.size)(hr:r≠some g):w'.cell? ⟨g,j,none⟩=w.cell? ⟨g,j,none⟩:=World.cell?_of_block (a:=⟨g,j,none⟩) (h.block g hg (fun e=>hr e.symm))
theorem jT {w w1 w2 w3 Wi:World}{ds:List (List Dd)}{b:Bd}{bv:BV}{q q':Nat}(K1:AC w w1)(hE:w1.heap[w.heap.size]? = some (.cells #[] 28 (0,0)))(s1:w1.heap.size=w.heap.size+1)(k2:AC w1 w2)(F:CX w2 w1.heap.size w2.heap.size bv ds b)(k3:AC w2 w3)(hk:∃kl,keyOf Tryz.prog 82 (Hb b)=some kl)
  (I:Wv Wi q #[] []) (I':Wv Wi q' #[] []) (K:AC w3 Wi) (hq:w3.heap.size<=q) (hq':w3.heap.size<=q') (hne:q≠q'):∃es,Mv w (Qo Wi q (Hb b) bv.agg) ds (fun g=>w1.heap.size<=g/\g<w2.heap.size) (.slice (some ⟨w.heap.size,0,none⟩) 0 0) [] [] q q' es [(bv,b)]:=by
 obtain⟨-,⟨es,h1⟩,h2⟩:=KX hk bv I;exact⟨es,Mv.new K1 hE s1 k2 F k3 (K.grown h2 (fun g e=>by have:=Option.some.inj e;omega)) h1 (I'.kept h2 (fun e=>hne (Option.some.inj e))) hne hq hq'⟩
theorem jU {w w1 w2 w3 Wi:World}{ds:List (List Dd)}{b:Bd}{bv:BV}{q:Nat}(K1:AC w w1)(hE:w1.heap[w.heap.size]? = some (.cells #[] 28 (0,0)))(s1:w1.heap.size=w.heap.size+1)(k2:AC w1 w2)(F:CX w2 w1.heap.size w2.heap.size bv ds b)(k3:AC w2 w3)(hk:∃kl,keyOf Tryz.prog 82 (Hb b)=some kl)
  (I:Wv Wi q #[] []) (K:AC w3 Wi) (hq:w3.heap.size<=q):∃es,Mv w (bE (Qo Wi q (Hb b) bv.agg)) ds (fun g=>w1.heap.size<=g/\g<w2.heap.size) (.slice (some ⟨w.heap.size,0,none⟩) 0 0) [] [] q (Yl (Qo Wi q (Hb b) bv.agg)) es [(bv,b)]:=by
 obtain⟨-,⟨es,h1⟩,h2⟩:=KX hk bv I;have hl:=h1.lt;have z:=h2.size;have zk:=K.size;exact⟨es,Mv.new K1 hE s1 k2 F k3 ((K.grown h2 (fun g e=>by have:=Option.some.inj e;omega)).trans (AW _)) (h1.keep (AW _)) (Wv.mk' _) (by unfold Yl;omega) hq (by unfold Yl;omega)⟩
structure Wg (S:Sy)(l:List (List Int)):Prop where
 ord:PH l
 all:∀e,e∈l↔∃b,S.R b/\S.en b=true/\e=As b
theorem kT (vs:List BV)(bs:List Bd):(WG vs bs bs.length).map (·.2)=bs:=by
 unfold WG;rw[List.map_map];apply List.ext_getElem (by simp);intro i h1 h2;rw[List.getElem_map,List.getElem_range];show bs.getD i Mt=_;rw[List.getD_eq_getElem?_getD,List.getElem?_eq_getElem h2];rfl
theorem Tu.ends {ds:List (List Dd)}{S:Sy}(C:yM ds S){n:Int}{dn lx:List Bd}{E:List (List Int)}(D:E4 S n dn lx E):E.length<=78125/\∀i,i<E.length->(E.getD i []).length<=15:=by
 refine⟨C.fe E D.nd (fun z hz=>by obtain⟨b,q1,q2,q3,_⟩:=D.e1 z hz;exact⟨b,q1,q2,q3⟩),fun i hi=>?_⟩;have hm:E.getD i []∈E:=by rw[List.getD_eq_getElem?_getD,List.getElem?_eq_getElem hi];exact List.getElem_mem hi
 obtain⟨b,q1,q2,q3,_⟩:=D.e1 _ hm;rw[q3];exact C.sl q1 q2
theorem PF {E E':List (List Int)}(hp:E'.Perm E)(hn:E.Nodup)(hs:∀i j,i<j->j<E'.length->Bx (E'.getD j []) (E'.getD i [])=false):PH E':=by
 have hn':E'.Nodup:=hp.nodup_iff.2 hn;unfold PH;rw[List.pairwise_iff_getElem];intro i j hi hj hij;have q:=hs i j hij hj;have ei:E'.getD i []=E'[i]:=by rw[List.getD_eq_getElem?_getD,List.getElem?_eq_getElem hi];rfl
 have ej:E'.getD j []=E'[j]:=by rw[List.getD_eq_getElem?_getD,List.getElem?_eq_getElem hj];rfl
 rw[ei,ej] at q;rcases Gg E'[i] E'[j] with e|e|e
 . have:=(List.getElem_inj hn').1 e;omega
 . exact e
 . rw[e] at q;cases q
theorem NM (w:World)(v:Value)(AA:List (List Dd))(h:Fz w v AA)(hx:AA.length<=1048576)(hm:∀i,i<AA.length->(AA.getD i []).length<=1048576){S:Sy}(ok:LM S)(Z:Rp (Ma AA) S)(C:yM (Ma AA) S)(hb0:S.b0=PB AA)(g:Nat)(hg:g=31\/g=32)(CA:Ty g (Ma AA) S):
  Calls Tryz.prog 30 #[v,.func (Fn.func g) #[] #[]] w fun e w'=>∃v' hs l,e = .returned v'/\C4 28 Bk w' w.heap.size v' hs l/\Wg S l/\AC w w':=by
 have XO:=Lib.hid ok;have XZ:=Lib.hid Z;have XC:=Lib.hid C;have XA:=Lib.hid CA;have XG:=Lib.hid hg;have XB:=Lib.hid hb0;have CN:=fun (W:World) (kW:AC w W)=>Lc W v AA (h.keep kW) hx hm
 obtain⟨aD,cD,rfl,-⟩:=id h;obtain⟨w1,hw1⟩:∃W:World,W=w.alloc (.cells #[] 28):=⟨_,rfl⟩;have K1:AC w w1:=by rw[hw1];exact (AC.refl w).alloc _
 have s1:w1.heap.size=w.heap.size+1:=by rw[hw1,AD]
 have hE1:w1.heap[w.heap.size]? = some (.cells #[] 28 (0,0)):=by rw[hw1];exact heap_alloc_new _ _
 clear h hm ok Z C hb0 CA hg;go_enter Tryz.func30,Tryz.ntmps30
 go_upto_region 2 with fail
 rw[<-hw1];clear hw1;go_wp2_with fail
 refine (CN _ K1).mono ?_;rintro e w2 ⟨bv,rfl,F2,k2⟩;obtain⟨ds,hds⟩:∃ds,ds=Ma AA:=⟨_,rfl⟩;obtain⟨b0,hb0⟩:∃b0,b0=PB AA:=⟨_,rfl⟩;rw[<-hds] at XZ XC XA F2;rw[<-hb0] at XB F2;clear hds hb0 CN;obtain⟨uW,uP,uL,uN,uX,uS,uF,uR,Wd,WZ,WX,WY,We,Wc,WW,Wa,rfl⟩:=F2.rd.shapes;obtain⟨w3,hw3⟩:∃W:World,W=w2.alloc (.cells #[.slice uW ds.length Wd,.slice uP b0.AM.length WZ,.slice uL b0.AQ.length WX,.slice uN b0.AG.length WY,.slice uX b0.AK.length We,.slice uS b0.sn.length Wc,.slice uF b0.fr.length WW,.slice uR b0.rws.length Wa] 36):=⟨_,rfl⟩;have k3:AC w2 w3:=by rw[hw3];exact (AC.refl w2).alloc _
 have hD3:w3.heap[w2.heap.size]? = some (.cells #[.slice uW ds.length Wd,.slice uP b0.AM.length WZ,.slice uL b0.AQ.length WX,.slice uN b0.AG.length WY,.slice uX b0.AK.length We,.slice uS b0.sn.length Wc,.slice uF b0.fr.length WW,.slice uR b0.rws.length Wa] 36 (0,0)):=by rw[hw3];exact heap_alloc_new _ _
 have s3:w3.heap.size=w2.heap.size+1:=by rw[hw3,AD]
 have hR0:S.R b0:=by have:=XO.out.new.1;rw[XB.out] at this;exact this
 have key0:=aZ (XZ.out.one hR0);have st0:=(XZ.out.one hR0).st;go_upto_region 3 with fail
 rw[<-hw3];clear hw3;have zh:=Lib.hid K1;have zy:=Lib.hid k2;have rY:=Lib.hid k3;have XE:=Lib.hid hE1;have XF:=Lib.hid F2;have XR:=Lib.hid hR0;have XD:=Lib.hid hD3;have mkr:∀(t:TypeId) (w:World),(Instr.makeMap t none).run Tryz.prog w = .ok (.map (some (Yl w))) (bE w):=qV;have kd:AC w3 w3.drew:=(AC.refl w3).drew;have c0:(w3.drew).cell? ⟨w2.heap.size,0,none⟩=some (.slice uW ds.length Wd):=by rw[show (w3.drew).cell? ⟨w2.heap.size,0,none⟩=w3.cell? ⟨w2.heap.size,0,none⟩ from rfl,cell_of_row _ _ 0 _ _ _ hD3];rfl
 have c1:(w3.drew).cell? ⟨w2.heap.size,1,none⟩=some (.slice uP b0.AM.length WZ):=by rw[show (w3.drew).cell? ⟨w2.heap.size,1,none⟩=w3.cell? ⟨w2.heap.size,1,none⟩ from rfl,cell_of_row _ _ 1 _ _ _ hD3];rfl
 have c2:(w3.drew).cell? ⟨w2.heap.size,2,none⟩=some (.slice uL b0.AQ.length WX):=by rw[show (w3.drew).cell? ⟨w2.heap.size,2,none⟩=w3.cell? ⟨w2.heap.size,2,none⟩ from rfl,cell_of_row _ _ 2 _ _ _ hD3];rfl
 have c3:(w3.drew).cell? ⟨w2.heap.size,3,none⟩=some (.slice uN b0.AG.length WY):=by rw[show (w3.drew).cell? ⟨w2.heap.size,3,none⟩=w3.cell? ⟨w2.heap.size,3,none⟩ from rfl,cell_of_row _ _ 3 _ _ _ hD3];rfl
 have c4:(w3.drew).cell? ⟨w2.heap.size,4,none⟩=some (.slice uX b0.AK.length We):=by rw[show (w3.drew).cell? ⟨w2.heap.size,4,none⟩=w3.cell? ⟨w2.heap.size,4,none⟩ from rfl,cell_of_row _ _ 4 _ _ _ hD3];rfl
 have c5:(w3.drew).cell? ⟨w2.heap.size,5,none⟩=some (.slice uS b0.sn.length Wc):=by rw[show (w3.drew).cell? ⟨w2.heap.size,5,none⟩=w3.cell? ⟨w2.heap.size,5,none⟩ from rfl,cell_of_row _ _ 5 _ _ _ hD3];rfl
 have c6:(w3.drew).cell? ⟨w2.heap.size,6,none⟩=some (.slice uF b0.fr.length WW):=by rw[show (w3.drew).cell? ⟨w2.heap.size,6,none⟩=w3.cell? ⟨w2.heap.size,6,none⟩ from rfl,cell_of_row _ _ 6 _ _ _ hD3];rfl
 have c7:(w3.drew).cell? ⟨w2.heap.size,7,none⟩=some (.slice uR b0.rws.length Wa):=by rw[show (w3.drew).cell? ⟨w2.heap.size,7,none⟩=w3.cell? ⟨w2.heap.size,7,none⟩ from rfl,cell_of_row _ _ 7 _ _ _ hD3];rfl
 have c8:w2.heap.size<(w3.drew).heap.size:=by show w2.heap.size<w3.heap.size;omega
 have Sf:∀(W:World) (q:Nat),Wv W q #[] []->(Instr.mapUpdate 85 (.map (some q)) (Hb b0) (.agg #[.slice uW ds.length Wd,.slice uP b0.AM.length WZ,.slice uL b0.AQ.length WX,.slice uN b0.AG.length WY,.slice uX b0.AK.length We,.slice uS b0.sn.length Wc,.slice uF b0.fr.length WW,.slice uR b0.rws.length Wa])).run Tryz.prog W = .ok () (Qo W q (Hb b0) (.agg #[.slice uW ds.length Wd,.slice uP b0.AM.length WZ,.slice uL b0.AQ.length WX,.slice uN b0.AG.length WY,.slice uX b0.AK.length We,.slice uS b0.sn.length Wc,.slice uF b0.fr.length WW,.slice uR b0.rws.length Wa])):=fun W q hW=>(KX key0 ⟨.slice uW ds.length Wd,.slice uP b0.AM.length WZ,.slice uL b0.AQ.length WX,.slice uN b0.AG.length WY,.slice uX b0.AK.length We,.slice uS b0.sn.length Wc,.slice uF b0.fr.length WW,.slice uR b0.rws.length Wa⟩ hW).1
 have wv0:∀W:World,Wv (bE W) (Yl W) #[] []:=Wv.mk';have wv1:∀(W:World) (q:Nat),Wv W q #[] []->Wv (bE W) q #[] []:=fun W q h=>h.keep (AW W)
 clear K1 k2 k3 hE1 F2 hR0 hD3;go_cut [8,9] from 12 (fun s8 s9 wx=>∃bn bx es,s8 = .map (some bn)/\s9 = .map (some bx)/\Mv w wx ds (fun g=>w1.heap.size<=g/\g<w2.heap.size) (.slice (some ⟨w.heap.size,0,none⟩) 0 0) [] [] bn bx es [(⟨.slice uW ds.length Wd,.slice uP b0.AM.length WZ,.slice uL b0.AQ.length WX,.slice uN b0.AG.length WY,.slice uX b0.AK.length We,.slice uS b0.sn.length Wc,.slice uF b0.fr.length WW,.slice uR b0.rws.length Wa⟩,b0)])
 case first=>
  go_wp2_with fail
  go_region_held3 (fun w'=>w'.cell? ⟨w2.heap.size,0,none⟩=some (.slice uW ds.length Wd)/\w'.cell? ⟨w2.heap.size,1,none⟩=some (.slice uP b0.AM.length WZ)/\w'.cell? ⟨w2.heap.size,2,none⟩=some (.slice uL b0.AQ.length WX)/\w'.cell? ⟨w2.heap.size,3,none⟩=some (.slice uN b0.AG.length WY)/\w'.cell? ⟨w2.heap.size,4,none⟩=some (.slice uX b0.AK.length We)/\w'.cell? ⟨w2.heap.size,5,none⟩=some (.slice uS b0.sn.length Wc)/\w'.cell? ⟨w2.heap.size,6,none⟩=some (.slice uF b0.fr.length WW)/\w'.cell? ⟨w2.heap.size,7,none⟩=some (.slice uR b0.rws.length Wa)/\w2.heap.size<w'.heap.size)
   (first|(go_split_ands;first|(refine⟨?_,?_,?_,?_,?_,?_,?_,?_,?_⟩<;>(go_keep;done))|(refine⟨?_,?_,?_,?_,?_,?_,?_,?_,?_⟩<;>first|(rw[(AW _).cell (by assumption)];assumption)|(rw[DC];omega))|(refine⟨?_,?_,?_,?_,?_,?_,?_,?_,?_⟩<;>first|(rw[kk.cell (by assumption)];assumption)|(exact Nat.lt_of_lt_of_le (by assumption) kk.size))|(refine⟨?_,?_,?_,?_,?_,?_,?_,?_,?_⟩<;>first|(rw[Xn (KX key0 ⟨.slice uW ds.length Wd,.slice uP b0.AM.length WZ,.slice uL b0.AQ.length WX,.slice uN b0.AG.length WY,.slice uX b0.AK.length We,.slice uS b0.sn.length Wc,.slice uF b0.fr.length WW,.slice uR b0.rws.length Wa⟩ (by first|exact Wv.mk' _|exact (Wv.mk' _).keep (AW _)|exact (Wv.mk' _).keep kk|exact ((Wv.mk' _).keep kk).keep (AW _)|exact ((Wv.mk' _).keep (AW _)).keep kk)).2.2 (by assumption) (by simp only[ne_eq,Option.some.injEq,Yl,DC];omega)];assumption)|(exact Nat.lt_of_lt_of_le (by assumption) (KX key0 ⟨.slice uW ds.length Wd,.slice uP b0.AM.length WZ,.slice uL b0.AQ.length WX,.slice uN b0.AG.length WY,.slice uX b0.AK.length We,.slice uS b0.sn.length Wc,.slice uF b0.fr.length WW,.slice uR b0.rws.length Wa⟩ (by first|exact Wv.mk' _|exact (Wv.mk' _).keep (AW _)|exact (Wv.mk' _).keep kk|exact ((Wv.mk' _).keep kk).keep (AW _)|exact ((Wv.mk' _).keep (AW _)).keep kk)).2.2.size)))|(go_keep;done))
   ((first|(go_at_call 63;refine (MT _ ⟨.slice uW ds.length Wd,.slice uP b0.AM.length WZ,.slice uL b0.AQ.length WX,.slice uN b0.AG.length WY,.slice uX b0.AK.length We,.slice uS b0.sn.length Wc,.slice uF b0.fr.length WW,.slice uR b0.rws.length Wa⟩ ds b0 (by first|exact XF.out.rd.keep (rY.out.trans kd)|exact (XF.out.rd.keep (rY.out.trans kd)).keep (AW _)|exact ((XF.out.rd.keep (rY.out.trans kd)).keep (AW _)).keep (AW _)) st0).mono ?_;rintro e wz ⟨rfl,kk⟩;have wv2:=(fun (q:Nat) (h:Wv _ q #[] [])=>Wv.keep h kk);(try have a1:=Sf _ _ (wv2 _ (wv0 w3.drew)));(try have a2:=Sf _ _ (wv1 _ _ (wv2 _ (wv0 w3.drew))));(try have b1:=Sf _ _ (wv2 _ (wv1 _ _ (wv0 w3.drew))));(try have b2:=Sf _ _ (wv2 _ (wv0 (bE w3.drew))));have hz8:w2.heap.size<wz.heap.size:=(by have q:=kk.size;(try simp only[DC] at q);omega);have d1:=Sf _ _ (wv0 wz);have d2:=Sf _ _ (wv1 _ _ (wv0 wz));have d3:=Sf _ _ (wv0 (bE wz)))|fail))
  all_goals
   go_wp2;go_meet;refine Exists.elim (α:=Array MapEntry) (by first|exact jT (bv:=⟨.slice uW ds.length Wd,.slice uP b0.AM.length WZ,.slice uL b0.AQ.length WX,.slice uN b0.AG.length WY,.slice uX b0.AK.length We,.slice uS b0.sn.length Wc,.slice uF b0.fr.length WW,.slice uR b0.rws.length Wa⟩) zh.out XE.out s1 zy.out XF.out rY.out key0 (by first|exact Wv.mk' _|exact (Wv.mk' _).keep (AW _)|exact (Wv.mk' _).keep kk|exact ((Wv.mk' _).keep kk).keep (AW _)|exact ((Wv.mk' _).keep (AW _)).keep kk) (by first|exact Wv.mk' _|exact (Wv.mk' _).keep (AW _)|exact (Wv.mk' _).keep kk|exact ((Wv.mk' _).keep kk).keep (AW _)|exact ((Wv.mk' _).keep (AW _)).keep kk) (by first|exact kd.trans kk|exact (kd.trans kk).trans (AW _)|exact ((kd.trans kk).trans (AW _)).trans (AW _)|exact kd.trans ((AW _).trans kk)|exact (kd.trans ((AW _).trans kk)).trans (AW _)|exact ((kd.trans ((AW _).trans kk)).trans (AW _)).trans (AW _)|exact kd.trans ((AW _).trans ((AW _).trans kk))|exact (kd.trans ((AW _).trans ((AW _).trans kk))).trans (AW _)|exact ((kd.trans ((AW _).trans ((AW _).trans kk))).trans (AW _)).trans (AW _)) (by have q:=kk.size;(try simp only[DC] at q);(try simp only[BL] at q);(try simp only[Yl]);(try simp only[DC]);(try simp only[BL]);omega) (by have q:=kk.size;(try simp only[DC] at q);(try simp only[BL] at q);(try simp only[Yl]);(try simp only[DC]);(try simp only[BL]);omega) (by have q:=kk.size;(try simp only[DC] at q);(try simp only[BL] at q);(try simp only[Yl]);(try simp only[DC]);(try simp only[BL]);omega)|exact jU (bv:=⟨.slice uW ds.length Wd,.slice uP b0.AM.length WZ,.slice uL b0.AQ.length WX,.slice uN b0.AG.length WY,.slice uX b0.AK.length We,.slice uS b0.sn.length Wc,.slice uF b0.fr.length WW,.slice uR b0.rws.length Wa⟩) zh.out XE.out s1 zy.out XF.out rY.out key0 (by first|exact Wv.mk' _|exact (Wv.mk' _).keep (AW _)|exact (Wv.mk' _).keep kk|exact ((Wv.mk' _).keep kk).keep (AW _)|exact ((Wv.mk' _).keep (AW _)).keep kk) (by first|exact kd.trans kk|exact (kd.trans kk).trans (AW _)|exact ((kd.trans kk).trans (AW _)).trans (AW _)|exact kd.trans ((AW _).trans kk)|exact (kd.trans ((AW _).trans kk)).trans (AW _)|exact ((kd.trans ((AW _).trans kk)).trans (AW _)).trans (AW _)|exact kd.trans ((AW _).trans ((AW _).trans kk))|exact (kd.trans ((AW _).trans ((AW _).trans kk))).trans (AW _)|exact ((kd.trans ((AW _).trans ((AW _).trans kk))).trans (AW _)).trans (AW _)) (by have q:=kk.size;(try simp only[DC] at q);(try simp only[BL] at q);(try simp only[Yl]);(try simp only[DC]);(try simp only[BL]);omega)) (fun es hO=>⟨_,_,es,rfl,rfl,hO⟩)
 obtain⟨bn,bx,es,rfl,rfl,O1⟩:=hcut
 have G1:Fx S 0 (([(⟨.slice uW ds.length Wd,.slice uP b0.AM.length WZ,.slice uL b0.AQ.length WX,.slice uN b0.AG.length WY,.slice uX b0.AK.length We,.slice uS b0.sn.length Wc,.slice uF b0.fr.length WW,.slice uR b0.rws.length Wa⟩,b0)]:List (BV×Bd)).map (·.2)):=by
  have q:=Xj XO.out;rw[XB.out] at q;exact q
 have D1:=Xc XO.out;obtain⟨i0,hi,hz0,hz1,hz2⟩:=info_parts Tryz.Qm;clear zh zy rY XE XF XR XD mkr Sf wv0 wv1 c0 c1 c2 c3 c4 c5 c6 c7 c8 kd key0 st0;go_wp2;go_loopg [5,8,9,11] 26 (fun k s5 s8 s9 _ wr=>∃(n:Nat) (P:Nat->Prop) (ve:Value) (hs:List Value) (E:List (List Int)) (bn bx:Nat) (es:Array MapEntry) (l:List (BV×Bd)),ve=s5/\s8 = .map (some bn)/\s9 = .map (some bx)/\26-n=k/\n<=25/\Mv w wr ds P ve hs E bn bx es l/\Fx S (n:Int) (l.map (·.2))/\E4 S (n:Int) [] [] E)
 case atStart=>exact⟨0,_,_,_,_,bn,bx,es,_,rfl,rfl,rfl,rfl,by omega,O1,G1,D1⟩
 case round=>
  clear O1 G1 D1;obtain⟨n,P,ve,hs,E,bn,bx,es,l,rfl,rfl,rfl,hk,hn,O,G,D⟩:=hrel;have hlen:=O.wn.len;have XK:=Lib.hid hk;obtain⟨hE1,hE2⟩:=Tu.ends XC.out D;clear hk;by_cases hz:es.size=0
  ·
   have hl:l=[]:=by
    cases l with
    |nil=>rfl
    |cons p l=>
     obtain⟨x,hx,_⟩:=O.wn.yZ p (by simp);have:es=#[]:=Array.eq_empty_of_size_eq_zero hz;rw[this] at hx;simp at hx
   subst hl;have hz':¬(0:Int)<(es.size:Int):=by omega
   have CS:=RR wr _ ve hs E O.en O.nz (by omega) (fun i hi=>by have:=hE2 i hi;omega);have XF:=Lib.hid (D.ZG XO.out (by omega) G);have XN:=Lib.hid D.nd;have zm:=Lib.hid O.K;have XB:=Lib.hid (fun q (hq:ve.ownBlock=some q)=>(O.en.Ag.lt (i:=none) trivial q hq).1);clear O G D hE1 hE2;go_wp2_with fail
   refine CS.mono ?_;rintro e wf ⟨rfl,hs',E',O',hp,hso,hg⟩;have XE:=Lib.hid (show Wg S E' from ⟨PF hp XN.out hso,fun e=>by rw[hp.mem_iff];exact XF.out e⟩);have XO':=Lib.hid O';have XG':=Lib.hid hg;clear CS hp hso O' hg hlen;go_wp2;go_ret;exact⟨_,hs',E',rfl,XO'.out,XE.out,zm.out.grown XG'.out (fun q hq=>XB.out q hq)⟩
  ·
   have hz':(0:Int)<(es.size:Int):=by omega
   have hzd:decide (0<es.size)=true:=decide_eq_true (by omega);have hzn:0<es.size:=by omega
   have hn24:n<=24:=by
    have hl:l≠[]:=fun e=>by
     subst e
     have:es.toList=[]:=by
      cases h:es.toList with
      |nil=>rfl
      |cons x r=>
       obtain⟨p,hp,_⟩:=O.wn.qB x (by rw[h];simp);cases hp
     apply hz;rw[<-Array.length_toList,this];rfl
    have:=G.top XO.out (by simpa using hl);omega
   obtain⟨c,hb,I0⟩:=O.range;have hrg:=run_range_map (P:=Tryz.prog) wr 85 82 36 bn es c Tryz.underlying85 hb;obtain⟨r,hr⟩:∃r,r=wr.heap.size:=⟨_,rfl⟩;obtain⟨wa,Ud⟩:∃W:World,W=wr.alloc (.mapIter (some bn) c #[] c):=⟨_,rfl⟩;rw[<-hr,<-Ud] at hrg I0;have J0:=Tu.new (es:=es) (by omega) G D;have XHZ:=Lib.hid hz;clear O G D hE1 hE2 hb hr Ud hz;obtain⟨wo,rfl⟩:∃wo:World,wo=wr:=⟨_,rfl⟩;go_wp2;clear hrg hlen hz';go_loopg [5,11] (leftOf es #[]).size (fun k s5 _ wq=>∃(P:Nat->Prop) (ve:Value) (hs:List Value) (E:List (List Int)) (On:Array MapEntry) (lx:List (BV×Bd)) (seen:Array Nat) (dn:List Bd),ve=s5/\(leftOf es seen).size=k/\L9 w wq ds P ve hs E bn bx r es l On lx seen/\Tu S (n:Int) es l seen dn lx E)
   case atStart=>exact⟨_,_,_,_,_,_,_,_,rfl,rfl,I0,J0⟩
   case round=>
    clear I0 J0;obtain⟨P,ve,hs,E,On,lx,seen,dn,rfl,hk,I,J⟩:=hrel;have XJ:=Lib.hid J;have XKK:=Lib.hid hk;clear J hk;rcases I.next with ⟨h0,hnx⟩|⟨x,p,w5,hxe,hxs,hpl,hxk,hlt,hnx,hen,I5⟩
    ·
     obtain⟨w6,hcl,O6⟩:=I.clear;have XN:=Lib.hid (XJ.out.end XO.out XZ.out I.wn h0)
     have XM:Hid (Fx S ((n+1:Nat):Int) (lx.map (·.2))/\E4 S ((n+1:Nat):Int) [] [] E):=Lib.hid (by
      have q:=XN.out
      rwa [show ((n:Int)+1)=((n+1:Nat):Int) by omega] at q)
     have XO6:=Lib.hid O6;clear I h0 O6 XN;go_wp2;go_roundg (26-(n+1))
     case measure=>rw[<-XK.out];omega
     case rel=>exact⟨n+1,P,ve,hs,E,bx,bn,On,lx,rfl,rfl,rfl,rfl,by omega,XO6.out,XM.out.1,XM.out.2⟩
    ·
     obtain⟨hR,htm⟩:=XJ.out.one hpl;have hH:=I5.held p hpl;have XP:=Lib.hid (And.intro hxe (And.intro hxs (And.intro hpl (And.intro hxk hlt))));have zf:=Lib.hid I5;have XPW:=Lib.hid (And.intro I.wn.pw I.wn.nd);obtain⟨bp,bd⟩:=p;simp only at hR htm hH hnx hen hxk XP;obtain⟨bW,bP,bL,bN,bX,bS,bF,bR,dW,dP,dL,dN,dX,dS,dF,dR,rfl⟩:=hH.rd.shapes;have XH:=Lib.hid hH;have iq:=Lib.hid hR;clear hH hR I I5 hxe hxs hpl hxk hlt;obtain⟨w6,hw6⟩:∃W:World,W=w5.alloc (.cells #[.slice bW ds.length dW,.slice bP bd.AM.length dP,.slice bL bd.AQ.length dL,.slice bN bd.AG.length dN,.slice bX bd.AK.length dX,.slice bS bd.sn.length dS,.slice bF bd.fr.length dF,.slice bR bd.rws.length dR] 36):=⟨_,rfl⟩;have k6:AC w5 w6:=by rw[hw6];exact (AC.refl w5).alloc _
     have d6:w6.heap[w5.heap.size]? = some (.cells #[.slice bW ds.length dW,.slice bP bd.AM.length dP,.slice bL bd.AQ.length dL,.slice bN bd.AG.length dN,.slice bX bd.AK.length dX,.slice bS bd.sn.length dS,.slice bF bd.fr.length dF,.slice bR bd.rws.length dR] 36 (0,0)):=by rw[hw6];exact heap_alloc_new _ _
     have s6:w5.heap.size<w6.heap.size:=by rw[hw6,AD];omega
     obtain⟨D,hDe⟩:∃D,D=w5.heap.size:=⟨_,rfl⟩;have XQ:Hid (∀q,ve.ownBlock=some q->q≠D):=Lib.hid (fun q hq e=>by have:=(zf.out.en.Ag.lt (i:=none) trivial q hq).2;omega);have XI6:=Lib.hid (zf.out.keep k6);have zb:=Lib.hid (XH.out.on (Aw.B0 k6));go_upto_region 8 with fail
     rw[<-hw6,<-hDe];rw[<-hDe] at d6 s6;clear hw6 hDe k6 hnx hen zf XH;have CE:=Oy w6 _ ds bd zb.out.rd (XC.out.sz iq.out);rw[XC.out.en iq.out] at CE;obtain⟨tt,htt⟩:∃tt,tt=S.en bd:=⟨_,rfl⟩;rw[<-htt] at CE;have XT:=Lib.hid htt;clear htt;go_wp2_with (first|refine wpList_load_row rfl 36 _ rfl D rfl 36 _ (0,0) _ d6 Tryz.underlying36 rfl AL ?_|fail)
     refine CE.mono ?_;rintro e w7 ⟨rfl,k7⟩;have gY:=Lib.hid (XI6.out.keep k7);have yQ:=Lib.hid (zb.out.on (Aw.B0 k7));have d7:=(Below.block k7 D s6).trans d6;have s7:=Nat.lt_of_lt_of_le s6 k7.size;clear CE d6 s6 XI6 zb k7;go_upto_if 34 with fail
     go_cut [5] from 35 to 44 (fun s5 wx=>∃(v':Value) (hs':List Value),v'=s5/\L9 w wx ds P v' hs' (if S.en bd=true then E++[As bd] else E) bn bx r es l On lx (seen.push x.born)/\C7 wx P ⟨.slice bW ds.length dW,.slice bP bd.AM.length dP,.slice bL bd.AQ.length dL,.slice bN bd.AG.length dN,.slice bX bd.AK.length dX,.slice bS bd.sn.length dS,.slice bF bd.fr.length dF,.slice bR bd.rws.length dR⟩ ds bd/\wx.heap[D]? = some (.cells #[.slice bW ds.length dW,.slice bP bd.AM.length dP,.slice bL bd.AQ.length dL,.slice bN bd.AG.length dN,.slice bX bd.AK.length dX,.slice bS bd.sn.length dS,.slice bF bd.fr.length dF,.slice bR bd.rws.length dR] 36 (0,0)))
     case first=>
      cases tt with
      |true=>
       have CS:=Jd w7 _ ds bd yQ.out.rd (XC.out.sz iq.out);rw[XC.out.sh iq.out XT.out.symm] at CS;have XEN:Hid (S.en bd=true):=Lib.hid XT.out.symm;clear XT;go_wp2_with (first|refine wpList_load_row rfl 36 _ rfl D rfl 36 _ (0,0) _ d7 Tryz.underlying36 rfl AL ?_|fail)
       refine CS.mono ?_;rintro e w8 ⟨u,rfl,OU,k8⟩;obtain⟨au,cu,rfl,-⟩:=OU.rd;have k9:AC w8 (w8.alloc (.cells #[.slice au (As bd).length cu] 28)):=(AC.refl w8).alloc _;have hN:=heap_alloc_new w8 (.cells #[.slice au (As bd).length cu] 28);obtain⟨w9,hw9⟩:∃W:World,W=w8.alloc (.cells #[.slice au (As bd).length cu] 28):=⟨_,rfl⟩;rw[<-hw9] at hN k9;have k79:=k8.trans k9;have hrow:w9.ownsRow w.heap.size 28 1 ve hs.length hs:=World.ownsRow.kept (gY.out.en.Ag.own none trivial) k79.grownBy (Classical.em (ve.ownBlock=none));have hlen:hs.length<=78125:=by rw[gY.out.en.len];exact (Tu.ends XC.out XJ.out.done).1
       have hbs:w.heap.size<=w9.heap.size:=Nat.le_trans gY.out.K.size k79.size;have s9:w9.heap.size=w8.heap.size+1:=by rw[hw9,AD]
       clear CS;go_wp2_with ((at_builtin;rw[<-hw9];refine wpList_append_own_at _ rfl _ _ 26 rfl w.heap.size 28 i0 (.slice none 0 0) 1 24 Tryz.underlying26 hi hz0 hz1 hz2 rfl (by decide) _ _ _ rfl hrow ⟨w8.heap.size,0,none⟩ 1 1 [.slice au (As bd).length cu] rfl rfl (World.news_of_block (cs:=#[.slice au (As bd).length cu]) (t:=28) (fr:=(0,0)) hN) (by simp[Value.oneCell']) ?e3 ?e4 ?e5 ?_))
       case e3=>unfold maxLen;omega
       case e4=>omega
       case e5=>exact hbs
       intro v10 w10 hown10 hgrow10 hnil hblk10;rw[<-hw9] at hgrow10;have XW:=Lib.hid (And.intro hown10 (And.intro hgrow10 (And.intro hnil hblk10)));have Wm:=Lib.hid (And.intro k79 (And.intro OU k9));clear hown10 hgrow10 hnil hblk10 hrow hN hw9 k79 k8 k9 OU;go_wp2;go_meet;refine⟨_,hs++[.slice au (As bd).length cu],rfl,?_,?_,?_⟩
       ·
        rw[if_pos XEN.out];exact gY.out.push Wm.out.1 (Wm.out.2.1.keep Wm.out.2.2) XW.out.2.1 (by rw[s9];exact XW.out.2.2.2) XW.out.1 (fun e=>XW.out.2.2.1 e)
       . exact (yQ.out.on (Aw.B0 Wm.out.1)).on (Aw.DQ XW.out.2.1 (fun q hq=>gY.out.nE q hq))
       . exact (XW.out.2.1.block D (Nat.lt_of_lt_of_le s7 Wm.out.1.size) (fun e=>XQ.out D e.symm rfl)).trans ((Below.block Wm.out.1 D s7).trans d7)
      |false=>
       go_wp2;go_meet;exact⟨_,hs,rfl,by rw[if_neg (by rw[<-XT.out];simp)];exact gY.out,yQ.out,d7⟩
     clear d7 s7 gY yQ XQ XT;obtain⟨v7,hs7,rfl,I7,H7,d7⟩:=hcut;have CA:=XA.out wc _ bd iq.out H7.rd;have gY:=Lib.hid I7;have XG2:=XG.out;clear I7 H7;rcases XG2 with rfl|rfl
     all_goals
      go_wp2_with (first|refine wpList_load_row rfl 36 _ rfl D rfl 36 _ (0,0) _ d7 Tryz.underlying36 rfl AL ?_|fail)
      refine CA.mono ?_;rintro e w8 ⟨v8,rfl,⟨vs,P2,hSt,hlow⟩,k8⟩;have I8:=gY.out.wide k8 hlow;have hbxl:=gY.out.wx.lt;have CT:=fT w8 bx _ On lx v8 vs ds _ P2 XZ.out I8.wx (fun q hq=>XJ.out.AK XO.out hq) (fun q hq=>(XO.out.step iq.out hq).1) hSt (fun hp=>by have:=(hlow bx hp).1;omega) (fun e=>by have:=(hSt.lt bx e).1;omega) (by have:=XC.out.nl iq.out;omega);have XS:=Lib.hid (And.intro I8 (And.intro hSt k8));clear CA d7 I8 hSt k8 hlow hbxl;go_wp2_with fail
      refine CT.mono ?_;rintro e w9 ⟨rfl,⟨es9,W9⟩,G9⟩
      have I9:=Lib.hid (XS.out.1.put G9 W9 (fun q hq=>by
       rcases List.mem_append.1 hq with hq|hq
       . exact XS.out.1.Sc q hq
       ·
        obtain⟨j,hj,rfl,_⟩:=WH hq (Nat.le_refl _)
        exact (XS.out.2.1.each j hj).mono (fun _ => .inr)))
      have J9:=Lib.hid (XJ.out.step XO.out XPW.out.1 XPW.out.2 XP.out.1 XP.out.2.1 XP.out.2.2.1 XP.out.2.2.2.1 (kT vs (S.nx bd)));clear CT W9 G9;go_wp2;go_roundg (leftOf es (seen.push x.born)).size
      case measure=>rw[<-XKK.out];exact XP.out.2.2.2.2
      case rel=>exact⟨_,_,hs7,_,es9,_,_,_,rfl,rfl,I9.out,J9.out⟩
end Go.Proofs.YtnmelakgmgenjaaGreat
